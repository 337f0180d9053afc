/-
  Rows of numbers that grow from nothing or from an empty row: what each append keeps.
-/
import Derived.Test.YtlglijalhacmhabIntX
import Derived.Deep.MidRow
import Derived.Deep.DeepMust
import Derived.Deep.OwnRows
import Derived.OwnWalk
import Derived.Laws.AppendOwn
import Derived.Laws.AppendOwnNone
import Derived.Laws.OwnMore
namespace Go.Proofs.Ytlglijalhacmhab
open Go.ChangeShapes Go.WideShapes Go.ChangeAt Go.RowKit Go.Joins

def IRow (B : Nat) (D : List Int) (a : Option Addr) (cp : Nat) (w : World) : Prop := w.ownsRow B 2 1 (.slice a D.length cp) D.length (intVals D)
theorem IRow.nil (B : Nat) (w : World) : IRow B [] none 0 w := ⟨rfl, .inl ⟨rfl, rfl⟩⟩
theorem IRow.start (w : World) : IRow w.heap.size [] (some ⟨w.heap.size, 0, none⟩) 0 (w.alloc (.cells #[] 2)) :=
  ⟨rfl, .inr ⟨w.heap.size, 0, #[], rfl, Nat.le_refl _, heap_alloc_new w _, Nat.le_refl _, by decide, rfl, rfl⟩⟩
theorem IRow.later {B : Nat} {D : List Int} {a : Option Addr} {cp : Nat} {w w' : World} (h : IRow B D a cp w) (hb : Below w.heap.size w w') : IRow B D a cp w' := by
  refine ⟨h.1, ?_⟩
  rcases h.2 with hn | ⟨g, cap, cur, hv, hB, hgg, rest⟩
  · exact .inl hn
  · exact .inr ⟨g, cap, cur, hv, hB, (hb.block g (Array.getElem?_eq_some_iff.1 hgg).1).trans hgg, rest⟩
theorem IRow.mono {B B' : Nat} {D : List Int} {a : Option Addr} {cp : Nat} {w : World} (h : IRow B D a cp w) (hb : B' ≤ B) : IRow B' D a cp w := by
  refine ⟨h.1, ?_⟩
  rcases h.2 with hn | ⟨g, cap, cur, hv, hB, rest⟩
  · exact .inl hn
  · exact .inr ⟨g, cap, cur, hv, Nat.le_trans hb hB, rest⟩
theorem IRow.drew {B : Nat} {D : List Int} {a : Option Addr} {cp : Nat} {w : World} (h : IRow B D a cp w) : IRow B D a cp w.drew := h
theorem IRow.res {B : Nat} {D : List Int} {a : Option Addr} {cp : Nat} {w : World} (h : IRow B D a cp w) : IntRes B D a w := by
  by_cases h0 : D = []
  · exact .inl h0
  · obtain ⟨g, cap, e⟩ := own_form8 h (fun e => h0 (List.eq_nil_of_length_eq_zero e))
    obtain ⟨rfl, rfl⟩ : a = some ⟨g, 0, none⟩ ∧ cp = cap := by simpa using e
    refine .inr ⟨g, rfl, own_base8 h, fun k z hk => ?_, fun j hj => ?_, ?_⟩
    · have hl := (List.getElem?_eq_some_iff.1 hk).1
      rw [Nat.zero_add, World.ownsRow.cellAt h k (by omega)]
      simp [intVals, hk]
    · rw [Nat.zero_add]
      refine ⟨?_, World.ownsRow.frozenAt h j⟩
      rw [World.ownsRow.cellAt h j (by omega), List.getElem?_eq_getElem (by simpa [intVals] using hj)]
      rfl
    · rcases h.2 with ⟨h1, h2⟩ | ⟨b, c, cs, hv, _, hh, _⟩
      · cases h1
      · simp at hv
        rw [hv.1]
        exact (Array.getElem?_eq_some_iff.1 hh).1
/-- What an append leaves. -/
theorem IRow.snoc {B : Nat} {D : List Int} {d : Int} {v : Value} {w : World} (h : w.ownsRow B 2 1 v (D.length + 1) (intVals D ++ [.int .i64 d])) :
    ∃ g cp, v = .slice (some ⟨g, 0, none⟩) (D ++ [d]).length cp ∧ IRow B (D ++ [d]) (some ⟨g, 0, none⟩) cp w := by
  obtain ⟨g, cp, hv⟩ := own_form8 h (Nat.succ_ne_zero _)
  refine ⟨g, cp, by rw [hv]; simp, ?_⟩
  have e : intVals (D ++ [d]) = intVals D ++ [.int .i64 d] := by simp [intVals]
  show World.ownsRow _ _ _ _ _ _ _
  rw [e, List.length_append]
  rw [hv] at h
  exact h
theorem info_partsQ : ∃ i, Try.prog.info? 2 = some i ∧ i.zero = some (.int .i64 0) ∧ i.size = 1 ∧ i.bytes = 8 := by
  have h := infoInt
  cases hi : Try.prog.info? 2 with
  | none => rw [hi] at h; cases h
  | some i =>
    rw [hi] at h
    simp at h
    exact ⟨i, rfl, h.1, h.2.1, h.2.2⟩
end Go.Proofs.Ytlglijalhacmhab
