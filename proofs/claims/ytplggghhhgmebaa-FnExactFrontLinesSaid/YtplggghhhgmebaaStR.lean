/-
  Rows of texts that grow.
-/
import Derived.Test.YtplggghhhgmebaaStM
namespace Go.Proofs.Ytplggghhhgmebaa
open Go.ChangeShapes Go.WideShapes Go.ChangeAt Go.RowKit Go.Joins

/-- A row of texts that grows. -/
theorem str_res {wr : World} {B : Nat} {P : List ByteArray} {v : Value} (h : wr.ownsRow B 9 1 v P.length (strVals P)) : ∃ a cap, v = .slice a P.length cap ∧ StrRes B P a wr := by
  rcases h.2 with ⟨hv, h0⟩ | ⟨g, cap, cur, hv, hB, hg, _⟩
  · have hP : P = [] := List.eq_nil_of_length_eq_zero h0
    subst hP
    exact ⟨_, _, hv, .inl rfl⟩
  · refine ⟨_, _, hv, .inr ⟨g, rfl, hB, fun k z hk => ?_, fun j hj => ?_, (Array.getElem?_eq_some_iff.1 hg).1⟩⟩
    · have hl := (List.getElem?_eq_some_iff.1 hk).1
      subst hv
      rw [Nat.zero_add, World.ownsRow.cellAt h k (by omega)]
      simp [strVals, hk]
    · subst hv
      rw [Nat.zero_add]
      refine ⟨?_, World.ownsRow.frozenAt h j⟩
      rw [World.ownsRow.cellAt h j (by omega), List.getElem?_eq_getElem (by simpa [strVals] using hj)]
      rfl
theorem StrRes.mono {B B' : Nat} {Q : List ByteArray} {a : Option Addr} {w : World} (h : StrRes B Q a w) (hB : B' ≤ B) : StrRes B' Q a w := by
  rcases h with h | ⟨g, h1, h2⟩
  · exact .inl h
  · exact .inr ⟨g, h1, Nat.le_trans hB h2.1, h2.2⟩
theorem strs_start (w : World) : (w.alloc (.cells #[] 9)).ownsRow w.heap.size 9 1 (.slice (some ⟨w.heap.size, 0, none⟩) 0 0) 0 (strVals []) :=
  ⟨rfl, .inr ⟨w.heap.size, 0, #[], rfl, Nat.le_refl _, heap_alloc_new w _, Nat.le_refl _, by decide, rfl, rfl⟩⟩
theorem strVals_snoc (P : List ByteArray) (x : ByteArray) : strVals P ++ [.string x] = strVals (P ++ [x]) := by simp [strVals]
end Go.Proofs.Ytplggghhhgmebaa
