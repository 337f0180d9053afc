/-
  Arguments that hold rows of Opening, read as plain data.
-/
import Derived.Test.YtplggghhhgmebaaOg
import Derived.Test.YtplggghhhgmebaaFrame
import Derived.Deep.Slices
import Derived.Deep.Fields
namespace Go.Proofs.Ytplggghhhgmebaa
open Go.ChangeShapes Go.WideShapes Go.ChangeAt Go.RowKit Go.Joins Go.Deep

theorem nog {α : Type} {l : List α} (h : l.length = 4) : ∃ a b c d, l = [a, b, c, d] := by
  match l, h with
  | [a, b, c, d], _ => exact ⟨a, b, c, d, rfl⟩
theorem cells_ogT : Try.prog.cellsOf 35 = 4 := by kernel_rfl
theorem cells_ogI : Try.prog.cellsOf 2 = 1 := by kernel_rfl

section
variable {H : Type} {enc : TypeId × Value → H} {w : World} {base : Nat} {sp : Nat → Bool} {held : Bool}
theorem og_of {n : Nat} {cs : List Value} {x : DataW H × List MemPlace} (h : DataW.trod enc Try.prog w base sp held n 35 cs = some x) :
    ∃ c : Og, cs = c.vals := by
  obtain ⟨ys, m, _, _, hlen, _, hf⟩ := DataW.trod_struct Try.underlying35 h
  have hlen := hlen.trans cells_ogT
  obtain ⟨c0, c1, c2, c3, rfl⟩ := nog hlen
  have f0 := hf 0 _ rfl
  have f1 := hf 1 _ rfl
  have f2 := hf 2 _ rfl
  have f3 := hf 3 _ rfl
  simp only [List.getElem_toArray, List.getElem_cons_zero, List.getElem_cons_succ] at f0 f1 f2 f3
  rw [cells_ogI] at f0 f1 f2 f3
  have e (j : Nat) (hj : j < 4) : ∃ y, ys[j]? = some y := ⟨_, List.getElem?_eq_getElem (by have : ys.length = 4 := by assumption
                                                                                           omega)⟩
  obtain ⟨y0, e0⟩ := e 0 (by omega)
  rw [e0] at f0
  obtain ⟨z0, g0, _, _⟩ := DataW.trod_int Try.underlying2 f0
  obtain ⟨y1, e1⟩ := e 1 (by omega)
  rw [e1] at f1
  obtain ⟨z1, g1, _, _⟩ := DataW.trod_int Try.underlying2 f1
  obtain ⟨y2, e2⟩ := e 2 (by omega)
  rw [e2] at f2
  obtain ⟨z2, g2, _, _⟩ := DataW.trod_int Try.underlying2 f2
  obtain ⟨y3, e3⟩ := e 3 (by omega)
  rw [e3] at f3
  obtain ⟨z3, g3, _, _⟩ := DataW.trod_int Try.underlying2 f3
  simp at g0 g1 g2 g3
  subst g0 g1 g2 g3
  exact ⟨⟨z0, z1, z2, z3⟩, rfl⟩

theorem ogs_of {n : Nat} {cs : List Value} {x : DataW H × List MemPlace} (h : DataW.trod enc Try.prog w base sp held n 22 cs = some x) :
    ∃ (L : List Og) (a : Option Addr) (cap : Nat), cs = [.slice a L.length cap] ∧ OgArg w a L ∧ L.length ≤ maxLen := by
  rcases open_slice Try.underlying22 h with ⟨hcs, _⟩ | ⟨a', len, cap, m, n', D, Pl, hcs, hb, hl, hm, hmm, hx, hi⟩
  · exact ⟨[], _, _, hcs, .inl rfl, Nat.zero_le _⟩
  · have hlm : len ≤ m := by rw [hmm]; split <;> omega
    have hc : ∀ i, i < len → ∃ c : Og, ∀ j v, c.vals[j]? = some v → w.cell? (a'.add (i * 4 + j)) = some v := by
      intro i hil
      obtain ⟨cs', hcell, ht⟩ := hi i (by omega)
      obtain ⟨c, rfl⟩ := og_of ht
      obtain ⟨_, _, hat⟩ := World.cells?_some hcell
      rw [cells_ogT] at hat
      refine ⟨c, fun j v hv => ?_⟩
      have hj : j < 4 := (List.getElem?_eq_some_iff.1 hv).1
      rw [← add_add, hat j hj]
      exact hv
    obtain ⟨f, hf⟩ := choose_lt hc
    refine ⟨(List.range len).map f, some a', cap, by simpa using hcs, ?_, by simp; omega⟩
    by_cases h0 : len = 0
    · left; subst h0; rfl
    · right
      have h1 := (hf 0 (by omega)) 0 _ rfl
      obtain ⟨b, o, sub⟩ := a'
      cases sub with
      | some z =>
        exfalso
        simp only [Addr.add, World.cell?] at h1
        split at h1 <;> simp at h1
        all_goals (split at h1 <;> simp at h1)
      | none =>
        refine ⟨b, o, rfl, fun k c hk j v hv => ?_⟩
        have hkl : k < len := by
          have := (List.getElem?_eq_some_iff.1 hk).1
          simpa using this
        have e : c = f k := by simpa [hkl] using hk.symm
        subst e
        have := (hf k hkl) j v hv
        rwa [Addr.add_mid, ← Nat.add_assoc] at this
end
end Go.Proofs.Ytplggghhhgmebaa
