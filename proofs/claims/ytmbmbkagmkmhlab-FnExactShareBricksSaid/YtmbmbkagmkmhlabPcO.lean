/-
  Arguments that hold rows of Piece, read as plain data.
-/
import Derived.Test.YtmbmbkagmkmhlabPc
import Derived.Test.YtmbmbkagmkmhlabFrame
import Derived.Deep.Slices
import Derived.Deep.Fields
namespace Go.Proofs.Ytmbmbkagmkmhlab
open Go.ChangeShapes Go.WideShapes Go.ChangeAt Go.RowKit Go.Joins Go.Deep

theorem npc {α : Type} {l : List α} (h : l.length = 3) : ∃ a b c, l = [a, b, c] := by
  match l, h with
  | [a, b, c], _ => exact ⟨a, b, c, rfl⟩
theorem cells_pcT : Try.prog.cellsOf 32 = 3 := by kernel_rfl
theorem cells_pcI : Try.prog.cellsOf 2 = 1 := by kernel_rfl

section
variable {H : Type} {enc : TypeId × Value → H} {w : World} {base : Nat} {sp : Nat → Bool} {held : Bool}
theorem pc_of {n : Nat} {cs : List Value} {x : DataW H × List MemPlace} (h : DataW.trod enc Try.prog w base sp held n 32 cs = some x) :
    ∃ c : Pc, cs = c.vals := by
  obtain ⟨ys, m, _, _, hlen, _, hf⟩ := DataW.trod_struct Try.underlying32 h
  have hlen := hlen.trans cells_pcT
  obtain ⟨c0, c1, c2, rfl⟩ := npc hlen
  have f0 := hf 0 _ rfl
  have f1 := hf 1 _ rfl
  have f2 := hf 2 _ rfl
  simp only [List.getElem_toArray, List.getElem_cons_zero, List.getElem_cons_succ] at f0 f1 f2
  rw [cells_pcI] at f0 f1 f2
  have e (j : Nat) (hj : j < 3) : ∃ y, ys[j]? = some y := ⟨_, List.getElem?_eq_getElem (by have : ys.length = 3 := by assumption
                                                                                           omega)⟩
  obtain ⟨y0, e0⟩ := e 0 (by omega)
  rw [e0] at f0
  obtain ⟨z0, g0, _, _⟩ := DataW.trod_int Try.underlying2 f0
  obtain ⟨y1, e1⟩ := e 1 (by omega)
  rw [e1] at f1
  obtain ⟨z1, g1, _, _⟩ := DataW.trod_int Try.underlying2 f1
  obtain ⟨y2, e2⟩ := e 2 (by omega)
  rw [e2] at f2
  obtain ⟨z2, g2, _, _⟩ := DataW.trod_int Try.underlying2 f2
  simp at g0 g1 g2
  subst g0 g1 g2
  exact ⟨⟨z0, z1, z2⟩, rfl⟩

theorem pcs_of {n : Nat} {cs : List Value} {x : DataW H × List MemPlace} (h : DataW.trod enc Try.prog w base sp held n 22 cs = some x) :
    ∃ (L : List Pc) (a : Option Addr) (cap : Nat), cs = [.slice a L.length cap] ∧ PcArg w a L ∧ L.length ≤ maxLen := by
  rcases open_slice Try.underlying22 h with ⟨hcs, _⟩ | ⟨a', len, cap, m, n', D, Pl, hcs, hb, hl, hm, hmm, hx, hi⟩
  · exact ⟨[], _, _, hcs, .inl rfl, Nat.zero_le _⟩
  · have hlm : len ≤ m := by rw [hmm]; split <;> omega
    have hc : ∀ i, i < len → ∃ c : Pc, ∀ j v, c.vals[j]? = some v → w.cell? (a'.add (i * 3 + j)) = some v := by
      intro i hil
      obtain ⟨cs', hcell, ht⟩ := hi i (by omega)
      obtain ⟨c, rfl⟩ := pc_of ht
      obtain ⟨_, _, hat⟩ := World.cells?_some hcell
      rw [cells_pcT] at hat
      refine ⟨c, fun j v hv => ?_⟩
      have hj : j < 3 := (List.getElem?_eq_some_iff.1 hv).1
      rw [← add_add, hat j hj]
      exact hv
    obtain ⟨f, hf⟩ := choose_lt hc
    refine ⟨(List.range len).map f, some a', cap, by simpa using hcs, ?_, by simp; omega⟩
    by_cases h0 : len = 0
    · left; subst h0; rfl
    · right
      have h1 := (hf 0 (by omega)) 0 _ rfl
      obtain ⟨b, o, sub⟩ := a'
      cases sub with
      | some z =>
        exfalso
        simp only [Addr.add, World.cell?] at h1
        split at h1 <;> simp at h1
        all_goals (split at h1 <;> simp at h1)
      | none =>
        refine ⟨b, o, rfl, fun k c hk j v hv => ?_⟩
        have hkl : k < len := by
          have := (List.getElem?_eq_some_iff.1 hk).1
          simpa using this
        have e : c = f k := by simpa [hkl] using hk.symm
        subst e
        have := (hf k hkl) j v hv
        rwa [Addr.add_mid, ← Nat.add_assoc] at this
end
end Go.Proofs.Ytmbmbkagmkmhlab
