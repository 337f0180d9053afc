/-
  An argument that is a row of numbers, read as plain data.
-/
import Derived.Test.YtlglijalhacmhabBase
import Derived.Test.YtlglijalhacmhabInts
import Derived.Test.YtlglijalhacmhabFrame
import Derived.Deep.Slices
import Derived.Deep.Fields
namespace Go.Proofs.Ytlglijalhacmhab
open Go.ChangeShapes Go.WideShapes Go.ChangeAt Go.RowKit Go.Joins Go.Deep

theorem cells_intO : Try.prog.cellsOf 2 = 1 := by kernel_rfl
theorem ints_of {H : Type} {enc : TypeId × Value → H} {w : World} {base : Nat} {sp : Nat → Bool} {held : Bool} {n : Nat} {cs : List Value} {x : DataW H × List MemPlace} (h : DataW.trod enc Try.prog w base sp held n 23 cs = some x) :
    ∃ (L : List Int) (a : Option Addr) (cap : Nat), cs = [.slice a L.length cap] ∧ IntArg w a L ∧ L.length ≤ maxLen := by
  rcases open_slice Try.underlying23 h with ⟨hcs, _⟩ | ⟨a', len, cap, m, n', D, Pl, hcs, hb, hl, hm, hmm, hx, hi⟩
  · exact ⟨[], _, _, hcs, .inl rfl, Nat.zero_le _⟩
  · have hlm : len ≤ m := by rw [hmm]; split <;> omega
    have hc : ∀ i, i < len → ∃ c : Int, w.cell? (a'.add (i * 1 + 0)) = some (.int .i64 c) := by
      intro i hil
      obtain ⟨cs', hcell, ht⟩ := hi i (by omega)
      obtain ⟨c, rfl, _, _⟩ := DataW.trod_int Try.underlying2 ht
      obtain ⟨_, _, hat⟩ := World.cells?_some hcell
      rw [cells_intO] at hat
      refine ⟨c, ?_⟩
      rw [← add_add, hat 0 (by omega)]
      rfl
    obtain ⟨f, hf⟩ := choose_lt hc
    refine ⟨(List.range len).map f, some a', cap, by simpa using hcs, ?_, by simp; omega⟩
    by_cases h0 : len = 0
    · left; subst h0; rfl
    · right
      have h1 := hf 0 (by omega)
      obtain ⟨b, o, sub⟩ := a'
      cases sub with
      | some z =>
        exfalso
        simp only [Addr.add, World.cell?] at h1
        split at h1 <;> simp at h1
        all_goals (split at h1 <;> simp at h1)
      | none =>
        refine ⟨b, o, rfl, fun k c hk => ?_⟩
        have hkl : k < len := by
          have := (List.getElem?_eq_some_iff.1 hk).1
          simpa using this
        have e : c = f k := by simpa [hkl] using hk.symm
        subst e
        have := hf k hkl
        rw [Addr.add_mid] at this
        simpa using this
end Go.Proofs.Ytlglijalhacmhab
