/-
  Arguments that hold clays, or numbers, read as plain data.
-/
import Derived.Test.YtlglijalhacmhabClay
import Derived.Test.YtlglijalhacmhabFrame
import Derived.Test.YtlglijalhacmhabOpenC1
import Derived.Deep.Slices
import Derived.Deep.Fields
namespace Go.Proofs.Ytlglijalhacmhab
open Go.ChangeShapes Go.WideShapes Go.ChangeAt Go.RowKit Go.Joins Go.Deep

section
variable {H : Type} {enc : TypeId × Value → H} {w : World} {base : Nat} {sp : Nat → Bool} {held : Bool}
/-- A slice of clays that reads as data. -/
theorem clays_of {n : Nat} {cs : List Value} {a : Option Addr} {len cap : Nat} {x : DataW H × List MemPlace} (h : DataW.trod enc Try.prog w base sp held n 22 cs = some x) (hv : cs = [.slice a len cap]) :
    ∃ L : List Cl, len = L.length ∧ ClArg w a L ∧ len ≤ maxLen ∧ NamesLe maxLen L := by
  subst hv
  rcases open_slice Try.underlying22 h with ⟨hcs, _⟩ | ⟨a', len', cap', m, n', D, Pl, hcs, hb, hl, hm, hmm, hx, hi⟩
  · simp at hcs
    obtain ⟨rfl, rfl, rfl⟩ := hcs
    exact ⟨[], rfl, .inl rfl, Nat.zero_le _, fun k c h => by simp at h⟩
  · simp at hcs
    obtain ⟨rfl, rfl, rfl⟩ := hcs
    have hlm : len ≤ m := by rw [hmm]; split <;> omega
    have hc : ∀ i, i < len → ∃ c : Cl, (∀ j v, c.vals[j]? = some v → w.cell? (a'.add (i * 5 + j)) = some v) ∧ c.name.size ≤ maxLen := by
      intro i hil
      obtain ⟨cs', hcell, ht⟩ := hi i (by omega)
      obtain ⟨c, rfl, hs⟩ := clay_of ht
      obtain ⟨_, _, hat⟩ := World.cells?_some hcell
      rw [cells_clay] at hat
      refine ⟨c, fun j v hv => ?_, hs⟩
      have hj : j < 5 := (List.getElem?_eq_some_iff.1 hv).1
      rw [← add_add, hat j hj]
      exact hv
    obtain ⟨f, hf⟩ := choose_lt hc
    refine ⟨(List.range len).map f, by simp, ?_, by omega, ?_⟩
    · by_cases h0 : len = 0
      · left; subst h0; rfl
      · right
        have h1 := (hf 0 (by omega)).1 0 _ rfl
        obtain ⟨b, o, sub⟩ := a'
        cases sub with
        | some z =>
          exfalso
          simp only [Addr.add, World.cell?] at h1
          split at h1 <;> simp at h1
          all_goals (split at h1 <;> simp at h1)
        | none =>
          refine ⟨b, o, rfl, fun k c hk j v hv => ?_⟩
          have hkl : k < len := by
            have := (List.getElem?_eq_some_iff.1 hk).1
            simpa using this
          have e : c = f k := by simpa [hkl] using hk.symm
          subst e
          have := (hf k hkl).1 j v hv
          rwa [Addr.add_mid, ← Nat.add_assoc] at this
    · intro k c hk
      have hkl : k < len := by
        have := (List.getElem?_eq_some_iff.1 hk).1
        simpa using this
      have e : c = f k := by simpa [hkl] using hk.symm
      subst e
      exact (hf k hkl).2

/-- A slice of numbers that reads as data. -/
theorem numbers_of {n : Nat} {cs : List Value} {a : Option Addr} {len cap : Nat} {x : DataW H × List MemPlace} (h : DataW.trod enc Try.prog w base sp held n 23 cs = some x) (hv : cs = [.slice a len cap]) :
    ∃ P : List Int, len = P.length ∧ IntArg w a P ∧ len ≤ maxLen := by
  subst hv
  rcases open_ints Try.underlying23 Try.underlying2 cells_i64 h with ⟨hcs, hx⟩ | ⟨a', len', cap', zs, hcs, _, hl, hm, hz, hx, hcell, hwz⟩
  · simp at hcs
    obtain ⟨rfl, rfl, rfl⟩ := hcs
    exact ⟨[], rfl, .inl rfl, Nat.zero_le _⟩
  · simp at hcs
    obtain ⟨rfl, rfl, rfl⟩ := hcs
    have hlen : len ≤ zs.length := by rw [hz]; split <;> omega
    refine ⟨zs.take len, by rw [List.length_take]; omega, ?_, by omega⟩
    by_cases h0 : len = 0
    · left; subst h0; simp
    · right
      obtain ⟨b, off, rfl, hc⟩ := ints_at hcell (by omega)
      refine ⟨b, off, rfl, fun k z hk => ?_⟩
      have hkl : k < len := by
        have := (List.getElem?_eq_some_iff.1 hk).1
        rw [List.length_take] at this
        omega
      rw [List.getElem?_take_of_lt hkl] at hk
      rw [hc k (by omega), List.getD_eq_getElem?_getD, hk]
      rfl
end
end Go.Proofs.Ytlglijalhacmhab
