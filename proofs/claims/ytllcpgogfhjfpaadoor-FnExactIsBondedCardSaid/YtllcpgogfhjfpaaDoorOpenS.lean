/-
  An argument that is a row of texts, read as plain data.
-/
import Derived.Test.YtllcpgogfhjfpaaDoorSt
import Derived.Test.YtllcpgogfhjfpaaDoorFrame
import Derived.Deep.Slices
import Derived.Deep.Fields
namespace Go.Proofs.YtllcpgogfhjfpaaDoor
open Go.ChangeShapes Go.WideShapes Go.ChangeAt Go.RowKit Go.Joins Go.Deep

theorem cells_strS : Tryd.prog.cellsOf 9 = 1 := by kernel_rfl
section
variable {H : Type} {enc : TypeId × Value → H} {w : World} {base : Nat} {sp : Nat → Bool} {held : Bool}
/-- A slice of texts that reads as data. -/
theorem strs_of {n : Nat} {cs : List Value} {x : DataW H × List MemPlace} (h : DataW.trod enc Tryd.prog w base sp held n 22 cs = some x) :
    ∃ (L : List ByteArray) (a : Option Addr) (cap : Nat), cs = [.slice a L.length cap] ∧ StrArg w a L ∧ L.length ≤ maxLen ∧ StrLe maxLen L := by
  rcases open_slice Tryd.underlying22 h with ⟨hcs, _⟩ | ⟨a', len, cap, m, n', D, Pl, hcs, hb, hl, hm, hmm, hx, hi⟩
  · exact ⟨[], _, _, hcs, .inl rfl, Nat.zero_le _, fun k c h => by simp at h⟩
  · have hlm : len ≤ m := by rw [hmm]; split <;> omega
    have hc : ∀ i, i < len → ∃ c : ByteArray, w.cell? (a'.add (i * 1 + 0)) = some (.string c) ∧ c.size ≤ maxLen := by
      intro i hil
      obtain ⟨cs', hcell, ht⟩ := hi i (by omega)
      obtain ⟨c, rfl, _, hs⟩ := DataW.trod_string Tryd.underlying9 ht
      obtain ⟨_, _, hat⟩ := World.cells?_some hcell
      rw [cells_strS] at hat
      refine ⟨c, ?_, hs⟩
      rw [← add_add, hat 0 (by omega)]
      rfl
    obtain ⟨f, hf⟩ := choose_lt hc
    refine ⟨(List.range len).map f, some a', cap, by simpa using hcs, ?_, by simp; omega, ?_⟩
    · by_cases h0 : len = 0
      · left; subst h0; rfl
      · right
        have h1 := (hf 0 (by omega)).1
        obtain ⟨b, o, sub⟩ := a'
        cases sub with
        | some z =>
          exfalso
          simp only [Addr.add, World.cell?] at h1
          split at h1 <;> simp at h1
          all_goals (split at h1 <;> simp at h1)
        | none =>
          refine ⟨b, o, rfl, fun k c hk => ?_⟩
          have hkl : k < len := by
            have := (List.getElem?_eq_some_iff.1 hk).1
            simpa using this
          have e : c = f k := by simpa [hkl] using hk.symm
          subst e
          have := (hf k hkl).1
          rw [Addr.add_mid] at this
          simpa using this
    · intro k c hk
      have hkl : k < len := by
        have := (List.getElem?_eq_some_iff.1 hk).1
        simpa using this
      have e : c = f k := by simpa [hkl] using hk.symm
      subst e
      exact (hf k hkl).2
theorem strs_of' {n : Nat} {cs : List Value} {a : Option Addr} {len cap : Nat} {x : DataW H × List MemPlace} (h : DataW.trod enc Tryd.prog w base sp held n 22 cs = some x) (hv : cs = [.slice a len cap]) :
    ∃ L : List ByteArray, len = L.length ∧ StrArg w a L ∧ L.length ≤ maxLen ∧ StrLe maxLen L := by
  obtain ⟨L, a', cap', e, h1, h2, h3⟩ := strs_of h
  rw [hv] at e
  simp only [List.cons.injEq, Value.slice.injEq, and_true] at e
  obtain ⟨rfl, e2, rfl⟩ := e
  exact ⟨L, e2, h1, h2, h3⟩
end
end Go.Proofs.YtllcpgogfhjfpaaDoor
