/-
  Arguments that hold clays, or numbers, read as plain data.
-/
import Derived.Test.YtpmklnldgafkjaaClay
import Derived.Test.YtpmklnldgafkjaaFrame
import Derived.Deep.Slices
import Derived.Deep.Fields
namespace Go.Proofs.Ytpmklnldgafkjaa
open Go.ChangeShapes Go.WideShapes Go.ChangeAt Go.RowKit Go.Joins Go.Deep

theorem five {α : Type} {l : List α} (h : l.length = 5) : ∃ a b c d e, l = [a, b, c, d, e] := by
  match l, h with
  | [a, b, c, d, e], _ => exact ⟨a, b, c, d, e, rfl⟩
theorem cells_clay : Try.prog.cellsOf 31 = 5 := by kernel_rfl
theorem cells_str : Try.prog.cellsOf 9 = 1 := by kernel_rfl
theorem cells_i64 : Try.prog.cellsOf 2 = 1 := by kernel_rfl

section
variable {H : Type} {enc : TypeId × Value → H} {w : World} {base : Nat} {sp : Nat → Bool} {held : Bool}
/-- Five cells that read as a clay are a name and four numbers. -/
theorem clay_of {n : Nat} {cs : List Value} {x : DataW H × List MemPlace} (h : DataW.trod enc Try.prog w base sp held n 31 cs = some x) :
    ∃ c : Cl, cs = c.vals ∧ c.name.size ≤ maxLen := by
  obtain ⟨ys, m, _, _, hlen, _, hf⟩ := DataW.trod_struct Try.underlying31 h
  have hlen := hlen.trans cells_clay
  obtain ⟨c0, c1, c2, c3, c4, rfl⟩ := five hlen
  · skip
    have f0 := hf 0 _ rfl
    have f1 := hf 1 _ rfl
    have f2 := hf 2 _ rfl
    have f3 := hf 3 _ rfl
    have f4 := hf 4 _ rfl
    simp only [List.getElem_toArray, List.getElem_cons_zero, List.getElem_cons_succ] at f0 f1 f2 f3 f4
    rw [cells_str] at f0
    rw [cells_i64] at f1 f2 f3 f4
    have e (j : Nat) (hj : j < 5) : ∃ y, ys[j]? = some y := ⟨_, List.getElem?_eq_getElem (by have : ys.length = 5 := by assumption
                                                                                             omega)⟩
    obtain ⟨y0, e0⟩ := e 0 (by omega)
    obtain ⟨y1, e1⟩ := e 1 (by omega)
    obtain ⟨y2, e2⟩ := e 2 (by omega)
    obtain ⟨y3, e3⟩ := e 3 (by omega)
    obtain ⟨y4, e4⟩ := e 4 (by omega)
    rw [e0] at f0
    rw [e1] at f1
    rw [e2] at f2
    rw [e3] at f3
    rw [e4] at f4
    obtain ⟨s, g0, _, hs⟩ := DataW.trod_string Try.underlying9 f0
    obtain ⟨a, g1, _, _⟩ := DataW.trod_int Try.underlying2 f1
    obtain ⟨b, g2, _, _⟩ := DataW.trod_int Try.underlying2 f2
    obtain ⟨c, g3, _, _⟩ := DataW.trod_int Try.underlying2 f3
    obtain ⟨d, g4, _, _⟩ := DataW.trod_int Try.underlying2 f4
    simp at g0 g1 g2 g3 g4
    subst g0 g1 g2 g3 g4
    exact ⟨⟨s, a, b, c, d⟩, rfl, hs⟩

/-- A slice of clays that reads as data. -/
theorem clays_of {n : Nat} {cs : List Value} {a : Option Addr} {len cap : Nat} {x : DataW H × List MemPlace} (h : DataW.trod enc Try.prog w base sp held n 22 cs = some x) (hv : cs = [.slice a len cap]) :
    ∃ L : List Cl, len = L.length ∧ ClArg w a L ∧ len ≤ maxLen ∧ NamesLe maxLen L := by
  subst hv
  rcases open_slice Try.underlying22 h with ⟨hcs, _⟩ | ⟨a', len', cap', m, n', D, Pl, hcs, hb, hl, hm, hmm, hx, hi⟩
  · simp at hcs
    obtain ⟨rfl, rfl, rfl⟩ := hcs
    exact ⟨[], rfl, .inl rfl, Nat.zero_le _, fun k c h => by simp at h⟩
  · simp at hcs
    obtain ⟨rfl, rfl, rfl⟩ := hcs
    have hlm : len ≤ m := by rw [hmm]; split <;> omega
    have hc : ∀ i, i < len → ∃ c : Cl, (∀ j v, c.vals[j]? = some v → w.cell? (a'.add (i * 5 + j)) = some v) ∧ c.name.size ≤ maxLen := by
      intro i hil
      obtain ⟨cs', hcell, ht⟩ := hi i (by omega)
      obtain ⟨c, rfl, hs⟩ := clay_of ht
      obtain ⟨_, _, hat⟩ := World.cells?_some hcell
      rw [cells_clay] at hat
      refine ⟨c, fun j v hv => ?_, hs⟩
      have hj : j < 5 := (List.getElem?_eq_some_iff.1 hv).1
      rw [← add_add, hat j hj]
      exact hv
    obtain ⟨f, hf⟩ := choose_lt hc
    refine ⟨(List.range len).map f, by simp, ?_, by omega, ?_⟩
    · by_cases h0 : len = 0
      · left; subst h0; rfl
      · right
        have h1 := (hf 0 (by omega)).1 0 _ rfl
        obtain ⟨b, o, sub⟩ := a'
        cases sub with
        | some z =>
          exfalso
          simp only [Addr.add, World.cell?] at h1
          split at h1 <;> simp at h1
          all_goals (split at h1 <;> simp at h1)
        | none =>
          refine ⟨b, o, rfl, fun k c hk j v hv => ?_⟩
          have hkl : k < len := by
            have := (List.getElem?_eq_some_iff.1 hk).1
            simpa using this
          have e : c = f k := by simpa [hkl] using hk.symm
          subst e
          have := (hf k hkl).1 j v hv
          rwa [Addr.add_mid, ← Nat.add_assoc] at this
    · intro k c hk
      have hkl : k < len := by
        have := (List.getElem?_eq_some_iff.1 hk).1
        simpa using this
      have e : c = f k := by simpa [hkl] using hk.symm
      subst e
      exact (hf k hkl).2

/-- A slice of numbers that reads as data. -/
theorem numbers_of {n : Nat} {cs : List Value} {a : Option Addr} {len cap : Nat} {x : DataW H × List MemPlace} (h : DataW.trod enc Try.prog w base sp held n 39 cs = some x) (hv : cs = [.slice a len cap]) :
    ∃ P : List Int, len = P.length ∧ IntArg w a P ∧ len ≤ maxLen := by
  subst hv
  rcases open_ints Try.underlying39 Try.underlying2 cells_i64 h with ⟨hcs, hx⟩ | ⟨a', len', cap', zs, hcs, _, hl, hm, hz, hx, hcell, hwz⟩
  · simp at hcs
    obtain ⟨rfl, rfl, rfl⟩ := hcs
    exact ⟨[], rfl, .inl rfl, Nat.zero_le _⟩
  · simp at hcs
    obtain ⟨rfl, rfl, rfl⟩ := hcs
    have hlen : len ≤ zs.length := by rw [hz]; split <;> omega
    refine ⟨zs.take len, by rw [List.length_take]; omega, ?_, by omega⟩
    by_cases h0 : len = 0
    · left; subst h0; simp
    · right
      obtain ⟨b, off, rfl, hc⟩ := ints_at hcell (by omega)
      refine ⟨b, off, rfl, fun k z hk => ?_⟩
      have hkl : k < len := by
        have := (List.getElem?_eq_some_iff.1 hk).1
        rw [List.length_take] at this
        omega
      rw [List.getElem?_take_of_lt hkl] at hk
      rw [hc k (by omega), List.getD_eq_getElem?_getD, hk]
      rfl
end
end Go.Proofs.Ytpmklnldgafkjaa
