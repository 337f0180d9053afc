/-
  An argument that is a plan of a building, read as plain data.
-/
import Derived.Test.YtikjielgnlgnjaaDoorHo
import Derived.Test.YtikjielgnlgnjaaDoorInts
import Derived.Test.YtikjielgnlgnjaaDoorFrame
import Derived.Deep.Slices
import Derived.Deep.Fields
namespace Go.Proofs.YtikjielgnlgnjaaDoor
open Go.ChangeShapes Go.WideShapes Go.ChangeAt Go.RowKit Go.Joins Go.Deep

theorem pair_ofH {α : Type} {l : List α} (h : l.length = 2) : ∃ a b, l = [a, b] := by
  match l, h with
  | [a, b], _ => exact ⟨a, b, rfl⟩
theorem cells_house : Tryd.prog.cellsOf 24 = 2 := by kernel_rfl
theorem cells_strH : Tryd.prog.cellsOf 9 = 1 := by kernel_rfl
theorem cells_intH : Tryd.prog.cellsOf 2 = 1 := by kernel_rfl
theorem cells_intsH : Tryd.prog.cellsOf 22 = 1 := by kernel_rfl

section
variable {H : Type} {enc : TypeId × Value → H} {w : World} {base : Nat} {sp : Nat → Bool} {held : Bool}
/-- A slice of numbers that reads as data. -/
theorem ints_of {n : Nat} {cs : List Value} {x : DataW H × List MemPlace} (h : DataW.trod enc Tryd.prog w base sp held n 22 cs = some x) :
    ∃ (L : List Int) (a : Option Addr) (cap : Nat), cs = [.slice a L.length cap] ∧ IntArg w a L ∧ L.length ≤ maxLen := by
  rcases open_slice Tryd.underlying22 h with ⟨hcs, _⟩ | ⟨a', len, cap, m, n', D, Pl, hcs, hb, hl, hm, hmm, hx, hi⟩
  · exact ⟨[], _, _, hcs, .inl rfl, Nat.zero_le _⟩
  · have hlm : len ≤ m := by rw [hmm]; split <;> omega
    have hc : ∀ i, i < len → ∃ c : Int, w.cell? (a'.add (i * 1 + 0)) = some (.int .i64 c) := by
      intro i hil
      obtain ⟨cs', hcell, ht⟩ := hi i (by omega)
      obtain ⟨c, rfl, _, _⟩ := DataW.trod_int Tryd.underlying2 ht
      obtain ⟨_, _, hat⟩ := World.cells?_some hcell
      rw [cells_intH] at hat
      refine ⟨c, ?_⟩
      rw [← add_add, hat 0 (by omega)]
      rfl
    obtain ⟨f, hf⟩ := choose_lt hc
    refine ⟨(List.range len).map f, some a', cap, by simpa using hcs, ?_, by simp; omega⟩
    by_cases h0 : len = 0
    · left; subst h0; rfl
    · right
      have h1 := hf 0 (by omega)
      obtain ⟨b, o, sub⟩ := a'
      cases sub with
      | some z =>
        exfalso
        simp only [Addr.add, World.cell?] at h1
        split at h1 <;> simp at h1
        all_goals (split at h1 <;> simp at h1)
      | none =>
        refine ⟨b, o, rfl, fun k c hk => ?_⟩
        have hkl : k < len := by
          have := (List.getElem?_eq_some_iff.1 hk).1
          simpa using this
        have e : c = f k := by simpa [hkl] using hk.symm
        subst e
        have := hf k hkl
        rw [Addr.add_mid] at this
        simpa using this
theorem house_of {n : Nat} {cs : List Value} {x : DataW H × List MemPlace} (h : DataW.trod enc Tryd.prog w base sp held n 24 cs = some x) :
    ∃ (P : List Int) (T : ByteArray) (a : Option Addr) (cap : Nat), cs = [.slice a P.length cap, .string T] ∧ T.size ≤ maxLen ∧ IntArg w a P ∧ P.length ≤ maxLen := by
  obtain ⟨y0, y1, m, _, hlen, f0, f1⟩ := trod_struct2 Tryd.underlying24 h
  have hlen := hlen.trans cells_house
  obtain ⟨c0, c1, rfl⟩ := pair_ofH hlen
  rw [cells_intsH] at f0
  rw [cells_strH] at f1
  obtain ⟨L, a, cap, g0, hA, hL⟩ := ints_of f0
  obtain ⟨s, g1, _, hs⟩ := DataW.trod_string Tryd.underlying9 f1
  simp at g0 g1
  subst g0 g1
  exact ⟨L, s, a, cap, rfl, hs, hA, hL⟩
end
end Go.Proofs.YtikjielgnlgnjaaDoor
