/-
  An argument that is a bond, read as plain data.
-/
import Derived.Test.YtplggghhhgmebaaDoorCo
import Derived.Test.YtplggghhhgmebaaDoorFrame
import Derived.Deep.Slices
import Derived.Deep.Fields
namespace Go.Proofs.YtplggghhhgmebaaDoor
open Go.ChangeShapes Go.WideShapes Go.ChangeAt Go.RowKit Go.Joins Go.Deep

theorem pair_of {α : Type} {l : List α} (h : l.length = 2) : ∃ a b, l = [a, b] := by
  match l, h with
  | [a, b], _ => exact ⟨a, b, rfl⟩
theorem cells_course : Tryd.prog.cellsOf 48 = 2 := by kernel_rfl
theorem cells_bond : Tryd.prog.cellsOf 24 = 2 := by kernel_rfl
theorem cells_strB : Tryd.prog.cellsOf 9 = 1 := by kernel_rfl
theorem cells_cosB : Tryd.prog.cellsOf 22 = 1 := by kernel_rfl

section
variable {H : Type} {enc : TypeId × Value → H} {w : World} {base : Nat} {sp : Nat → Bool} {held : Bool}
theorem course_of {n : Nat} {cs : List Value} {x : DataW H × List MemPlace} (h : DataW.trod enc Tryd.prog w base sp held n 48 cs = some x) :
    ∃ c : Co, cs = c.vals ∧ c.lead.size ≤ maxLen ∧ c.cyc.size ≤ maxLen := by
  obtain ⟨ys, m, _, _, hlen, _, hf⟩ := DataW.trod_struct Tryd.underlying48 h
  have hlen := hlen.trans cells_course
  obtain ⟨c0, c1, rfl⟩ := pair_of hlen
  · skip
    have f0 := hf 0 _ rfl
    have f1 := hf 1 _ rfl
    simp only [List.getElem_toArray, List.getElem_cons_zero, List.getElem_cons_succ] at f0 f1
    rw [cells_strB] at f0 f1
    have e (j : Nat) (hj : j < 2) : ∃ y, ys[j]? = some y := ⟨_, List.getElem?_eq_getElem (by have : ys.length = 2 := by assumption
                                                                                             omega)⟩
    obtain ⟨y0, e0⟩ := e 0 (by omega)
    obtain ⟨y1, e1⟩ := e 1 (by omega)
    rw [e0] at f0
    rw [e1] at f1
    obtain ⟨s, g0, _, hs⟩ := DataW.trod_string Tryd.underlying9 f0
    obtain ⟨u, g1, _, hu⟩ := DataW.trod_string Tryd.underlying9 f1
    simp at g0 g1
    subst g0 g1
    exact ⟨⟨s, u⟩, rfl, hs, hu⟩

/-- A slice of courses that reads as data. -/
theorem courses_of {n : Nat} {cs : List Value} {x : DataW H × List MemPlace} (h : DataW.trod enc Tryd.prog w base sp held n 22 cs = some x) :
    ∃ (L : List Co) (a : Option Addr) (cap : Nat), cs = [.slice a L.length cap] ∧ CoArg w a L ∧ L.length ≤ maxLen ∧ CosLe maxLen L := by
  rcases open_slice Tryd.underlying22 h with ⟨hcs, _⟩ | ⟨a', len, cap, m, n', D, Pl, hcs, hb, hl, hm, hmm, hx, hi⟩
  · exact ⟨[], _, _, hcs, .inl rfl, Nat.zero_le _, fun k c h => by simp at h⟩
  · have hlm : len ≤ m := by rw [hmm]; split <;> omega
    have hc : ∀ i, i < len → ∃ c : Co, (∀ j v, c.vals[j]? = some v → w.cell? (a'.add (i * 2 + j)) = some v) ∧ c.lead.size ≤ maxLen ∧ c.cyc.size ≤ maxLen := by
      intro i hil
      obtain ⟨cs', hcell, ht⟩ := hi i (by omega)
      obtain ⟨c, rfl, hs⟩ := course_of ht
      obtain ⟨_, _, hat⟩ := World.cells?_some hcell
      rw [cells_course] at hat
      refine ⟨c, fun j v hv => ?_, hs⟩
      have hj : j < 2 := (List.getElem?_eq_some_iff.1 hv).1
      rw [← add_add, hat j hj]
      exact hv
    obtain ⟨f, hf⟩ := choose_lt hc
    refine ⟨(List.range len).map f, some a', cap, by simpa using hcs, ?_, by simp; omega, ?_⟩
    · by_cases h0 : len = 0
      · left; subst h0; rfl
      · right
        have h1 := (hf 0 (by omega)).1 0 _ rfl
        obtain ⟨b, o, sub⟩ := a'
        cases sub with
        | some z =>
          exfalso
          simp only [Addr.add, World.cell?] at h1
          split at h1 <;> simp at h1
          all_goals (split at h1 <;> simp at h1)
        | none =>
          refine ⟨b, o, rfl, fun k c hk j v hv => ?_⟩
          have hkl : k < len := by
            have := (List.getElem?_eq_some_iff.1 hk).1
            simpa using this
          have e : c = f k := by simpa [hkl] using hk.symm
          subst e
          have := (hf k hkl).1 j v hv
          rwa [Addr.add_mid, ← Nat.add_assoc] at this
    · intro k c hk
      have hkl : k < len := by
        have := (List.getElem?_eq_some_iff.1 hk).1
        simpa using this
      have e : c = f k := by simpa [hkl] using hk.symm
      subst e
      exact (hf k hkl).2

theorem bond_of {n : Nat} {cs : List Value} {x : DataW H × List MemPlace} (h : DataW.trod enc Tryd.prog w base sp held n 24 cs = some x) :
    ∃ (nm : ByteArray) (L : List Co) (a : Option Addr) (cap : Nat), cs = [.string nm, .slice a L.length cap] ∧ nm.size ≤ maxLen ∧ CoArg w a L ∧ L.length ≤ maxLen ∧ CosLe maxLen L := by
  obtain ⟨ys, m, _, _, hlen, _, hf⟩ := DataW.trod_struct Tryd.underlying24 h
  have hlen := hlen.trans cells_bond
  obtain ⟨c0, c1, rfl⟩ := pair_of hlen
  · skip
    have f0 := hf 0 _ rfl
    have f1 := hf 1 _ rfl
    simp only [List.getElem_toArray, List.getElem_cons_zero, List.getElem_cons_succ] at f0 f1
    rw [cells_strB] at f0
    rw [cells_cosB] at f1
    have e (j : Nat) (hj : j < 2) : ∃ y, ys[j]? = some y := ⟨_, List.getElem?_eq_getElem (by have : ys.length = 2 := by assumption
                                                                                             omega)⟩
    obtain ⟨y0, e0⟩ := e 0 (by omega)
    obtain ⟨y1, e1⟩ := e 1 (by omega)
    rw [e0] at f0
    rw [e1] at f1
    obtain ⟨s, g0, _, hs⟩ := DataW.trod_string Tryd.underlying9 f0
    obtain ⟨L, a, cap, g1, hA, hL, hC⟩ := courses_of f1
    simp at g0 g1
    subst g0 g1
    exact ⟨s, L, a, cap, rfl, hs, hA, hL, hC⟩
end
end Go.Proofs.YtplggghhhgmebaaDoor
