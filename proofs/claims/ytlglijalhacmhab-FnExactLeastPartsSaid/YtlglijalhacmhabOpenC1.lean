/-
  An argument that is a clay, read as plain data.
-/
import Derived.Test.YtlglijalhacmhabClay
import Derived.Test.YtlglijalhacmhabFrame
import Derived.Deep.Fields
namespace Go.Proofs.Ytlglijalhacmhab
open Go.ChangeShapes Go.WideShapes Go.ChangeAt Go.RowKit Go.Joins Go.Deep

theorem five {α : Type} {l : List α} (h : l.length = 5) : ∃ a b c d e, l = [a, b, c, d, e] := by
  match l, h with
  | [a, b, c, d, e], _ => exact ⟨a, b, c, d, e, rfl⟩
theorem cells_clay : Try.prog.cellsOf 75 = 5 := by kernel_rfl
theorem cells_str : Try.prog.cellsOf 9 = 1 := by kernel_rfl
theorem cells_i64 : Try.prog.cellsOf 2 = 1 := by kernel_rfl

section
variable {H : Type} {enc : TypeId × Value → H} {w : World} {base : Nat} {sp : Nat → Bool} {held : Bool}
/-- Five cells that read as a clay are a name and four numbers. -/
theorem clay_of {n : Nat} {cs : List Value} {x : DataW H × List MemPlace} (h : DataW.trod enc Try.prog w base sp held n 75 cs = some x) :
    ∃ c : Cl, cs = c.vals ∧ c.name.size ≤ maxLen := by
  obtain ⟨ys, m, _, _, hlen, _, hf⟩ := DataW.trod_struct Try.underlying75 h
  have hlen := hlen.trans cells_clay
  obtain ⟨c0, c1, c2, c3, c4, rfl⟩ := five hlen
  · skip
    have f0 := hf 0 _ rfl
    have f1 := hf 1 _ rfl
    have f2 := hf 2 _ rfl
    have f3 := hf 3 _ rfl
    have f4 := hf 4 _ rfl
    simp only [List.getElem_toArray, List.getElem_cons_zero, List.getElem_cons_succ] at f0 f1 f2 f3 f4
    rw [cells_str] at f0
    rw [cells_i64] at f1 f2 f3 f4
    have e (j : Nat) (hj : j < 5) : ∃ y, ys[j]? = some y := ⟨_, List.getElem?_eq_getElem (by have : ys.length = 5 := by assumption
                                                                                             omega)⟩
    obtain ⟨y0, e0⟩ := e 0 (by omega)
    obtain ⟨y1, e1⟩ := e 1 (by omega)
    obtain ⟨y2, e2⟩ := e 2 (by omega)
    obtain ⟨y3, e3⟩ := e 3 (by omega)
    obtain ⟨y4, e4⟩ := e 4 (by omega)
    rw [e0] at f0
    rw [e1] at f1
    rw [e2] at f2
    rw [e3] at f3
    rw [e4] at f4
    obtain ⟨s, g0, _, hs⟩ := DataW.trod_string Try.underlying9 f0
    obtain ⟨a, g1, _, _⟩ := DataW.trod_int Try.underlying2 f1
    obtain ⟨b, g2, _, _⟩ := DataW.trod_int Try.underlying2 f2
    obtain ⟨c, g3, _, _⟩ := DataW.trod_int Try.underlying2 f3
    obtain ⟨d, g4, _, _⟩ := DataW.trod_int Try.underlying2 f4
    simp at g0 g1 g2 g3 g4
    subst g0 g1 g2 g3 g4
    exact ⟨⟨s, a, b, c, d⟩, rfl, hs⟩
end
end Go.Proofs.Ytlglijalhacmhab
