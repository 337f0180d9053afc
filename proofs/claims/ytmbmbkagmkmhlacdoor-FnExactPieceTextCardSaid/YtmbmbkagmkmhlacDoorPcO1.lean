/-
  Arguments that hold rows of Piece, read as plain data.
-/
import Derived.Test.YtmbmbkagmkmhlacDoorPc
import Derived.Test.YtmbmbkagmkmhlacDoorFrame
import Derived.Deep.Slices
import Derived.Deep.Fields
namespace Go.Proofs.YtmbmbkagmkmhlacDoor
open Go.ChangeShapes Go.WideShapes Go.ChangeAt Go.RowKit Go.Joins Go.Deep

theorem npc {α : Type} {l : List α} (h : l.length = 3) : ∃ a b c, l = [a, b, c] := by
  match l, h with
  | [a, b, c], _ => exact ⟨a, b, c, rfl⟩
theorem cells_pcT : Tryd.prog.cellsOf 23 = 3 := by kernel_rfl
theorem cells_pcI : Tryd.prog.cellsOf 2 = 1 := by kernel_rfl

theorem pc_of {H : Type} {enc : TypeId × Value → H} {w : World} {base : Nat} {sp : Nat → Bool} {held : Bool} {n : Nat} {cs : List Value} {x : DataW H × List MemPlace} (h : DataW.trod enc Tryd.prog w base sp held n 23 cs = some x) :
    ∃ c : Pc, cs = c.vals := by
  obtain ⟨ys, m, _, _, hlen, _, hf⟩ := DataW.trod_struct Tryd.underlying23 h
  have hlen := hlen.trans cells_pcT
  obtain ⟨c0, c1, c2, rfl⟩ := npc hlen
  have f0 := hf 0 _ rfl
  have f1 := hf 1 _ rfl
  have f2 := hf 2 _ rfl
  simp only [List.getElem_toArray, List.getElem_cons_zero, List.getElem_cons_succ] at f0 f1 f2
  rw [cells_pcI] at f0 f1 f2
  have e (j : Nat) (hj : j < 3) : ∃ y, ys[j]? = some y := ⟨_, List.getElem?_eq_getElem (by have : ys.length = 3 := by assumption
                                                                                           omega)⟩
  obtain ⟨y0, e0⟩ := e 0 (by omega)
  rw [e0] at f0
  obtain ⟨z0, g0, _, _⟩ := DataW.trod_int Tryd.underlying2 f0
  obtain ⟨y1, e1⟩ := e 1 (by omega)
  rw [e1] at f1
  obtain ⟨z1, g1, _, _⟩ := DataW.trod_int Tryd.underlying2 f1
  obtain ⟨y2, e2⟩ := e 2 (by omega)
  rw [e2] at f2
  obtain ⟨z2, g2, _, _⟩ := DataW.trod_int Tryd.underlying2 f2
  simp at g0 g1 g2
  subst g0 g1 g2
  exact ⟨⟨z0, z1, z2⟩, rfl⟩

end Go.Proofs.YtmbmbkagmkmhlacDoor
