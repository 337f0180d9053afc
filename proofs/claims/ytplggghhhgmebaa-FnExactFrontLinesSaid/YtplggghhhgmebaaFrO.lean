/-
  An argument that is a front, read as plain data.
-/
import Derived.Test.YtplggghhhgmebaaOgO
namespace Go.Proofs.Ytplggghhhgmebaa
open Go.ChangeShapes Go.WideShapes Go.ChangeAt Go.RowKit Go.Joins Go.Deep

theorem three_of {α : Type} {l : List α} (h : l.length = 3) : ∃ a b c, l = [a, b, c] := by
  match l, h with
  | [a, b, c], _ => exact ⟨a, b, c, rfl⟩
theorem cells_front : Try.prog.cellsOf 24 = 3 := by kernel_rfl
theorem cells_ogsT : Try.prog.cellsOf 22 = 1 := by kernel_rfl
section
variable {H : Type} {enc : TypeId × Value → H} {w : World} {base : Nat} {sp : Nat → Bool} {held : Bool}
theorem front_of {n : Nat} {cs : List Value} {x : DataW H × List MemPlace} (h : DataW.trod enc Try.prog w base sp held n 24 cs = some x) :
    ∃ (F C : Int) (L : List Og) (a : Option Addr) (cap : Nat), cs = [.int .i64 F, .int .i64 C, .slice a L.length cap] ∧ (Lit.int .i64 F).wf = true ∧ (Lit.int .i64 C).wf = true ∧ OgArg w a L ∧ L.length ≤ maxLen := by
  obtain ⟨ys, m, _, _, hlen, _, hf⟩ := DataW.trod_struct Try.underlying24 h
  have hlen := hlen.trans cells_front
  obtain ⟨c0, c1, c2, rfl⟩ := three_of hlen
  have f0 := hf 0 _ rfl
  have f1 := hf 1 _ rfl
  have f2 := hf 2 _ rfl
  simp only [List.getElem_toArray, List.getElem_cons_zero, List.getElem_cons_succ] at f0 f1 f2
  rw [cells_ogI] at f0 f1
  rw [cells_ogsT] at f2
  have e (j : Nat) (hj : j < 3) : ∃ y, ys[j]? = some y := ⟨_, List.getElem?_eq_getElem (by have : ys.length = 3 := by assumption
                                                                                           omega)⟩
  obtain ⟨y0, e0⟩ := e 0 (by omega)
  rw [e0] at f0
  obtain ⟨z0, g0, _, wf0⟩ := DataW.trod_int Try.underlying2 f0
  obtain ⟨y1, e1⟩ := e 1 (by omega)
  rw [e1] at f1
  obtain ⟨z1, g1, _, wf1⟩ := DataW.trod_int Try.underlying2 f1
  obtain ⟨y2, e2⟩ := e 2 (by omega)
  rw [e2] at f2
  obtain ⟨L, a, cap, g2, hA, hL⟩ := ogs_of f2
  simp at g0 g1 g2
  subst g0 g1 g2
  exact ⟨z0, z1, L, a, cap, rfl, wf0, wf1, hA, hL⟩
end
end Go.Proofs.Ytplggghhhgmebaa
