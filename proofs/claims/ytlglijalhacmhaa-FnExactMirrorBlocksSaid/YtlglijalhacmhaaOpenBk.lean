/-
  An argument that is blocks of an arch, read as plain data.
-/
import Derived.Test.YtlglijalhacmhaaOpenI
import Derived.Test.YtlglijalhacmhaaBk
namespace Go.Proofs.Ytlglijalhacmhaa
open Go.ChangeShapes Go.WideShapes Go.ChangeAt Go.RowKit Go.Joins Go.Deep

theorem three_ofB {α : Type} {l : List α} (h : l.length = 3) : ∃ a b c, l = [a, b, c] := by
  match l, h with
  | [a, b, c], _ => exact ⟨a, b, c, rfl⟩
theorem cells_blocks : Try.prog.cellsOf 24 = 3 := by kernel_rfl
theorem cells_intsB : Try.prog.cellsOf 22 = 1 := by kernel_rfl
theorem blocks_of {H : Type} {enc : TypeId × Value → H} {w : World} {base : Nat} {sp : Nat → Bool} {held : Bool} {n : Nat} {cs : List Value} {x : DataW H × List MemPlace} (h : DataW.trod enc Try.prog w base sp held n 24 cs = some x) :
    ∃ (X : Bk) (a b c : Option Addr) (ca cb cc : Nat), cs = [.slice a X.A.length ca, .slice b X.L.length cb, .slice c X.H.length cc] ∧ BkArg w a b c X ∧ BkLen X maxLen := by
  obtain ⟨ys, m, _, _, hlen, _, hf⟩ := DataW.trod_struct Try.underlying24 h
  have hlen := hlen.trans cells_blocks
  obtain ⟨c0, c1, c2, rfl⟩ := three_ofB hlen
  have f0 := hf 0 _ rfl
  have f1 := hf 1 _ rfl
  have f2 := hf 2 _ rfl
  simp only [List.getElem_toArray, List.getElem_cons_zero, List.getElem_cons_succ] at f0 f1 f2
  rw [cells_intsB] at f0 f1 f2
  have e (j : Nat) (hj : j < 3) : ∃ y, ys[j]? = some y := ⟨_, List.getElem?_eq_getElem (by have : ys.length = 3 := by assumption
                                                                                           omega)⟩
  obtain ⟨y0, e0⟩ := e 0 (by omega)
  rw [e0] at f0
  obtain ⟨A, a, ca, g0, hA, hAl⟩ := ints_of f0
  obtain ⟨y1, e1⟩ := e 1 (by omega)
  rw [e1] at f1
  obtain ⟨L, b, cb, g1, hL, hLl⟩ := ints_of f1
  obtain ⟨y2, e2⟩ := e 2 (by omega)
  rw [e2] at f2
  obtain ⟨P, c, cc, g2, hP, hPl⟩ := ints_of f2
  simp at g0 g1 g2
  subst g0 g1 g2
  exact ⟨⟨A, L, P⟩, a, b, c, ca, cb, cc, rfl, ⟨hA, hL, hP⟩, hAl, hLl, hPl⟩
end Go.Proofs.Ytlglijalhacmhaa
