/-
  A format, a piece, a fraction in boxes of their own. Nothing of the dump.
-/
import Derived.Test.YtlglijalhacmhabRow
import Derived.Test.YtlglijalhacmhabIn
namespace Go.Proofs.Ytlglijalhacmhab
open Go.ChangeShapes Go.WideShapes Go.ChangeAt Go.RowKit Go.Joins

def FmBox (b : Nat) (l wd ht j : Int) (w : World) : Prop := w.cell? ⟨b, 0, none⟩ = some (.int .i64 l) ∧ w.cell? ⟨b, 1, none⟩ = some (.int .i64 wd) ∧ w.cell? ⟨b, 2, none⟩ = some (.int .i64 ht) ∧ w.cell? ⟨b, 3, none⟩ = some (.int .i64 j)
theorem FmBox.new (w : World) (l wd ht j : Int) (t : TypeId) : FmBox w.heap.size l wd ht j (w.alloc (.cells #[.int .i64 l, .int .i64 wd, .int .i64 ht, .int .i64 j] t)) := by
  refine ⟨?_, ?_, ?_, ?_⟩ <;> (rw [cell_of_row _ _ _ _ t (0, 0) (heap_alloc_new w _)]; rfl)
theorem FmBox.lt {l wd ht j : Int} {b : Nat} {w : World} (h : FmBox b l wd ht j w) : b < w.heap.size := World.block_lt_of_cell? w _ h.1
theorem FmBox.later {l wd ht j : Int} {b : Nat} {w w' : World} (h : FmBox b l wd ht j w) (hb : Below w.heap.size w w') : FmBox b l wd ht j w' :=
  ⟨(hb.cell (World.block_lt_of_cell? w _ h.1)).trans h.1, (hb.cell (World.block_lt_of_cell? w _ h.2.1)).trans h.2.1, (hb.cell (World.block_lt_of_cell? w _ h.2.2.1)).trans h.2.2.1, (hb.cell (World.block_lt_of_cell? w _ h.2.2.2)).trans h.2.2.2⟩
theorem FmBox.drew {l wd ht j : Int} {b : Nat} {w : World} (h : FmBox b l wd ht j w) : FmBox b l wd ht j w.drew := h
theorem FmBox.set {l wd ht j : Int} {b g o : Nat} {w : World} {v : Value} (h : FmBox b l wd ht j w) (hne : b ≠ g) : FmBox b l wd ht j (w.setCell ⟨g, o, none⟩ v) :=
  ⟨(World.cell?_setCell_other _ _ _ _ (fun e => hne (by cases e; rfl))).trans h.1, (World.cell?_setCell_other _ _ _ _ (fun e => hne (by cases e; rfl))).trans h.2.1, (World.cell?_setCell_other _ _ _ _ (fun e => hne (by cases e; rfl))).trans h.2.2.1, (World.cell?_setCell_other _ _ _ _ (fun e => hne (by cases e; rfl))).trans h.2.2.2⟩
def TrBox (b : Nat) (x y z : Int) (w : World) : Prop := w.cell? ⟨b, 0, none⟩ = some (.int .i64 x) ∧ w.cell? ⟨b, 1, none⟩ = some (.int .i64 y) ∧ w.cell? ⟨b, 2, none⟩ = some (.int .i64 z)
theorem TrBox.new (w : World) (x y z : Int) (t : TypeId) : TrBox w.heap.size x y z (w.alloc (.cells #[.int .i64 x, .int .i64 y, .int .i64 z] t)) := by
  refine ⟨?_, ?_, ?_⟩ <;> (rw [cell_of_row _ _ _ _ t (0, 0) (heap_alloc_new w _)]; rfl)
theorem TrBox.lt {x y z : Int} {b : Nat} {w : World} (h : TrBox b x y z w) : b < w.heap.size := World.block_lt_of_cell? w _ h.1
theorem TrBox.later {x y z : Int} {b : Nat} {w w' : World} (h : TrBox b x y z w) (hb : Below w.heap.size w w') : TrBox b x y z w' :=
  ⟨(hb.cell (World.block_lt_of_cell? w _ h.1)).trans h.1, (hb.cell (World.block_lt_of_cell? w _ h.2.1)).trans h.2.1, (hb.cell (World.block_lt_of_cell? w _ h.2.2)).trans h.2.2⟩
theorem TrBox.drew {x y z : Int} {b : Nat} {w : World} (h : TrBox b x y z w) : TrBox b x y z w.drew := h
def TwBox (b : Nat) (x y : Int) (w : World) : Prop := w.cell? ⟨b, 0, none⟩ = some (.int .i64 x) ∧ w.cell? ⟨b, 1, none⟩ = some (.int .i64 y)
theorem TwBox.new (w : World) (x y : Int) (t : TypeId) : TwBox w.heap.size x y (w.alloc (.cells #[.int .i64 x, .int .i64 y] t)) := by
  refine ⟨?_, ?_⟩ <;> (rw [cell_of_row _ _ _ _ t (0, 0) (heap_alloc_new w _)]; rfl)
theorem TwBox.lt {x y : Int} {b : Nat} {w : World} (h : TwBox b x y w) : b < w.heap.size := World.block_lt_of_cell? w _ h.1
theorem TwBox.later {x y : Int} {b : Nat} {w w' : World} (h : TwBox b x y w) (hb : Below w.heap.size w w') : TwBox b x y w' :=
  ⟨(hb.cell (World.block_lt_of_cell? w _ h.1)).trans h.1, (hb.cell (World.block_lt_of_cell? w _ h.2)).trans h.2⟩
theorem TwBox.drew {x y : Int} {b : Nat} {w : World} (h : TwBox b x y w) : TwBox b x y w.drew := h
end Go.Proofs.Ytlglijalhacmhab
