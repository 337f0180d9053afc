/-
  A part in a box of its own.
-/
import Derived.Test.YtplggghhhgmebaaPt
namespace Go.Proofs.Ytplggghhhgmebaa
open Go.ChangeShapes Go.WideShapes Go.ChangeAt Go.RowKit Go.Joins

def PtBox (b : Nat) (x y : Int) (w : World) : Prop := w.cell? ⟨b, 0, none⟩ = some (.int .i64 x) ∧ w.cell? ⟨b, 1, none⟩ = some (.int .i64 y)
theorem PtBox.new (w : World) (x y : Int) (t : TypeId) : PtBox w.heap.size x y (w.alloc (.cells #[.int .i64 x, .int .i64 y] t)) := by
  refine ⟨?_, ?_⟩ <;> (rw [cell_of_row _ _ _ _ t (0, 0) (heap_alloc_new w _)]; rfl)
theorem PtBox.lt {x y : Int} {b : Nat} {w w' : World} (h : PtBox b x y w) : b < w.heap.size := World.block_lt_of_cell? w _ h.1
theorem PtBox.later {x y : Int} {b : Nat} {w w' : World} (h : PtBox b x y w) (hb : Below w.heap.size w w') : PtBox b x y w' :=
  ⟨(hb.cell (World.block_lt_of_cell? w _ h.1)).trans h.1, (hb.cell (World.block_lt_of_cell? w _ h.2)).trans h.2⟩
theorem PtBox.drew {x y : Int} {b : Nat} {w w' : World} (h : PtBox b x y w) : PtBox b x y w.drew := h
/-- A new part that holds nothing yet can be written later. -/
theorem ptZero (w : World) : ∀ wx, Below (w.alloc (.cells #[.int .i64 0, .int .i64 0] 51)).heap.size (w.alloc (.cells #[.int .i64 0, .int .i64 0] 51)) wx → wx.there w.heap.size 0 2 := fun wx h =>
  there_below (there_new w #[.int .i64 0, .int .i64 0] 51 2 rfl) h
theorem pt_put {w : World} {g : Nat} (T : w.there g 0 2) (x y : Int) : PtBox g x y (w.setCells g 0 [.int .i64 x, .int .i64 y]) := by
  have h := World.rangeAt_setCells_same w g 0 [.int .i64 x, .int .i64 y] T
  exact ⟨h 0 _ rfl, h 1 _ rfl⟩
theorem pt_one (x y : Int) : (#[Value.int .i64 x, .int .i64 y] : Array Value).all (·.oneCell') = true := by simp [Value.oneCell']
end Go.Proofs.Ytplggghhhgmebaa
