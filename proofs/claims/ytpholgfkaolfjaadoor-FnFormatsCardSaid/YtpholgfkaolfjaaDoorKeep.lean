/-
  Lemmas that show a region's condition anew: four cells of the block that boxes a struct of four numbers.
-/
import Derived.Test.YtpholgfkaolfjaaDoorBase
import Derived.Deep.RegionHeld3
namespace Go.Proofs.YtpholgfkaolfjaaDoor
open Go.ChangeShapes Go.WideShapes Go.ChangeAt Go.RowKit Go.Joins
section
variable {B g : Nat} {w w1 w2 : World} {a b c0 c1 c2 c3 : Value}
theorem keep4_call (h : w1.cell? ⟨B, 0, none⟩ = some c0 ∧ w1.cell? ⟨B, 1, none⟩ = some c1 ∧ w1.cell? ⟨B, 2, none⟩ = some c2 ∧ w1.cell? ⟨B, 3, none⟩ = some c3 ∧ Below B w w1 ∧ B < w1.heap.size) (hb : Below w1.heap.size w1 w2) :
    w2.cell? ⟨B, 0, none⟩ = some c0 ∧ w2.cell? ⟨B, 1, none⟩ = some c1 ∧ w2.cell? ⟨B, 2, none⟩ = some c2 ∧ w2.cell? ⟨B, 3, none⟩ = some c3 ∧ Below B w w2 ∧ B < w2.heap.size := by
  obtain ⟨h0, h1, h2, h3, h4, h5⟩ := h
  exact ⟨(hb.cell (p := ⟨B, 0, none⟩) h5).trans h0, (hb.cell (p := ⟨B, 1, none⟩) h5).trans h1, (hb.cell (p := ⟨B, 2, none⟩) h5).trans h2, (hb.cell (p := ⟨B, 3, none⟩) h5).trans h3, h4.trans (hb.mono (Nat.le_of_lt h5)), Nat.lt_of_lt_of_le h5 hb.size⟩
theorem keep4_set2 (hg : B < g) (h : w1.cell? ⟨B, 0, none⟩ = some c0 ∧ w1.cell? ⟨B, 1, none⟩ = some c1 ∧ w1.cell? ⟨B, 2, none⟩ = some c2 ∧ w1.cell? ⟨B, 3, none⟩ = some c3 ∧ Below B w w1 ∧ B < w1.heap.size) :
    ((w1.setCell ⟨g, 0, none⟩ a).setCell ⟨g, 1, none⟩ b).cell? ⟨B, 0, none⟩ = some c0 ∧ ((w1.setCell ⟨g, 0, none⟩ a).setCell ⟨g, 1, none⟩ b).cell? ⟨B, 1, none⟩ = some c1 ∧ ((w1.setCell ⟨g, 0, none⟩ a).setCell ⟨g, 1, none⟩ b).cell? ⟨B, 2, none⟩ = some c2 ∧ ((w1.setCell ⟨g, 0, none⟩ a).setCell ⟨g, 1, none⟩ b).cell? ⟨B, 3, none⟩ = some c3 ∧ Below B w ((w1.setCell ⟨g, 0, none⟩ a).setCell ⟨g, 1, none⟩ b) ∧ B < ((w1.setCell ⟨g, 0, none⟩ a).setCell ⟨g, 1, none⟩ b).heap.size := by
  obtain ⟨h0, h1, h2, h3, h4, h5⟩ := h
  have far : ∀ o v o' (u : World), (u.setCell ⟨g, o, none⟩ v).cell? ⟨B, o', none⟩ = u.cell? ⟨B, o', none⟩ := fun o v o' u => World.cell?_setCell_far u ⟨g, o, none⟩ ⟨B, o', none⟩ v (by show g ≠ B; omega)
  exact ⟨by rw [far, far, h0], by rw [far, far, h1], by rw [far, far, h2], by rw [far, far, h3], (h4.setCell (Nat.le_of_lt hg) _).setCell (Nat.le_of_lt hg) _, by simpa [World.setCell] using h5⟩
theorem keep4_drew (h0 : w1.cell? ⟨B, 0, none⟩ = some c0) (h1 : w1.cell? ⟨B, 1, none⟩ = some c1) (h2 : w1.cell? ⟨B, 2, none⟩ = some c2) (h3 : w1.cell? ⟨B, 3, none⟩ = some c3) (h4 : Below B w w1) (h5 : B < w1.heap.size) :
    w1.drew.cell? ⟨B, 0, none⟩ = some c0 ∧ w1.drew.cell? ⟨B, 1, none⟩ = some c1 ∧ w1.drew.cell? ⟨B, 2, none⟩ = some c2 ∧ w1.drew.cell? ⟨B, 3, none⟩ = some c3 ∧ Below B w w1.drew ∧ B < w1.drew.heap.size := ⟨h0, h1, h2, h3, h4.drew, h5⟩
theorem keep4_alloc {o : Obj} (h : w1.cell? ⟨B, 0, none⟩ = some c0 ∧ w1.cell? ⟨B, 1, none⟩ = some c1 ∧ w1.cell? ⟨B, 2, none⟩ = some c2 ∧ w1.cell? ⟨B, 3, none⟩ = some c3 ∧ Below B w w1 ∧ B < w1.heap.size) :
    (w1.alloc o).cell? ⟨B, 0, none⟩ = some c0 ∧ (w1.alloc o).cell? ⟨B, 1, none⟩ = some c1 ∧ (w1.alloc o).cell? ⟨B, 2, none⟩ = some c2 ∧ (w1.alloc o).cell? ⟨B, 3, none⟩ = some c3 ∧ Below B w (w1.alloc o) ∧ B < (w1.alloc o).heap.size :=
  keep4_call h (balloc0 w1 o)
end
/-- The box of a struct of four numbers. -/
theorem range_new4 (w : World) (a b c d : Int) {t : TypeId} : (w.alloc (.cells #[.int .i64 a, .int .i64 b, .int .i64 c, .int .i64 d] t)).cell? ⟨w.heap.size, 0, none⟩ = some (.int .i64 a) ∧ (w.alloc (.cells #[.int .i64 a, .int .i64 b, .int .i64 c, .int .i64 d] t)).cell? ⟨w.heap.size, 1, none⟩ = some (.int .i64 b) ∧ (w.alloc (.cells #[.int .i64 a, .int .i64 b, .int .i64 c, .int .i64 d] t)).cell? ⟨w.heap.size, 2, none⟩ = some (.int .i64 c) ∧ (w.alloc (.cells #[.int .i64 a, .int .i64 b, .int .i64 c, .int .i64 d] t)).cell? ⟨w.heap.size, 3, none⟩ = some (.int .i64 d) := by
  refine ⟨?_, ?_, ?_, ?_⟩ <;> (rw [cell_of_row _ _ _ _ t (0, 0) (heap_alloc_new w _)]; rfl)
end Go.Proofs.YtpholgfkaolfjaaDoor
