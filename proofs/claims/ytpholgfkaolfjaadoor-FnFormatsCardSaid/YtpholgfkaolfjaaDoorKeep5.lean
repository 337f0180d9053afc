/-
  Lemmas that show a region's condition anew: the five cells of a clay in its box.
-/
import Derived.Test.YtpholgfkaolfjaaDoorClay
import Derived.Deep.RegionHeld3
namespace Go.Proofs.YtpholgfkaolfjaaDoor
open Go.ChangeShapes Go.WideShapes Go.ChangeAt Go.RowKit Go.Joins
section
variable {B : Nat} {w w1 w2 : World} {c0 c1 c2 c3 c4 : Value}
theorem keep5_call (h : w1.cell? ⟨B, 0, none⟩ = some c0 ∧ w1.cell? ⟨B, 1, none⟩ = some c1 ∧ w1.cell? ⟨B, 2, none⟩ = some c2 ∧ w1.cell? ⟨B, 3, none⟩ = some c3 ∧ w1.cell? ⟨B, 4, none⟩ = some c4 ∧ Below w.heap.size w w1) (hb : Below w1.heap.size w1 w2) :
    w2.cell? ⟨B, 0, none⟩ = some c0 ∧ w2.cell? ⟨B, 1, none⟩ = some c1 ∧ w2.cell? ⟨B, 2, none⟩ = some c2 ∧ w2.cell? ⟨B, 3, none⟩ = some c3 ∧ w2.cell? ⟨B, 4, none⟩ = some c4 ∧ Below w.heap.size w w2 := by
  obtain ⟨h0, h1, h2, h3, h4, h5⟩ := h
  have hl := World.block_lt_of_cell? w1 _ h0
  exact ⟨(hb.cell (p := ⟨B, 0, none⟩) hl).trans h0, (hb.cell (p := ⟨B, 1, none⟩) hl).trans h1, (hb.cell (p := ⟨B, 2, none⟩) hl).trans h2, (hb.cell (p := ⟨B, 3, none⟩) hl).trans h3, (hb.cell (p := ⟨B, 4, none⟩) hl).trans h4, bnext h5 hb⟩
theorem keep5_drew (h0 : w1.cell? ⟨B, 0, none⟩ = some c0) (h1 : w1.cell? ⟨B, 1, none⟩ = some c1) (h2 : w1.cell? ⟨B, 2, none⟩ = some c2) (h3 : w1.cell? ⟨B, 3, none⟩ = some c3) (h4 : w1.cell? ⟨B, 4, none⟩ = some c4) (h5 : Below w.heap.size w w1) :
    w1.drew.cell? ⟨B, 0, none⟩ = some c0 ∧ w1.drew.cell? ⟨B, 1, none⟩ = some c1 ∧ w1.drew.cell? ⟨B, 2, none⟩ = some c2 ∧ w1.drew.cell? ⟨B, 3, none⟩ = some c3 ∧ w1.drew.cell? ⟨B, 4, none⟩ = some c4 ∧ Below w.heap.size w w1.drew := ⟨h0, h1, h2, h3, h4, h5.drew⟩
theorem keep5_alloc {o : Obj} (h : w1.cell? ⟨B, 0, none⟩ = some c0 ∧ w1.cell? ⟨B, 1, none⟩ = some c1 ∧ w1.cell? ⟨B, 2, none⟩ = some c2 ∧ w1.cell? ⟨B, 3, none⟩ = some c3 ∧ w1.cell? ⟨B, 4, none⟩ = some c4 ∧ Below w.heap.size w w1) :
    (w1.alloc o).cell? ⟨B, 0, none⟩ = some c0 ∧ (w1.alloc o).cell? ⟨B, 1, none⟩ = some c1 ∧ (w1.alloc o).cell? ⟨B, 2, none⟩ = some c2 ∧ (w1.alloc o).cell? ⟨B, 3, none⟩ = some c3 ∧ (w1.alloc o).cell? ⟨B, 4, none⟩ = some c4 ∧ Below w.heap.size w (w1.alloc o) := keep5_call h (balloc0 w1 o)
theorem clay_new (w : World) (c : Cl) (t : TypeId) : (w.alloc (.cells #[.string c.name, .int .i64 c.sh, .int .i64 c.li, .int .i64 c.sa, .int .i64 c.pr] t)).cell? ⟨w.heap.size, 0, none⟩ = some (.string c.name) ∧ (w.alloc (.cells #[.string c.name, .int .i64 c.sh, .int .i64 c.li, .int .i64 c.sa, .int .i64 c.pr] t)).cell? ⟨w.heap.size, 1, none⟩ = some (.int .i64 c.sh) ∧ (w.alloc (.cells #[.string c.name, .int .i64 c.sh, .int .i64 c.li, .int .i64 c.sa, .int .i64 c.pr] t)).cell? ⟨w.heap.size, 2, none⟩ = some (.int .i64 c.li) ∧ (w.alloc (.cells #[.string c.name, .int .i64 c.sh, .int .i64 c.li, .int .i64 c.sa, .int .i64 c.pr] t)).cell? ⟨w.heap.size, 3, none⟩ = some (.int .i64 c.sa) ∧ (w.alloc (.cells #[.string c.name, .int .i64 c.sh, .int .i64 c.li, .int .i64 c.sa, .int .i64 c.pr] t)).cell? ⟨w.heap.size, 4, none⟩ = some (.int .i64 c.pr) := by
  refine ⟨?_, ?_, ?_, ?_, ?_⟩ <;> (rw [cell_of_row _ _ _ _ t (0, 0) (heap_alloc_new w _)]; rfl)
end
end Go.Proofs.YtpholgfkaolfjaaDoor
