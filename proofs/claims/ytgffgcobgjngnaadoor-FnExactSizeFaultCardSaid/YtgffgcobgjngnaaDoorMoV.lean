/-
  Lists of moulds as told: the model's word.
-/
import Derived.Test.YtgffgcobgjngnaaDoorMoS
namespace Go.Proofs.YtgffgcobgjngnaaDoor
open Go.ChangeShapes Go.WideShapes Go.ChangeAt Go.RowKit Go.Joins
/-- A mould in a box of its own. -/
theorem box_mo (w : World) (c : Mo) : ∀ wx, Below (w.alloc (.cells #[.int .i64 c.le, .int .i64 c.wi, .int .i64 c.he, .int .i64 c.us] 38)).heap.size (w.alloc (.cells #[.int .i64 c.le, .int .i64 c.wi, .int .i64 c.he, .int .i64 c.us] 38)) wx → wx.cell? ⟨w.heap.size, 0, none⟩ = some (.int .i64 c.le) ∧ wx.cell? ⟨w.heap.size, 1, none⟩ = some (.int .i64 c.wi) ∧ wx.cell? ⟨w.heap.size, 2, none⟩ = some (.int .i64 c.he) ∧ wx.cell? ⟨w.heap.size, 3, none⟩ = some (.int .i64 c.us) := by
  intro wx h
  have hr : (w.alloc (.cells #[.int .i64 c.le, .int .i64 c.wi, .int .i64 c.he, .int .i64 c.us] 38)).rangeAt w.heap.size 0 c.vals := range_new w #[.int .i64 c.le, .int .i64 c.wi, .int .i64 c.he, .int .i64 c.us] 38
  have := boxedMo (range_below hr h)
  simpa using this
end Go.Proofs.YtgffgcobgjngnaaDoor
