/-
  What the laws ask of moulds: their size, copies, equality, and the marks that they write.
-/
import Derived.Test.YtgffgcobgjngnaaDoorMo
import Derived.Deep.RegionWith
namespace Go.Proofs.YtgffgcobgjngnaaDoor
open Go.ChangeShapes Go.WideShapes Go.ChangeAt Go.RowKit Go.Joins
theorem to_mould (c : Mo) (w : World) : Calls Tryd.prog 20 #[.agg #[.int .i64 c.le, .int .i64 c.wi, .int .i64 c.he, .int .i64 c.us]] w fun e w' => e = .returned (.agg #[.int .i64 c.le, .int .i64 c.wi, .int .i64 c.he, .int .i64 c.us]) ∧ Below w.heap.size w w' := by
  go_enter Tryd.func20, Tryd.ntmps20
  go_wp2
  refine bodyPost_ret (v := .agg #[.int .i64 c.le, .int .i64 c.wi, .int .i64 c.he, .int .i64 c.us]) (by simp [results, Tryd.results20, go_sem]) rfl ⟨rfl, ?_⟩
  first | exact (((Below.refl _ _).alloc (Nat.le_refl _) _).alloc (by simp) _).alloc (by simp; omega) _ | exact ((Below.refl _ _).alloc (Nat.le_refl _) _).alloc (by simp) _ | exact (Below.refl _ _).alloc (Nat.le_refl _) _

theorem eq_mould (c : Mo) (w : World) : Calls Tryd.prog 24 #[.agg #[.int .i64 c.le, .int .i64 c.wi, .int .i64 c.he, .int .i64 c.us], .agg #[.int .i64 c.le, .int .i64 c.wi, .int .i64 c.he, .int .i64 c.us]] w fun e w' => e = .returned (.bool true) ∧ Below w.heap.size w w' := by
  go_enter Tryd.func24, Tryd.ntmps24
  go_wp2
  go_ret
  exact ⟨rfl, balloc (balloc0 _ _) _⟩
end Go.Proofs.YtgffgcobgjngnaaDoor
