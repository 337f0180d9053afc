/-
  What the laws ask of rows of Piece: their size, copies, equality.
-/
import Derived.Test.YtmbmbkagmkmhlacDoorPc
import Derived.Deep.RegionWith
namespace Go.Proofs.YtmbmbkagmkmhlacDoor
open Go.ChangeShapes Go.WideShapes Go.ChangeAt Go.RowKit Go.Joins
theorem to_pc (c : Pc) (w : World) : Calls Tryd.prog 5 #[.agg #[.int .i64 c.le, .int .i64 c.he, .int .i64 c.ha]] w fun e w' => e = .returned (.agg #[.int .i64 c.le, .int .i64 c.he, .int .i64 c.ha]) ∧ Below w.heap.size w w' := by
  go_enter Tryd.func5, Tryd.ntmps5
  go_wp2
  refine bodyPost_ret (v := .agg #[.int .i64 c.le, .int .i64 c.he, .int .i64 c.ha]) (by simp [results, Tryd.results5, go_sem]) rfl ⟨rfl, ?_⟩
  first | exact (((Below.refl _ _).alloc (Nat.le_refl _) _).alloc (by simp) _).alloc (by simp; omega) _ | exact ((Below.refl _ _).alloc (Nat.le_refl _) _).alloc (by simp) _ | exact (Below.refl _ _).alloc (Nat.le_refl _) _
end Go.Proofs.YtmbmbkagmkmhlacDoor
