/-
  Contracts of chapter 2's small functions: the code of a format and a number, fractions in lowest terms, a format with its joint, volumes.
-/
import Derived.Test.YtmbmbkagmkmhlaaC2a
import Derived.Test.YtmbmbkagmkmhlaaC2v
import Derived.Test.YtmbmbkagmkmhlaaFrac
import Derived.Deep.RegionHeld3
namespace Go.Proofs.Ytmbmbkagmkmhlaa
open Go.ChangeShapes Go.WideShapes Go.ChangeAt Go.RowKit Go.Joins
theorem with_joint (l wd ht j : Int) (hl : 0 ≤ l ∧ l ≤ 500) (hw : 0 ≤ wd ∧ wd ≤ 250) (hh : 0 ≤ ht ∧ ht ≤ 150) (hj : 0 ≤ j ∧ j ≤ 20) (w : World) : Calls Try.prog 73 #[.agg #[.int .i64 l, .int .i64 wd, .int .i64 ht, .int .i64 j]] w fun e w' => e = .returned (.agg #[.int .i64 (l + j), .int .i64 (wd + j), .int .i64 (ht + j), .int .i64 0]) ∧ Below w.heap.size w w' := by
  go_enter Try.func73, Try.ntmps73
  go_wp2
  refine bodyPost_ret (v := .agg #[.int .i64 (l + j), .int .i64 (wd + j), .int .i64 (ht + j), .int .i64 0]) (by simp [results, Try.results73, go_sem]) rfl ⟨rfl, ?_⟩
  exact balloc (balloc0 _ _) _
end Go.Proofs.Ytmbmbkagmkmhlaa
