/-
  The code of a format and a number: the program's word alone.
-/
import Derived.Test.YtgffgcobgjngnaaC2a
import Derived.Test.YtgffgcobgjngnaaC2v
namespace Go.Proofs.Ytgffgcobgjngnaa
open Go.ChangeShapes Go.WideShapes Go.ChangeAt Go.RowKit Go.Joins

theorem code_impl (l wd ht j n low high : Int) (w : World) : Calls Try.prog 47 #[.agg #[.int .i64 l, .int .i64 wd, .int .i64 ht, .int .i64 j], .int .i64 n, .int .i64 low, .int .i64 high] w fun e w' => e = .returned (.int .i64 (codeOf l wd ht j n low high)) ∧ Below w.heap.size w w' := by
  cases h1 : okB l wd ht j <;> cases h2 : inB n low high
  all_goals
    go_enter Try.func47, Try.ntmps47
    go_wp2_with fail
    refine (vf_any l wd ht j _).mono ?_
    rintro e w1 ⟨rfl, hb1⟩
    go_wp2_with (go_at_call 49; refine (within_impl _ _ _ _).mono ?_; rintro e w' ⟨rfl, rfl⟩)
    go_ret
    refine ⟨ret_int ?_, bnext (balloc0 _ _) hb1⟩
    first
      | exact (codeOf_inv h1).symm
      | exact (codeOf_rng h1 (inB_false.1 h2)).symm
      | exact (codeOf_ok h1 (inB_true.1 h2)).symm
end Go.Proofs.Ytgffgcobgjngnaa
