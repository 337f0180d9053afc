/-
  Contracts of chapter 2's small functions: the code of a format and a number, fractions in lowest terms, a format with its joint, volumes.
-/
import Derived.Test.YtdhikdaegmekbabC2a
import Derived.Test.YtdhikdaegmekbabC2v
import Derived.Test.YtdhikdaegmekbabFrac
import Derived.Deep.RegionHeld3
namespace Go.Proofs.Ytdhikdaegmekbab
open Go.ChangeShapes Go.WideShapes Go.ChangeAt Go.RowKit Go.Joins
theorem code_impl (l wd ht j n low high : Int) (w : World) : Calls Try.prog 73 #[.agg #[.int .i64 l, .int .i64 wd, .int .i64 ht, .int .i64 j], .int .i64 n, .int .i64 low, .int .i64 high] w fun e w' => e = .returned (.int .i64 (codeOf l wd ht j n low high)) ∧ Below w.heap.size w w' := by
  cases h1 : okB l wd ht j <;> cases h2 : inB n low high
  all_goals
    go_enter Try.func73, Try.ntmps73
    go_wp2_with fail
    refine (vf_any l wd ht j _).mono ?_
    rintro e w1 ⟨rfl, hb1⟩
    go_wp2_with (go_at_call 91; refine (within_impl _ _ _ _).mono ?_; rintro e w' ⟨rfl, rfl⟩)
    go_ret
    refine ⟨ret_int ?_, bnext (balloc0 _ _) hb1⟩
    first
      | exact (codeOf_inv h1).symm
      | exact (codeOf_rng h1 (inB_false.1 h2)).symm
      | exact (codeOf_ok h1 (inB_true.1 h2)).symm

theorem with_joint (l wd ht j : Int) (hl : 0 ≤ l ∧ l ≤ 500) (hw : 0 ≤ wd ∧ wd ≤ 250) (hh : 0 ≤ ht ∧ ht ≤ 150) (hj : 0 ≤ j ∧ j ≤ 20) (w : World) : Calls Try.prog 74 #[.agg #[.int .i64 l, .int .i64 wd, .int .i64 ht, .int .i64 j]] w fun e w' => e = .returned (.agg #[.int .i64 (l + j), .int .i64 (wd + j), .int .i64 (ht + j), .int .i64 0]) ∧ Below w.heap.size w w' := by
  go_enter Try.func74, Try.ntmps74
  go_wp2
  refine bodyPost_ret (v := .agg #[.int .i64 (l + j), .int .i64 (wd + j), .int .i64 (ht + j), .int .i64 0]) (by simp [results, Try.results74, go_sem]) rfl ⟨rfl, ?_⟩
  exact balloc (balloc0 _ _) _

theorem volume_impl (l wd ht j : Int) (hl : 0 ≤ l ∧ l ≤ 520) (hw : 0 ≤ wd ∧ wd ≤ 270) (hh : 0 ≤ ht ∧ ht ≤ 170) (w : World) : Calls Try.prog 75 #[.agg #[.int .i64 l, .int .i64 wd, .int .i64 ht, .int .i64 j]] w fun e w' => e = .returned (.int .i64 (l * wd * ht)) ∧ Below w.heap.size w w' := by
  have m0 : 0 ≤ l * wd := Int.mul_nonneg hl.1 hw.1
  have m1 : l * wd ≤ 140400 := Int.le_trans (Int.mul_le_mul hl.2 hw.2 hw.1 (by omega)) (by omega)
  have m2 : 0 ≤ l * wd * ht := Int.mul_nonneg m0 hh.1
  have m3 : l * wd * ht ≤ 23868000 := Int.le_trans (Int.mul_le_mul m1 hh.2 hh.1 (by omega)) (by omega)
  go_enter Try.func75, Try.ntmps75
  go_wp2
  go_ret
  exact ⟨rfl, balloc0 _ _⟩

end Go.Proofs.Ytdhikdaegmekbab
