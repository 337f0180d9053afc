/-
  The walk of the law on ArcPoint.
-/
import Derived.Test.YtdhikdaegmekbaaArA
import Derived.Deep.RegionWith
namespace Go.Proofs.Ytdhikdaegmekbaa
open Go.ChangeShapes Go.WideShapes Go.ChangeAt Go.RowKit Go.Joins

set_option maxRecDepth 100000 in
set_option maxHeartbeats 12800000 in
theorem walk_FnExactArcPoint (x0 : Int) (_wx0 : (Lit.int .i64 x0).wf = true) (x1 : Int) (_wx1 : (Lit.int .i64 x1).wf = true) (x2 : Int) (_wx2 : (Lit.int .i64 x2).wf = true) (w : World) :
    Calls Try.prog 10 #[.int .i64 x0, .int .i64 x1, .int .i64 x2] w fun e w' => e = .returned (.bool true) ∧ Below w.heap.size w w' := by
  have S := Lib.hid (fun (wx : World) => arc_spec x0 x1 x2 wx)
  have I := Lib.hid (fun (wx : World) => arc_impl x0 x1 x2 wx)
  obtain ⟨v0n, hv⟩ : ∃ v : Int, axN x0 x1 x2 = v := ⟨_, rfl⟩
  rw [hv] at S I
  clear hv
  obtain ⟨v0d, hv⟩ : ∃ v : Int, axD x0 x1 x2 = v := ⟨_, rfl⟩
  rw [hv] at S I
  clear hv
  obtain ⟨v1n, hv⟩ : ∃ v : Int, ayN x0 x1 x2 = v := ⟨_, rfl⟩
  rw [hv] at S I
  clear hv
  obtain ⟨v1d, hv⟩ : ∃ v : Int, ayD x0 x1 x2 = v := ⟨_, rfl⟩
  rw [hv] at S I
  clear hv
  obtain ⟨v2, hv⟩ : ∃ v : Int, apC x0 x1 x2 = v := ⟨_, rfl⟩
  rw [hv] at S I
  clear hv
  go_enter Try.func10, Try.ntmps10
  go_wp2_with fail
  refine (S.out _).mono ?_
  rintro e w1 ⟨rfl, hb1⟩
  have B1 := Lib.hid (bnext (Below.refl w.heap.size w) hb1)
  clear hb1
  have F0 := Lib.hid (range_new w1 #[.int .i64 v0n, .int .i64 v0d] 29)
  have bq := balloc0 w1 (.cells #[.int .i64 v0n, .int .i64 v0d] 29)
  have BQ := Lib.hid (bnext B1.out bq)
  obtain ⟨FW0, hFW0⟩ : ∃ V, w1.alloc (.cells #[.int .i64 v0n, .int .i64 v0d] 29) = V := ⟨_, rfl⟩
  have Fy0 : FW0.heap.size = w1.heap.size + 1 := by rw [← hFW0]; simp
  rw [hFW0] at BQ F0
  have BF0 := BQ
  clear BQ bq
  have HF0 := Lib.hid hFW0
  clear hFW0
  have F1 := Lib.hid (range_new FW0 #[.int .i64 v1n, .int .i64 v1d] 29)
  rw [Fy0] at F1
  have bq := balloc0 FW0 (.cells #[.int .i64 v1n, .int .i64 v1d] 29)
  have BQ := Lib.hid (bnext BF0.out bq)
  have F0 := Lib.hid (range_below F0.out bq)
  obtain ⟨FW1, hFW1⟩ : ∃ V, FW0.alloc (.cells #[.int .i64 v1n, .int .i64 v1d] 29) = V := ⟨_, rfl⟩
  have Fy1 : FW1.heap.size = FW0.heap.size + 1 := by rw [← hFW1]; simp
  rw [hFW1] at BQ F1 F0
  have BF1 := BQ
  clear BQ bq
  have HF1 := Lib.hid hFW1
  clear hFW1
  go_wp2_with fail
  try rw [HF0.out]
  try rw [HF1.out]
  refine (I.out _).mono ?_
  rintro e w2 ⟨rfl, hb2⟩
  have B2 := Lib.hid (bnext BF1.out hb2)
  have F0 := Lib.hid (range_below F0.out hb2)
  have F1 := Lib.hid (range_below F1.out hb2)
  clear hb2
  have P0 := F0
  have P1 := F1
  have H0 := Lib.hid (range_new w2 #[.int .i64 v0n, .int .i64 v0d] 29)
  have bq := balloc0 w2 (.cells #[.int .i64 v0n, .int .i64 v0d] 29)
  have BQ := Lib.hid (bnext B2.out bq)
  have F0 := Lib.hid (range_below F0.out bq)
  have F1 := Lib.hid (range_below F1.out bq)
  obtain ⟨HW0, hHW0⟩ : ∃ V, w2.alloc (.cells #[.int .i64 v0n, .int .i64 v0d] 29) = V := ⟨_, rfl⟩
  have Hy0 : HW0.heap.size = w2.heap.size + 1 := by rw [← hHW0]; simp
  rw [hHW0] at BQ H0 F0 F1
  have BH0 := BQ
  clear BQ bq
  have HH0 := Lib.hid hHW0
  clear hHW0
  have H1 := Lib.hid (range_new HW0 #[.int .i64 v1n, .int .i64 v1d] 29)
  rw [Hy0] at H1
  have bq := balloc0 HW0 (.cells #[.int .i64 v1n, .int .i64 v1d] 29)
  have BQ := Lib.hid (bnext BH0.out bq)
  have F0 := Lib.hid (range_below F0.out bq)
  have F1 := Lib.hid (range_below F1.out bq)
  have H0 := Lib.hid (range_below H0.out bq)
  obtain ⟨HW1, hHW1⟩ : ∃ V, HW0.alloc (.cells #[.int .i64 v1n, .int .i64 v1d] 29) = V := ⟨_, rfl⟩
  have Hy1 : HW1.heap.size = HW0.heap.size + 1 := by rw [← hHW1]; simp
  rw [hHW1] at BQ H1 F0 F1 H0
  have BH1 := BQ
  clear BQ bq
  have HH1 := Lib.hid hHW1
  clear hHW1
  have P00 := P0.out 0 _ rfl
  have P01 := P0.out 1 _ rfl
  simp only [Nat.zero_add] at P00 P01
  have P0z := World.block_lt_of_cell? _ _ P00
  go_wp2_with fail
  rw [HH0.out]
  rw [HH1.out]
  refine (eq_fraction v0n v0d v0n v0d _).mono ?_
  rintro e w3 ⟨rfl, hb3⟩
  rw [show decide (v0n = v0n ∧ v0d = v0d) = true by simp]
  have B3 := Lib.hid (bnext BH1.out hb3)
  have F0 := Lib.hid (range_below F0.out hb3)
  have F1 := Lib.hid (range_below F1.out hb3)
  have H0 := Lib.hid (range_below H0.out hb3)
  have H1 := Lib.hid (range_below H1.out hb3)
  clear hb3 P00 P01 P0z P0 P1
  have F10 := F1.out 0 _ rfl
  have F11 := F1.out 1 _ rfl
  simp only [Nat.zero_add] at F10 F11
  have F1z := World.block_lt_of_cell? _ _ F10
  have H10 := H1.out 0 _ rfl
  have H11 := H1.out 1 _ rfl
  simp only [Nat.zero_add] at H10 H11
  have H1z := World.block_lt_of_cell? _ _ H10
  go_wp2_with fail
  refine (eq_fraction v1n v1d v1n v1d _).mono ?_
  rintro e w4 ⟨rfl, hb4⟩
  rw [show decide (v1n = v1n ∧ v1d = v1d) = true by simp]
  have B4 := Lib.hid (bnext B3.out hb4)
  have F0 := Lib.hid (range_below F0.out hb4)
  have F1 := Lib.hid (range_below F1.out hb4)
  have H0 := Lib.hid (range_below H0.out hb4)
  have H1 := Lib.hid (range_below H1.out hb4)
  clear hb4 F10 F11 F1z H10 H11 H1z
  go_wp2
  go_ret
  exact ⟨rfl, B4.out⟩
end Go.Proofs.Ytdhikdaegmekbaa
