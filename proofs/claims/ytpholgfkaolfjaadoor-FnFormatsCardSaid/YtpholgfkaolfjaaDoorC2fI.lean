/-
  Contract of VolumeOf by the program: three calls beside two loads in one drawn region.
-/
import Derived.Test.YtpholgfkaolfjaaDoorC2eI
namespace Go.Proofs.YtpholgfkaolfjaaDoor
open Go.ChangeShapes Go.WideShapes Go.ChangeAt Go.RowKit Go.Joins
set_option maxHeartbeats 800000 in
theorem volumes_impl (l wd ht j : Int) (w : World) : Calls Tryd.prog 8 #[.agg #[.int .i64 l, .int .i64 wd, .int .i64 ht, .int .i64 j]] w fun e w' => e = .returned (.tuple #[.int .i64 (if okB l wd ht j = true then l * wd * ht else 0), .int .i64 (if okB l wd ht j = true then (l + j) * (wd + j) * (ht + j) else 0), .int .i64 (if okB l wd ht j = true then 0 else 1)]) ∧ Below w.heap.size w w' := by
  cases h1 : okB l wd ht j
  · go_enter Tryd.func8, Tryd.ntmps8
    go_wp2_with fail
    refine (vf_any l wd ht j _).mono ?_
    rintro e w1 ⟨rfl, hb1⟩
    go_wp2
    go_ret3
    exact ⟨tup3 (by simp) (by simp) (by simp), bnext (balloc0 _ _) hb1⟩
  · obtain ⟨⟨l1, l2⟩, ⟨w1', w2'⟩, ⟨t1, t2⟩, ⟨j1, j2⟩, _⟩ := okB_true.1 h1
    have m0 : 0 ≤ l * wd := Int.mul_nonneg (by omega) (by omega)
    have m1 : l * wd ≤ 125000 := Int.le_trans (Int.mul_le_mul l2 w2' (by omega) (by omega)) (by omega)
    have m2 : 0 ≤ l * wd * ht := Int.mul_nonneg m0 (by omega)
    have m3 : l * wd * ht ≤ 18750000 := Int.le_trans (Int.mul_le_mul m1 t2 (by omega) (by omega)) (by omega)
    have m4 : 0 ≤ (l + j) * (wd + j) := Int.mul_nonneg (by omega) (by omega)
    have m5 : (l + j) * (wd + j) ≤ 140400 := Int.le_trans (Int.mul_le_mul (show l + j ≤ 520 by omega) (show wd + j ≤ 270 by omega) (by omega) (by omega)) (by omega)
    have m6 : 0 ≤ (l + j) * (wd + j) * (ht + j) := Int.mul_nonneg m4 (by omega)
    have m7 : (l + j) * (wd + j) * (ht + j) ≤ 23868000 := Int.le_trans (Int.mul_le_mul m5 (show ht + j ≤ 170 by omega) (by omega) (by omega)) (by omega)
    go_enter Tryd.func8, Tryd.ntmps8
    go_wp2_with fail
    refine (vf_any l wd ht j _).mono ?_
    rintro e w1 ⟨rfl, hb1⟩
    obtain ⟨hc1, hf1⟩ := bcell hb1
    have hz1 : w.heap.size < w1.heap.size := by have := hb1.size; simp at this; omega
    have hB1 : Below w.heap.size w w1 := bnext (balloc0 _ _) hb1
    have g0 : w1.cell? ⟨w.heap.size, 0, none⟩ = some (.int .i64 l) := (hc1 w.heap.size 0 (by simp)).trans (by simp)
    have g1 : w1.cell? ⟨w.heap.size, 1, none⟩ = some (.int .i64 wd) := (hc1 w.heap.size 1 (by simp)).trans (by simp)
    have g2 : w1.cell? ⟨w.heap.size, 2, none⟩ = some (.int .i64 ht) := (hc1 w.heap.size 2 (by simp)).trans (by simp)
    have g3 : w1.cell? ⟨w.heap.size, 3, none⟩ = some (.int .i64 j) := (hc1 w.heap.size 3 (by simp)).trans (by simp)
    clear hc1 hf1 hb1
    have C : Hid (∀ w, _) := fun w => with_joint l wd ht j (by omega) (by omega) (by omega) (by omega) w
    clear m0 m1 m2 m3 m4 m5 m6 m7
    go_wp2_with fail
    go_region_held3 (fun w' => w'.cell? ⟨w.heap.size, 0, none⟩ = some (.int .i64 l) ∧ w'.cell? ⟨w.heap.size, 1, none⟩ = some (.int .i64 wd) ∧ w'.cell? ⟨w.heap.size, 2, none⟩ = some (.int .i64 ht) ∧ w'.cell? ⟨w.heap.size, 3, none⟩ = some (.int .i64 j) ∧ Below w.heap.size w w' ∧ w.heap.size < w'.heap.size)
      (first | exact keep4_call (by assumption) hb | assumption | exact keep4_drew g0 g1 g2 g3 hB1 hz1)
      (first
        | (go_at_call 23; refine (C.out _).mono ?_; rintro e w2 ⟨rfl, hb⟩)
        | (go_at_call 22; refine (volume_impl _ _ _ _ (by omega) (by omega) (by omega) _).mono ?_; rintro e w3 ⟨rfl, hb⟩))
    all_goals
      go_wp2
      go_split_ands
      go_ret3
      exact ⟨tup3 (by simp) (by simp) (by simp), by assumption⟩


end Go.Proofs.YtpholgfkaolfjaaDoor
