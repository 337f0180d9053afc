/-
  Contracts of the program's functions of chapter 2 that answer a number and a code.
-/
import Derived.Test.YtpholgfkaolfjaaC2c
import Derived.Deep.RegionHeld3
namespace Go.Proofs.Ytpholgfkaolfjaa
open Go.ChangeShapes Go.WideShapes Go.ChangeAt Go.RowKit Go.Joins

theorem field0 (a b c d : Int) (w : World) : Sem.run Try.prog (Instr.field 25 (.agg #[.int .i64 a, .int .i64 b, .int .i64 c, .int .i64 d]) 0) w = .ok (.int .i64 a) w := by kernel_rfl
theorem field2 (a b c d : Int) (w : World) : Sem.run Try.prog (Instr.field 25 (.agg #[.int .i64 a, .int .i64 b, .int .i64 c, .int .i64 d]) 2) w = .ok (.int .i64 c) w := by kernel_rfl
set_option maxHeartbeats 400000 in
theorem quarters_impl (l wd ht j n : Int) (w : World) : Calls Try.prog 8 #[.agg #[.int .i64 l, .int .i64 wd, .int .i64 ht, .int .i64 j], .int .i64 n] w fun e w' => e = .returned (.tuple #[.int .i64 (valOf (codeOf l wd ht j n 0 100000) (4 * (n + j) / (l + j))), .int .i64 (codeOf l wd ht j n 0 100000)]) ∧ Below w.heap.size w w' := by
  rcases code_cases l wd ht j n 0 100000 with ⟨_, hc⟩ | ⟨_, _, hc⟩ | ⟨h1, h2, hc⟩
  · rw [hc]
    go_enter Try.func8, Try.ntmps8
    go_wp2_with fail
    refine (code_impl l wd ht j n 0 100000 _).mono ?_
    rintro e w1 ⟨rfl, hb1⟩
    rw [hc]
    go_wp2
    go_ret2
    exact ⟨rfl, bnext (balloc0 _ _) hb1⟩
  · rw [hc]
    go_enter Try.func8, Try.ntmps8
    go_wp2_with fail
    refine (code_impl l wd ht j n 0 100000 _).mono ?_
    rintro e w1 ⟨rfl, hb1⟩
    rw [hc]
    go_wp2
    go_ret2
    exact ⟨rfl, bnext (balloc0 _ _) hb1⟩
  · obtain ⟨⟨l1, l2⟩, ⟨w1', w2'⟩, ⟨t1, t2⟩, ⟨j1, j2⟩, _⟩ := okB_true.1 h1
    obtain ⟨n1, n2⟩ := h2
    clear h1

    rw [hc]
    go_enter Try.func8, Try.ntmps8
    go_wp2_with fail
    refine (code_impl l wd ht j n 0 100000 _).mono ?_
    rintro e w1 ⟨rfl, hb1⟩
    obtain ⟨hc1, hf1⟩ := bcell hb1
    have hz1 : w.heap.size < w1.heap.size := by have := hb1.size; simp at this; omega
    have hB1 : Below w.heap.size w w1 := bnext (balloc0 _ _) hb1
    rw [hc]
    clear hc hf1 hb1
    have q1 : 0 ≤ 4 * (n + j) / (l + j) := Int.ediv_nonneg (by omega) (by omega)
    have q2 : 4 * (n + j) / (l + j) ≤ 4 * (n + j) := Int.ediv_le_self _ (by omega)
    have e3 : (4 * (n + j)).tdiv (l + j) = 4 * (n + j) / (l + j) := Int.tdiv_eq_ediv_of_nonneg (by omega)
    have e4 : IntKind.i64.wrap (4 * (n + j) / (l + j)) = 4 * (n + j) / (l + j) := IntWalk.i64_in _ (by omega)
    have e0 : ¬ l + j = 0 := by omega
    have e1 : IntKind.i64.wrap (n + j) = n + j := IntWalk.i64_in _ (by omega)
    have e2 : IntKind.i64.wrap (4 * (n + j)) = 4 * (n + j) := IntWalk.i64_in _ (by omega)
    have C : Hid (∀ w, _) := fun w => with_joint l wd ht j (by omega) (by omega) (by omega) (by omega) w
    have hfl0 := field0
    have hfl2 := field2
    go_wp2_with fail
    go_region_held3 (fun w' => w'.cell? ⟨w.heap.size, 0, none⟩ = some (.int .i64 l) ∧ w'.cell? ⟨w.heap.size, 1, none⟩ = some (.int .i64 wd) ∧ w'.cell? ⟨w.heap.size, 2, none⟩ = some (.int .i64 ht) ∧ w'.cell? ⟨w.heap.size, 3, none⟩ = some (.int .i64 j) ∧ Below w.heap.size w w' ∧ w.heap.size < w'.heap.size)
      (first
        | (go_split_ands
           refine ⟨?_, ?_, ?_, ?_, ?_, ?_⟩
           · (rw [hb.cell (p := ⟨w.heap.size, 0, none⟩) (by assumption)]; assumption)
           · (rw [hb.cell (p := ⟨w.heap.size, 1, none⟩) (by assumption)]; assumption)
           · (rw [hb.cell (p := ⟨w.heap.size, 2, none⟩) (by assumption)]; assumption)
           · (rw [hb.cell (p := ⟨w.heap.size, 3, none⟩) (by assumption)]; assumption)
           · exact Below.trans (by assumption) (hb.mono (Nat.le_of_lt (by assumption)))
           · exact Nat.lt_of_lt_of_le (by assumption) hb.size)
        | assumption
        | (refine ⟨?_, ?_, ?_, ?_, ?_, ?_⟩ <;> first | (simp [hc1]; done) | exact hB1.drew | exact hz1))
      (first | (go_at_call 15; refine (C.out _).mono ?_; rintro e w2 ⟨rfl, hb⟩))
    all_goals
      clear e0 e1 e2 e3 e4
      go_wp2
      go_split_ands
      go_ret2
      exact ⟨rfl, by assumption⟩

set_option maxHeartbeats 400000 in
theorem height_impl (l wd ht j n : Int) (w : World) : Calls Try.prog 9 #[.agg #[.int .i64 l, .int .i64 wd, .int .i64 ht, .int .i64 j], .int .i64 n] w fun e w' => e = .returned (.tuple #[.int .i64 (valOf (codeOf l wd ht j n 1 200) (n * (ht + j) - j)), .int .i64 (codeOf l wd ht j n 1 200)]) ∧ Below w.heap.size w w' := by
  rcases code_cases l wd ht j n 1 200 with ⟨_, hc⟩ | ⟨_, _, hc⟩ | ⟨h1, h2, hc⟩
  · rw [hc]
    go_enter Try.func9, Try.ntmps9
    go_wp2_with fail
    refine (code_impl l wd ht j n 1 200 _).mono ?_
    rintro e w1 ⟨rfl, hb1⟩
    rw [hc]
    go_wp2
    go_ret2
    exact ⟨rfl, bnext (balloc0 _ _) hb1⟩
  · rw [hc]
    go_enter Try.func9, Try.ntmps9
    go_wp2_with fail
    refine (code_impl l wd ht j n 1 200 _).mono ?_
    rintro e w1 ⟨rfl, hb1⟩
    rw [hc]
    go_wp2
    go_ret2
    exact ⟨rfl, bnext (balloc0 _ _) hb1⟩
  · obtain ⟨⟨l1, l2⟩, ⟨w1', w2'⟩, ⟨t1, t2⟩, ⟨j1, j2⟩, _⟩ := okB_true.1 h1
    obtain ⟨n1, n2⟩ := h2
    clear h1
    have m0 : 0 ≤ n * (ht + j) := Int.mul_nonneg (by omega) (by omega)
    have m1 : n * (ht + j) ≤ 34000 := Int.le_trans (Int.mul_le_mul n2 (show ht + j ≤ 170 by omega) (by omega) (by omega)) (by omega)
    rw [hc]
    go_enter Try.func9, Try.ntmps9
    go_wp2_with fail
    refine (code_impl l wd ht j n 1 200 _).mono ?_
    rintro e w1 ⟨rfl, hb1⟩
    obtain ⟨hc1, hf1⟩ := bcell hb1
    have hz1 : w.heap.size < w1.heap.size := by have := hb1.size; simp at this; omega
    have hB1 : Below w.heap.size w w1 := bnext (balloc0 _ _) hb1
    rw [hc]
    clear hc hf1 hb1
    have e2 : IntKind.i64.wrap (n * (ht + j) - j) = n * (ht + j) - j := IntWalk.i64_in _ (by omega)
    have e1 : IntKind.i64.wrap (n * (ht + j)) = n * (ht + j) := IntWalk.i64_in _ (by omega)
    have C : Hid (∀ w, _) := fun w => with_joint l wd ht j (by omega) (by omega) (by omega) (by omega) w
    have hfl0 := field0
    have hfl2 := field2
    go_wp2_with fail
    go_region_held3 (fun w' => w'.cell? ⟨w.heap.size, 0, none⟩ = some (.int .i64 l) ∧ w'.cell? ⟨w.heap.size, 1, none⟩ = some (.int .i64 wd) ∧ w'.cell? ⟨w.heap.size, 2, none⟩ = some (.int .i64 ht) ∧ w'.cell? ⟨w.heap.size, 3, none⟩ = some (.int .i64 j) ∧ Below w.heap.size w w' ∧ w.heap.size < w'.heap.size)
      (first
        | (go_split_ands
           refine ⟨?_, ?_, ?_, ?_, ?_, ?_⟩
           · (rw [hb.cell (p := ⟨w.heap.size, 0, none⟩) (by assumption)]; assumption)
           · (rw [hb.cell (p := ⟨w.heap.size, 1, none⟩) (by assumption)]; assumption)
           · (rw [hb.cell (p := ⟨w.heap.size, 2, none⟩) (by assumption)]; assumption)
           · (rw [hb.cell (p := ⟨w.heap.size, 3, none⟩) (by assumption)]; assumption)
           · exact Below.trans (by assumption) (hb.mono (Nat.le_of_lt (by assumption)))
           · exact Nat.lt_of_lt_of_le (by assumption) hb.size)
        | assumption
        | (refine ⟨?_, ?_, ?_, ?_, ?_, ?_⟩ <;> first | (simp [hc1]; done) | exact hB1.drew | exact hz1))
      (first | (go_at_call 15; refine (C.out _).mono ?_; rintro e w2 ⟨rfl, hb⟩))
    all_goals
      clear e1 e2
      go_wp2
      go_split_ands
      go_ret2
      exact ⟨rfl, by assumption⟩

set_option maxHeartbeats 400000 in
theorem courses_impl (l wd ht j n : Int) (w : World) : Calls Try.prog 10 #[.agg #[.int .i64 l, .int .i64 wd, .int .i64 ht, .int .i64 j], .int .i64 n] w fun e w' => e = .returned (.tuple #[.int .i64 (valOf (codeOf l wd ht j n 0 100000) ((n + j) / (ht + j))), .int .i64 (codeOf l wd ht j n 0 100000)]) ∧ Below w.heap.size w w' := by
  rcases code_cases l wd ht j n 0 100000 with ⟨_, hc⟩ | ⟨_, _, hc⟩ | ⟨h1, h2, hc⟩
  · rw [hc]
    go_enter Try.func10, Try.ntmps10
    go_wp2_with fail
    refine (code_impl l wd ht j n 0 100000 _).mono ?_
    rintro e w1 ⟨rfl, hb1⟩
    rw [hc]
    go_wp2
    go_ret2
    exact ⟨rfl, bnext (balloc0 _ _) hb1⟩
  · rw [hc]
    go_enter Try.func10, Try.ntmps10
    go_wp2_with fail
    refine (code_impl l wd ht j n 0 100000 _).mono ?_
    rintro e w1 ⟨rfl, hb1⟩
    rw [hc]
    go_wp2
    go_ret2
    exact ⟨rfl, bnext (balloc0 _ _) hb1⟩
  · obtain ⟨⟨l1, l2⟩, ⟨w1', w2'⟩, ⟨t1, t2⟩, ⟨j1, j2⟩, _⟩ := okB_true.1 h1
    obtain ⟨n1, n2⟩ := h2
    clear h1

    rw [hc]
    go_enter Try.func10, Try.ntmps10
    go_wp2_with fail
    refine (code_impl l wd ht j n 0 100000 _).mono ?_
    rintro e w1 ⟨rfl, hb1⟩
    obtain ⟨hc1, hf1⟩ := bcell hb1
    have hz1 : w.heap.size < w1.heap.size := by have := hb1.size; simp at this; omega
    have hB1 : Below w.heap.size w w1 := bnext (balloc0 _ _) hb1
    rw [hc]
    clear hc hf1 hb1
    have q1 : 0 ≤ (n + j) / (ht + j) := Int.ediv_nonneg (by omega) (by omega)
    have q2 : (n + j) / (ht + j) ≤ (n + j) := Int.ediv_le_self _ (by omega)
    have e3 : ((n + j)).tdiv (ht + j) = (n + j) / (ht + j) := Int.tdiv_eq_ediv_of_nonneg (by omega)
    have e4 : IntKind.i64.wrap ((n + j) / (ht + j)) = (n + j) / (ht + j) := IntWalk.i64_in _ (by omega)
    have e0 : ¬ ht + j = 0 := by omega
    have e1 : IntKind.i64.wrap (n + j) = n + j := IntWalk.i64_in _ (by omega)
    have C : Hid (∀ w, _) := fun w => with_joint l wd ht j (by omega) (by omega) (by omega) (by omega) w
    have hfl0 := field0
    have hfl2 := field2
    go_wp2_with fail
    go_region_held3 (fun w' => w'.cell? ⟨w.heap.size, 0, none⟩ = some (.int .i64 l) ∧ w'.cell? ⟨w.heap.size, 1, none⟩ = some (.int .i64 wd) ∧ w'.cell? ⟨w.heap.size, 2, none⟩ = some (.int .i64 ht) ∧ w'.cell? ⟨w.heap.size, 3, none⟩ = some (.int .i64 j) ∧ Below w.heap.size w w' ∧ w.heap.size < w'.heap.size)
      (first
        | (go_split_ands
           refine ⟨?_, ?_, ?_, ?_, ?_, ?_⟩
           · (rw [hb.cell (p := ⟨w.heap.size, 0, none⟩) (by assumption)]; assumption)
           · (rw [hb.cell (p := ⟨w.heap.size, 1, none⟩) (by assumption)]; assumption)
           · (rw [hb.cell (p := ⟨w.heap.size, 2, none⟩) (by assumption)]; assumption)
           · (rw [hb.cell (p := ⟨w.heap.size, 3, none⟩) (by assumption)]; assumption)
           · exact Below.trans (by assumption) (hb.mono (Nat.le_of_lt (by assumption)))
           · exact Nat.lt_of_lt_of_le (by assumption) hb.size)
        | assumption
        | (refine ⟨?_, ?_, ?_, ?_, ?_, ?_⟩ <;> first | (simp [hc1]; done) | exact hB1.drew | exact hz1))
      (first | (go_at_call 15; refine (C.out _).mono ?_; rintro e w2 ⟨rfl, hb⟩))
    all_goals
      clear e0 e1 e3 e4
      go_wp2
      go_split_ands
      go_ret2
      exact ⟨rfl, by assumption⟩

end Go.Proofs.Ytpholgfkaolfjaa
