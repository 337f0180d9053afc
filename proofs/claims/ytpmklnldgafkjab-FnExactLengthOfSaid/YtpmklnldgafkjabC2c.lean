/-
  Contracts of the model's functions of chapter 2 that answer a number and a code.
-/
import Derived.Test.YtpmklnldgafkjabC2b
namespace Go.Proofs.Ytpmklnldgafkjab
open Go.ChangeShapes Go.WideShapes Go.ChangeAt Go.RowKit Go.Joins
theorem code_cases (l wd ht j n low high : Int) : (okB l wd ht j = false ∧ codeOf l wd ht j n low high = 1) ∨ (okB l wd ht j = true ∧ ¬ (low ≤ n ∧ n ≤ high) ∧ codeOf l wd ht j n low high = 2) ∨ (okB l wd ht j = true ∧ (low ≤ n ∧ n ≤ high) ∧ codeOf l wd ht j n low high = 0) := by
  cases h1 : okB l wd ht j
  · exact .inl ⟨rfl, codeOf_inv h1⟩
  · by_cases h2 : low ≤ n ∧ n ≤ high
    · exact .inr (.inr ⟨rfl, h2, codeOf_ok h1 h2⟩)
    · exact .inr (.inl ⟨rfl, h2, codeOf_rng h1 h2⟩)
/-- What a function answers beside its code: the value where the code is 0. -/
def valOf (c v : Int) : Int := if c = 0 then v else 0
theorem val0 (v : Int) : valOf 0 v = v := rfl
theorem val1 (v : Int) : valOf 1 v = 0 := rfl
theorem val2 (v : Int) : valOf 2 v = 0 := rfl
theorem tup2 {a b a' b' : Int} (h1 : a = a') (h2 : b = b') : Ending.returned (.tuple #[.int .i64 a, .int .i64 b]) = .returned (.tuple #[.int .i64 a', .int .i64 b']) := by rw [h1, h2]

set_option maxHeartbeats 400000 in
theorem quarters_spec (l wd ht j n : Int) (w : World) : Calls Try.prog 13 #[.agg #[.int .i64 l, .int .i64 wd, .int .i64 ht, .int .i64 j], .int .i64 n] w fun e w' => e = .returned (.tuple #[.int .i64 (valOf (codeOf l wd ht j n 0 100000) (4 * (n + j) / (l + j))), .int .i64 (codeOf l wd ht j n 0 100000)]) ∧ Below w.heap.size w w' := by
  rcases code_cases l wd ht j n 0 100000 with ⟨_, hc⟩ | ⟨_, _, hc⟩ | ⟨h1, h2, hc⟩
  · rw [hc]
    go_enter Try.func13, Try.ntmps13
    go_wp2_with fail
    refine (code_spec l wd ht j n 0 100000 _).mono ?_
    rintro e w1 ⟨rfl, hb1⟩
    rw [hc]
    go_wp2
    go_ret2
    exact ⟨rfl, bnext (balloc0 _ _) hb1⟩
  · rw [hc]
    go_enter Try.func13, Try.ntmps13
    go_wp2_with fail
    refine (code_spec l wd ht j n 0 100000 _).mono ?_
    rintro e w1 ⟨rfl, hb1⟩
    rw [hc]
    go_wp2
    go_ret2
    exact ⟨rfl, bnext (balloc0 _ _) hb1⟩
  · obtain ⟨⟨l1, l2⟩, ⟨w1', w2'⟩, ⟨t1, t2⟩, ⟨j1, j2⟩, _⟩ := okB_true.1 h1
    obtain ⟨n1, n2⟩ := h2
    clear h1

    rw [hc]
    go_enter Try.func13, Try.ntmps13
    go_wp2_with fail
    refine (code_spec l wd ht j n 0 100000 _).mono ?_
    rintro e w1 ⟨rfl, hb1⟩
    obtain ⟨hc1, hf1⟩ := bcell hb1
    have hz1 : w.heap.size < w1.heap.size := by have := hb1.size; simp at this; omega
    rw [hc]
    clear hc
    go_wp2
    go_ret2
    exact ⟨rfl, bnext (balloc0 _ _) hb1⟩

set_option maxHeartbeats 400000 in
theorem height_spec (l wd ht j n : Int) (w : World) : Calls Try.prog 15 #[.agg #[.int .i64 l, .int .i64 wd, .int .i64 ht, .int .i64 j], .int .i64 n] w fun e w' => e = .returned (.tuple #[.int .i64 (valOf (codeOf l wd ht j n 1 200) (n * (ht + j) - j)), .int .i64 (codeOf l wd ht j n 1 200)]) ∧ Below w.heap.size w w' := by
  rcases code_cases l wd ht j n 1 200 with ⟨_, hc⟩ | ⟨_, _, hc⟩ | ⟨h1, h2, hc⟩
  · rw [hc]
    go_enter Try.func15, Try.ntmps15
    go_wp2_with fail
    refine (code_spec l wd ht j n 1 200 _).mono ?_
    rintro e w1 ⟨rfl, hb1⟩
    rw [hc]
    go_wp2
    go_ret2
    exact ⟨rfl, bnext (balloc0 _ _) hb1⟩
  · rw [hc]
    go_enter Try.func15, Try.ntmps15
    go_wp2_with fail
    refine (code_spec l wd ht j n 1 200 _).mono ?_
    rintro e w1 ⟨rfl, hb1⟩
    rw [hc]
    go_wp2
    go_ret2
    exact ⟨rfl, bnext (balloc0 _ _) hb1⟩
  · obtain ⟨⟨l1, l2⟩, ⟨w1', w2'⟩, ⟨t1, t2⟩, ⟨j1, j2⟩, _⟩ := okB_true.1 h1
    obtain ⟨n1, n2⟩ := h2
    clear h1
    have m0 : 0 ≤ n * (ht + j) := Int.mul_nonneg (by omega) (by omega)
    have m1 : n * (ht + j) ≤ 34000 := Int.le_trans (Int.mul_le_mul n2 (show ht + j ≤ 170 by omega) (by omega) (by omega)) (by omega)
    rw [hc]
    go_enter Try.func15, Try.ntmps15
    go_wp2_with fail
    refine (code_spec l wd ht j n 1 200 _).mono ?_
    rintro e w1 ⟨rfl, hb1⟩
    obtain ⟨hc1, hf1⟩ := bcell hb1
    have hz1 : w.heap.size < w1.heap.size := by have := hb1.size; simp at this; omega
    rw [hc]
    clear hc
    go_wp2
    go_ret2
    exact ⟨rfl, bnext (balloc0 _ _) hb1⟩

set_option maxHeartbeats 400000 in
theorem courses_spec (l wd ht j n : Int) (w : World) : Calls Try.prog 17 #[.agg #[.int .i64 l, .int .i64 wd, .int .i64 ht, .int .i64 j], .int .i64 n] w fun e w' => e = .returned (.tuple #[.int .i64 (valOf (codeOf l wd ht j n 0 100000) ((n + j) / (ht + j))), .int .i64 (codeOf l wd ht j n 0 100000)]) ∧ Below w.heap.size w w' := by
  rcases code_cases l wd ht j n 0 100000 with ⟨_, hc⟩ | ⟨_, _, hc⟩ | ⟨h1, h2, hc⟩
  · rw [hc]
    go_enter Try.func17, Try.ntmps17
    go_wp2_with fail
    refine (code_spec l wd ht j n 0 100000 _).mono ?_
    rintro e w1 ⟨rfl, hb1⟩
    rw [hc]
    go_wp2
    go_ret2
    exact ⟨rfl, bnext (balloc0 _ _) hb1⟩
  · rw [hc]
    go_enter Try.func17, Try.ntmps17
    go_wp2_with fail
    refine (code_spec l wd ht j n 0 100000 _).mono ?_
    rintro e w1 ⟨rfl, hb1⟩
    rw [hc]
    go_wp2
    go_ret2
    exact ⟨rfl, bnext (balloc0 _ _) hb1⟩
  · obtain ⟨⟨l1, l2⟩, ⟨w1', w2'⟩, ⟨t1, t2⟩, ⟨j1, j2⟩, _⟩ := okB_true.1 h1
    obtain ⟨n1, n2⟩ := h2
    clear h1

    rw [hc]
    go_enter Try.func17, Try.ntmps17
    go_wp2_with fail
    refine (code_spec l wd ht j n 0 100000 _).mono ?_
    rintro e w1 ⟨rfl, hb1⟩
    obtain ⟨hc1, hf1⟩ := bcell hb1
    have hz1 : w.heap.size < w1.heap.size := by have := hb1.size; simp at this; omega
    rw [hc]
    clear hc
    go_wp2
    go_ret2
    exact ⟨rfl, bnext (balloc0 _ _) hb1⟩

end Go.Proofs.Ytpmklnldgafkjab
