/-
  Small functions of chapter 12 and their fractions: contracts of the program and of the model.
-/
import Derived.Test.YtdhikdaegmekbabArP
import Derived.Test.YtdhikdaegmekbabC2b
import Derived.Test.YtdhikdaegmekbabCmp
import Derived.Test.YtdhikdaegmekbabFmB
import Derived.Deep.RegionWith
import Derived.Deep.RegionHeld3
namespace Go.Proofs.Ytdhikdaegmekbab
open Go.ChangeShapes Go.WideShapes Go.ChangeAt Go.RowKit Go.Joins
theorem whole_impl (n : Int) (w : World) : Calls Try.prog 102 #[.int .i64 n] w fun e w' => e = .returned (.agg #[.int .i64 n, .int .i64 1]) ∧ Below w.heap.size w w' := by
  go_enter Try.func102, Try.ntmps102
  go_wp2
  refine bodyPost_ret (v := .agg #[.int .i64 n, .int .i64 1]) (by simp [results, Try.results102, go_sem]) rfl ⟨rfl, ?_⟩
  exact balloc0 _ _
theorem minus_impl (x y n z : Int) (hz : x - n * y = z) (m0 : -1000000000000 ≤ n * y ∧ n * y ≤ 1000000000000) (x0 : -1000000000000 ≤ x ∧ x ≤ 1000000000000) (w : World) : Calls Try.prog 142 #[.agg #[.int .i64 x, .int .i64 y], .int .i64 n] w fun e w' => e = .returned (.agg #[.int .i64 z, .int .i64 y]) ∧ Below w.heap.size w w' := by
  obtain ⟨m0, m1⟩ := m0
  obtain ⟨x0, x1⟩ := x0
  have HZ := Lib.hid hz
  clear hz
  go_enter Try.func142, Try.ntmps142
  go_wp2
  refine bodyPost_ret (v := .agg #[.int .i64 (x - n * y), .int .i64 y]) (by simp [results, Try.results142, go_sem]) rfl ⟨by rw [HZ.out], ?_⟩
  exact balloc (balloc0 _ _) _
theorem over_impl (x y n : Int) (x0 : -1000000000000 ≤ x ∧ x ≤ 1000000000000) (m0 : 0 < n * y ∧ n * y ≤ 1000000000000) (w : World) : Calls Try.prog 131 #[.agg #[.int .i64 x, .int .i64 y], .int .i64 n] w fun e w' => e = .returned (.agg #[.int .i64 (lowN x (n * y)), .int .i64 (lowD x (n * y))]) ∧ Below w.heap.size w w' := by
  obtain ⟨m0, m1⟩ := m0
  obtain ⟨x0, x1⟩ := x0
  have MK := Lib.hid (lowest_implZ x (n * y) ⟨by omega, by omega⟩ m0 (by omega))
  obtain ⟨N, hN⟩ : ∃ N, lowN x (n * y) = N := ⟨_, rfl⟩
  obtain ⟨E, hE⟩ : ∃ E, lowD x (n * y) = E := ⟨_, rfl⟩
  rw [hN, hE] at MK ⊢
  clear hN hE
  go_enter Try.func131, Try.ntmps131
  go_wp2_with fail
  refine (MK.out _).mono ?_
  rintro e w1 ⟨rfl, hb1⟩
  obtain ⟨hc1, hf1⟩ := bcell hb1
  have hz1 : w.heap.size + 1 < w1.heap.size := by have := hb1.size; simp at this; omega
  go_wp2
  refine bodyPost_ret (v := .agg #[.int .i64 N, .int .i64 E]) (by simp [results, Try.results131, go_sem, hc1]) rfl ⟨rfl, ?_⟩
  exact ((bnext (balloc (balloc0 _ _) _) hb1).setCell (by simp) _).setCell (by simp) _
theorem half_impl (R : Int) (r0 : 0 ≤ R) (r1 : R ≤ 6000) (w : World) : Calls Try.prog 97 #[.int .i64 R] w fun e w' => e = .returned (.agg #[.int .i64 (lowN (355 * R) 113), .int .i64 (lowD (355 * R) 113)]) ∧ Below w.heap.size w w' := by
  have MK := Lib.hid (lowest_implZ (355 * R) 113 ⟨by omega, by omega⟩ (by omega) (by omega))
  obtain ⟨N, hN⟩ : ∃ N, lowN (355 * R) 113 = N := ⟨_, rfl⟩
  obtain ⟨E, hE⟩ : ∃ E, lowD (355 * R) 113 = E := ⟨_, rfl⟩
  rw [hN, hE] at MK ⊢
  clear hN hE
  have e1 : R * 355 = 355 * R := Int.mul_comm ..
  have e2 : IntKind.i64.wrap (R * 355) = 355 * R := by rw [e1]; exact IntWalk.i64_in _ (by omega)
  go_enter Try.func97, Try.ntmps97
  go_wp2_with fail
  refine (MK.out _).mono ?_
  rintro e w1 ⟨rfl, hb1⟩
  obtain ⟨hc1, hf1⟩ := bcell hb1
  have hz1 : w.heap.size < w1.heap.size := by have := hb1.size; simp at this; omega
  go_wp2
  refine bodyPost_ret (v := .agg #[.int .i64 N, .int .i64 E]) (by simp [results, Try.results97, go_sem, hc1]) rfl ⟨rfl, ?_⟩
  exact ((bnext (balloc0 _ _) hb1).setCell (by simp) _).setCell (by simp) _
theorem half_facts (R : Int) (r0 : 0 ≤ R) (r1 : R ≤ 6000) : 0 ≤ lowN (355 * R) 113 ∧ lowN (355 * R) 113 ≤ 2130000 ∧ 0 < lowD (355 * R) 113 ∧ lowD (355 * R) 113 ≤ 113 := by
  obtain ⟨a, b, c, d⟩ := low_bound (355 * R) 113 (by omega) 2130000 (by omega) (by omega)
  have := (low_ge (355 * R) 113 0 (by omega)).2 (by omega)
  rw [Int.zero_mul] at this
  exact ⟨this, b, c, d⟩
set_option maxRecDepth 100000 in
set_option maxHeartbeats 6400000 in
theorem arcmp_impl (a b c d : Int) (m0 : -1000000000000000000 ≤ a * d ∧ a * d ≤ 1000000000000000000) (m1 : -1000000000000000000 ≤ c * b ∧ c * b ≤ 1000000000000000000) (w : World) : Calls Try.prog 101 #[.agg #[.int .i64 a, .int .i64 b], .agg #[.int .i64 c, .int .i64 d]] w fun e w' => e = .returned (.int .i64 (cmpI (a * d) (c * b))) ∧ Below w.heap.size w w' := by
  obtain ⟨m2, m3⟩ := m0
  obtain ⟨m4, m5⟩ := m1
  have C1 := Lib.hid (cmp_impl (a * d) (c * b))
  go_enter Try.func101, Try.ntmps101
  go_wp2_with (go_at_call 132; refine (C1.out _).mono ?_; rintro e w2 ⟨rfl, rfl⟩)
  go_ret
  exact ⟨rfl, balloc (balloc0 _ _) _⟩
end Go.Proofs.Ytdhikdaegmekbab
