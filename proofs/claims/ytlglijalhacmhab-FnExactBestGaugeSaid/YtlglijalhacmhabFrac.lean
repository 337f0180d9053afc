/-
  Fractions in lowest terms: the program's and the model's; equality of fractions.
-/
import Derived.Test.YtlglijalhacmhabGcd
import Derived.Deep.RegionHeld3
namespace Go.Proofs.Ytlglijalhacmhab
open Go.ChangeShapes Go.WideShapes Go.ChangeAt Go.RowKit Go.Joins

theorem gcd_specZ (a b : Int) (ha : 0 ≤ a) (hb : 0 ≤ b) (ha' : a ≤ 9223372036854775807) (hb' : b ≤ 9223372036854775807) (w : World) :
    Calls Try.prog 59 #[.int .i64 a, .int .i64 b] w fun e w' => e = .returned (.int .i64 (Int.gcd a b : Nat)) ∧ w = w' := by
  obtain ⟨x, rfl⟩ := Int.eq_ofNat_of_zero_le ha
  obtain ⟨y, rfl⟩ := Int.eq_ofNat_of_zero_le hb
  exact gcd_spec x y (by omega) (by omega) w
theorem gcd_implZ (a b : Int) (ha : 0 ≤ a) (hb : 0 ≤ b) (ha' : a ≤ 9223372036854775807) (hb' : b ≤ 9223372036854775807) (w : World) :
    Calls Try.prog 60 #[.int .i64 a, .int .i64 b] w fun e w' => e = .returned (.int .i64 (Int.gcd a b : Nat)) ∧ Below w.heap.size w w' := by
  obtain ⟨x, rfl⟩ := Int.eq_ofNat_of_zero_le ha
  obtain ⟨y, rfl⟩ := Int.eq_ofNat_of_zero_le hb
  exact gcd_impl x y (by omega) (by omega) w
/-- A number over its greatest common divisor with another. -/
def lowN (a b : Int) : Int := a / (Int.gcd a b : Nat)
def lowD (a b : Int) : Int := b / (Int.gcd a b : Nat)
theorem gcd_pos (a b : Int) (hb : 0 < b) : ∃ g : Int, Hid (((Int.gcd a b : Nat) : Int) = g) ∧ 1 ≤ g ∧ g ≤ b := by
  refine ⟨_, rfl, ?_, ?_⟩
  · have := Int.gcd_pos_of_ne_zero_right a (b := b) (by omega)
    omega
  · exact Int.le_of_dvd hb (Int.gcd_dvd_right ..)
theorem low_scale (g x y : Int) (hg : 0 < g) : lowN (g * x) (g * y) = lowN x y ∧ lowD (g * x) (g * y) = lowD x y := by
  have e : ((Int.gcd (g * x) (g * y) : Nat) : Int) = g * (Int.gcd x y : Nat) := by
    rw [Int.gcd_mul_left]
    push_cast
    rw [Int.natAbs_of_nonneg (Int.le_of_lt hg)]
  unfold lowN lowD
  rw [e]
  exact ⟨Int.mul_ediv_mul_of_pos _ _ hg, Int.mul_ediv_mul_of_pos _ _ hg⟩
theorem low_back (a b : Int) (hb : 0 < b) : ∃ g : Int, 0 < g ∧ g ≤ b ∧ a = g * lowN a b ∧ b = g * lowD a b ∧ 0 < lowD a b := by
  have g0 : 0 < ((Int.gcd a b : Nat) : Int) := by
    have := Int.gcd_pos_of_ne_zero_right a (b := b) (by omega)
    omega
  have e1 : ((Int.gcd a b : Nat) : Int) * lowN a b = a := Int.mul_ediv_cancel' (Int.gcd_dvd_left ..)
  have e2 : ((Int.gcd a b : Nat) : Int) * lowD a b = b := Int.mul_ediv_cancel' (Int.gcd_dvd_right ..)
  refine ⟨_, g0, Int.le_of_dvd hb (Int.gcd_dvd_right ..), e1.symm, e2.symm, ?_⟩
  by_cases h : 0 < lowD a b
  · exact h
  · have := Int.mul_le_mul_of_nonneg_left (show lowD a b ≤ 0 by omega) (Int.le_of_lt g0)
    rw [e2] at this
    omega
/-- the sign of a fraction, and how it stands to a number -/
theorem low_le (a b k : Int) (hb : 0 < b) : lowN a b ≤ k * lowD a b ↔ a ≤ k * b := by
  obtain ⟨g, g0, -, e1, e2, -⟩ := low_back a b hb
  obtain ⟨N, hN⟩ : ∃ N, lowN a b = N := ⟨_, rfl⟩
  obtain ⟨D, hD⟩ : ∃ D, lowD a b = D := ⟨_, rfl⟩
  rw [hN] at e1 ⊢; rw [hD] at e2 ⊢
  subst e1 e2
  rw [show k * (g * D) = g * (k * D) by rw [← Int.mul_assoc, Int.mul_comm k g, Int.mul_assoc]]
  exact ⟨fun h => Int.mul_le_mul_of_nonneg_left h (Int.le_of_lt g0), fun h => Int.le_of_mul_le_mul_left h g0⟩
theorem low_ge (a b k : Int) (hb : 0 < b) : k * lowD a b ≤ lowN a b ↔ k * b ≤ a := by
  obtain ⟨g, g0, -, e1, e2, -⟩ := low_back a b hb
  obtain ⟨N, hN⟩ : ∃ N, lowN a b = N := ⟨_, rfl⟩
  obtain ⟨D, hD⟩ : ∃ D, lowD a b = D := ⟨_, rfl⟩
  rw [hN] at e1 ⊢; rw [hD] at e2 ⊢
  subst e1 e2
  rw [show k * (g * D) = g * (k * D) by rw [← Int.mul_assoc, Int.mul_comm k g, Int.mul_assoc]]
  exact ⟨fun h => Int.mul_le_mul_of_nonneg_left h (Int.le_of_lt g0), fun h => Int.le_of_mul_le_mul_left h g0⟩
/-- lowest terms of a fraction less a number, over another one -/
theorem low_step (a b m n : Int) (hb : 0 < b) : lowN (lowN a b - m * lowD a b) (n * lowD a b) = lowN (a - m * b) (n * b) ∧ lowD (lowN a b - m * lowD a b) (n * lowD a b) = lowD (a - m * b) (n * b) := by
  obtain ⟨g, g0, -, e1, e2, -⟩ := low_back a b hb
  obtain ⟨N, hN⟩ : ∃ N, lowN a b = N := ⟨_, rfl⟩
  obtain ⟨D, hD⟩ : ∃ D, lowD a b = D := ⟨_, rfl⟩
  rw [hN] at e1 ⊢; rw [hD] at e2 ⊢
  obtain ⟨s1, s2⟩ := low_scale g (N - m * D) (n * D) g0
  rw [← s1, ← s2]
  have f1 : g * (N - m * D) = a - m * b := by rw [e1, e2, Int.mul_sub, Int.mul_left_comm]
  have f2 : g * (n * D) = n * b := by rw [e2, Int.mul_left_comm]
  rw [f1, f2]
  exact ⟨rfl, rfl⟩
theorem low_bound (a b : Int) (hb : 0 < b) (M : Int) (h0 : -M ≤ a) (h1 : a ≤ M) : -M ≤ lowN a b ∧ lowN a b ≤ M ∧ 0 < lowD a b ∧ lowD a b ≤ b := by
  obtain ⟨g, g0, -, e1, e2, d0⟩ := low_back a b hb
  obtain ⟨N, hN⟩ : ∃ N, lowN a b = N := ⟨_, rfl⟩
  obtain ⟨D, hD⟩ : ∃ D, lowD a b = D := ⟨_, rfl⟩
  rw [hN] at e1 ⊢; rw [hD] at e2 d0 ⊢
  refine ⟨?_, ?_, d0, ?_⟩
  · by_cases h : 0 ≤ N
    · omega
    · have := Int.mul_le_mul_of_nonpos_right (show (1 : Int) ≤ g by omega) (show N ≤ 0 by omega)
      omega
  · by_cases h : 0 ≤ N
    · have := Int.mul_le_mul_of_nonneg_right (show (1 : Int) ≤ g by omega) h
      omega
    · omega
  · have := Int.mul_le_mul_of_nonneg_right (show (1 : Int) ≤ g by omega) (Int.le_of_lt d0)
    omega
theorem frac2 {a b a' b' : Int} (h1 : a = a') (h2 : b = b') : Ending.returned (.agg #[.int .i64 a, .int .i64 b]) = .returned (.agg #[.int .i64 a', .int .i64 b']) := by rw [h1, h2]
theorem size_specZ (a : Int) (ha : -1000000000000000000 ≤ a ∧ a ≤ 1000000000000000000) (w : World) : Calls Try.prog 109 #[.int .i64 a] w fun e w' => e = .returned (.int .i64 ((a.natAbs : Nat) : Int)) ∧ w = w' := by
  obtain ⟨a0, a1⟩ := ha
  by_cases h : a < 0
  all_goals
    go_enter Try.func109, Try.ntmps109
    go_wp2
    go_ret
    exact ⟨ret_int (by omega), rfl⟩
theorem dist0_impl (a : Int) (ha : -1000000000000000000 ≤ a ∧ a ≤ 1000000000000000000) (w : World) : Calls Try.prog 119 #[.int .i64 a, .int .i64 0] w fun e w' => e = .returned (.int .i64 ((a.natAbs : Nat) : Int)) ∧ w = w' := by
  obtain ⟨a0, a1⟩ := ha
  by_cases h : a < 0
  all_goals
    go_enter Try.func119, Try.ntmps119
    go_wp2
    go_ret
    exact ⟨ret_int (by omega), rfl⟩
theorem make_specZ (a b : Int) (ha : -1000000000000000000 ≤ a ∧ a ≤ 1000000000000000000) (hb : 0 < b) (hb' : b ≤ 1000000000000000000) (w : World) :
    Calls Try.prog 94 #[.int .i64 a, .int .i64 b] w fun e w' => e = .returned (.agg #[.int .i64 (lowN a b), .int .i64 (lowD a b)]) ∧ Below w.heap.size w w' := by
  obtain ⟨g, hg, hg1, hg2⟩ := gcd_pos a b hb
  have hz : ¬ g = 0 := by omega
  have GC := Lib.hid (gcd_specZ (a.natAbs : Int) b (by omega) (by omega) (by omega) (by omega))
  have hgz : ((Int.gcd (a.natAbs : Int) b : Nat) : Int) = g := by rw [← hg.out]; simp [Int.gcd]
  rw [hgz] at GC
  clear hgz
  have SZ := Lib.hid (size_specZ a ha)
  obtain ⟨l0, l1, d0, d1⟩ := low_bound a b hb 1000000000000000000 ha.1 ha.2
  have t1 : a.tdiv g = lowN a b := by rw [← hg.out]; exact Int.tdiv_eq_ediv_of_dvd (Int.gcd_dvd_left ..)
  have t2 : b.tdiv g = lowD a b := by rw [← hg.out]; exact Int.tdiv_eq_ediv_of_dvd (Int.gcd_dvd_right ..)
  obtain ⟨N, hN⟩ : ∃ N, lowN a b = N := ⟨_, rfl⟩
  obtain ⟨D, hD⟩ : ∃ D, lowD a b = D := ⟨_, rfl⟩
  rw [hN] at l0 l1 t1 ⊢
  rw [hD] at d0 d1 t2 ⊢
  clear hN hD hg ha
  have u1 : IntKind.i64.wrap N = N := IntWalk.i64_in _ (by omega)
  have u2 : IntKind.i64.wrap D = D := IntWalk.i64_in _ (by omega)
  obtain ⟨z, hz2⟩ : ∃ z : Int, ((a.natAbs : Nat) : Int) = z := ⟨_, rfl⟩
  rw [hz2] at GC SZ
  clear hz2
  go_enter Try.func94, Try.ntmps94
  go_wp2_with fail
  refine (SZ.out _).mono ?_
  rintro e w1 ⟨rfl, rfl⟩
  go_wp2_with fail
  refine (GC.out _).mono ?_
  rintro e w1 ⟨rfl, rfl⟩
  go_wp2
  go_region
  go_wp2
  refine bodyPost_ret (v := .agg #[.int .i64 N, .int .i64 D]) (by simp [results, Try.results94, go_sem]) rfl ⟨rfl, ?_⟩
  exact (balloc0 _ _).drew
theorem make_spec (a b : Int) (ha : 0 ≤ a) (hb : 0 < b) (ha' : a ≤ 1000000000000000000) (hb' : b ≤ 1000000000000000000) (w : World) :
    Calls Try.prog 94 #[.int .i64 a, .int .i64 b] w fun e w' => e = .returned (.agg #[.int .i64 (lowN a b), .int .i64 (lowD a b)]) ∧ Below w.heap.size w w' :=
  make_specZ a b ⟨by omega, ha'⟩ hb hb' w
theorem lowest_implZ (a b : Int) (ha : -1000000000000000000 ≤ a ∧ a ≤ 1000000000000000000) (hb : 0 < b) (hb' : b ≤ 1000000000000000000) (w : World) :
    Calls Try.prog 80 #[.int .i64 a, .int .i64 b] w fun e w' => e = .returned (.agg #[.int .i64 (lowN a b), .int .i64 (lowD a b)]) ∧ Below w.heap.size w w' := by
  obtain ⟨g, hg, hg1, hg2⟩ := gcd_pos a b hb
  have hz : ¬ g = 0 := by omega
  have GC := Lib.hid (gcd_implZ (a.natAbs : Int) b (by omega) (by omega) (by omega) (by omega))
  have hgz : ((Int.gcd (a.natAbs : Int) b : Nat) : Int) = g := by rw [← hg.out]; simp [Int.gcd]
  rw [hgz] at GC
  clear hgz
  have SZ := Lib.hid (dist0_impl a ha)
  obtain ⟨l0, l1, d0, d1⟩ := low_bound a b hb 1000000000000000000 ha.1 ha.2
  have t1 : a.tdiv g = lowN a b := by rw [← hg.out]; exact Int.tdiv_eq_ediv_of_dvd (Int.gcd_dvd_left ..)
  have t2 : b.tdiv g = lowD a b := by rw [← hg.out]; exact Int.tdiv_eq_ediv_of_dvd (Int.gcd_dvd_right ..)
  obtain ⟨N, hN⟩ : ∃ N, lowN a b = N := ⟨_, rfl⟩
  obtain ⟨D, hD⟩ : ∃ D, lowD a b = D := ⟨_, rfl⟩
  rw [hN] at l0 l1 t1 ⊢
  rw [hD] at d0 d1 t2 ⊢
  clear hN hD hg ha
  have u1 : IntKind.i64.wrap N = N := IntWalk.i64_in _ (by omega)
  have u2 : IntKind.i64.wrap D = D := IntWalk.i64_in _ (by omega)
  obtain ⟨z, hz2⟩ : ∃ z : Int, ((a.natAbs : Nat) : Int) = z := ⟨_, rfl⟩
  rw [hz2] at GC SZ
  clear hz2
  go_enter Try.func80, Try.ntmps80
  go_wp2_with fail
  refine (SZ.out _).mono ?_
  rintro e w1 ⟨rfl, rfl⟩
  go_wp2_with fail
  refine (GC.out _).mono ?_
  rintro e w1 ⟨rfl, hb1⟩
  obtain ⟨hc1, hf1⟩ := bcell hb1
  have hz1 : w.heap.size < w1.heap.size := by have := hb1.size; simp at this; omega
  go_wp2
  go_region
  go_wp2
  refine bodyPost_ret (v := .agg #[.int .i64 N, .int .i64 D]) (by simp [results, Try.results80, go_sem, hc1]) rfl ⟨rfl, ?_⟩
  exact (((bnext (balloc0 _ _) hb1).setCell (Nat.le_refl _) _).setCell (Nat.le_refl _) _).drew
theorem lowest_impl (a b : Int) (ha : 0 ≤ a) (hb : 0 < b) (ha' : a ≤ 1000000000000000000) (hb' : b ≤ 1000000000000000000) (w : World) :
    Calls Try.prog 80 #[.int .i64 a, .int .i64 b] w fun e w' => e = .returned (.agg #[.int .i64 (lowN a b), .int .i64 (lowD a b)]) ∧ Below w.heap.size w w' :=
  lowest_implZ a b ⟨by omega, ha'⟩ hb hb' w

theorem eq_fraction (a b c d : Int) (w : World) : Calls Try.prog 16 #[.agg #[.int .i64 a, .int .i64 b], .agg #[.int .i64 c, .int .i64 d]] w fun e w' => e = .returned (.bool (decide (a = c ∧ b = d))) ∧ Below w.heap.size w w' := by
  by_cases h1 : a = c <;> by_cases h2 : b = d
  all_goals
    go_enter Try.func16, Try.ntmps16
    go_wp2
    go_ret
    exact ⟨ret_bool (by simp [h1, h2]), balloc (balloc0 _ _) _⟩

end Go.Proofs.Ytlglijalhacmhab
