/-
  Fractions in lowest terms: the program's and the model's; equality of fractions.
-/
import Derived.Test.YtmbmbkagmkmhlaaGcd
import Derived.Deep.RegionHeld3
namespace Go.Proofs.Ytmbmbkagmkmhlaa
open Go.ChangeShapes Go.WideShapes Go.ChangeAt Go.RowKit Go.Joins

theorem gcd_specZ (a b : Int) (ha : 0 ≤ a) (hb : 0 ≤ b) (ha' : a ≤ 9223372036854775807) (hb' : b ≤ 9223372036854775807) (w : World) :
    Calls Try.prog 77 #[.int .i64 a, .int .i64 b] w fun e w' => e = .returned (.int .i64 (Int.gcd a b : Nat)) ∧ w = w' := by
  obtain ⟨x, rfl⟩ := Int.eq_ofNat_of_zero_le ha
  obtain ⟨y, rfl⟩ := Int.eq_ofNat_of_zero_le hb
  exact gcd_spec x y (by omega) (by omega) w
theorem gcd_implZ (a b : Int) (ha : 0 ≤ a) (hb : 0 ≤ b) (ha' : a ≤ 9223372036854775807) (hb' : b ≤ 9223372036854775807) (w : World) :
    Calls Try.prog 78 #[.int .i64 a, .int .i64 b] w fun e w' => e = .returned (.int .i64 (Int.gcd a b : Nat)) ∧ Below w.heap.size w w' := by
  obtain ⟨x, rfl⟩ := Int.eq_ofNat_of_zero_le ha
  obtain ⟨y, rfl⟩ := Int.eq_ofNat_of_zero_le hb
  exact gcd_impl x y (by omega) (by omega) w
/-- A number over its greatest common divisor with another. -/
def lowN (a b : Int) : Int := a / (Int.gcd a b : Nat)
def lowD (a b : Int) : Int := b / (Int.gcd a b : Nat)
theorem gcd_pos (a b : Int) (hb : 0 < b) : ∃ g : Int, Hid (((Int.gcd a b : Nat) : Int) = g) ∧ 1 ≤ g ∧ g ≤ b := by
  refine ⟨_, rfl, ?_, ?_⟩
  · have := Int.gcd_pos_of_ne_zero_right a (b := b) (by omega)
    omega
  · exact Int.le_of_dvd hb (Int.gcd_dvd_right ..)
theorem size_spec (a : Int) (ha : 0 ≤ a) (w : World) : Calls Try.prog 51 #[.int .i64 a] w fun e w' => e = .returned (.int .i64 a) ∧ w = w' := by
  go_enter Try.func51, Try.ntmps51
  go_wp2
  go_ret
  exact ⟨rfl, rfl⟩
theorem frac2 {a b a' b' : Int} (h1 : a = a') (h2 : b = b') : Ending.returned (.agg #[.int .i64 a, .int .i64 b]) = .returned (.agg #[.int .i64 a', .int .i64 b']) := by rw [h1, h2]

theorem make_spec (a b : Int) (ha : 0 ≤ a) (hb : 0 < b) (ha' : a ≤ 9223372036854775807) (hb' : b ≤ 9223372036854775807) (w : World) :
    Calls Try.prog 43 #[.int .i64 a, .int .i64 b] w fun e w' => e = .returned (.agg #[.int .i64 (lowN a b), .int .i64 (lowD a b)]) ∧ Below w.heap.size w w' := by
  obtain ⟨g, hg, hg1, hg2⟩ := gcd_pos a b hb
  have hz : ¬ g = 0 := by omega
  go_enter Try.func43, Try.ntmps43
  go_wp2_with fail
  refine (size_spec a ha _).mono ?_
  rintro e w1 ⟨rfl, rfl⟩
  go_wp2_with fail
  refine (gcd_specZ a b ha (by omega) ha' hb' _).mono ?_
  rintro e w1 ⟨rfl, rfl⟩
  rw [hg.out]
  go_wp2
  go_region
  go_wp2
  refine bodyPost_ret (v := .agg #[.int .i64 (a / g), .int .i64 (b / g)]) (by simp [results, Try.results43, go_sem]) rfl ⟨?_, ?_⟩
  · exact frac2 (by rw [lowN, hg.out]) (by rw [lowD, hg.out])
  · exact (balloc0 _ _).drew

theorem lowest_impl (a b : Int) (ha : 0 ≤ a) (hb : 0 < b) (ha' : a ≤ 9223372036854775807) (hb' : b ≤ 9223372036854775807) (w : World) :
    Calls Try.prog 45 #[.int .i64 a, .int .i64 b] w fun e w' => e = .returned (.agg #[.int .i64 (lowN a b), .int .i64 (lowD a b)]) ∧ Below w.heap.size w w' := by
  obtain ⟨g, hg, hg1, hg2⟩ := gcd_pos a b hb
  have hz : ¬ g = 0 := by omega
  go_enter Try.func45, Try.ntmps45
  go_wp2_with fail
  refine (gcd_implZ a b ha (by omega) ha' hb' _).mono ?_
  rintro e w1 ⟨rfl, hb1⟩
  obtain ⟨hc1, hf1⟩ := bcell hb1
  have hz1 : w.heap.size < w1.heap.size := by have := hb1.size; simp at this; omega
  rw [hg.out]
  go_wp2
  go_region
  go_wp2
  refine bodyPost_ret (v := .agg #[.int .i64 (a / g), .int .i64 (b / g)]) (by simp [results, Try.results45, go_sem, hc1]) rfl ⟨?_, ?_⟩
  · exact frac2 (by rw [lowN, hg.out]) (by rw [lowD, hg.out])
  · exact (((bnext (balloc0 _ _) hb1).setCell (Nat.le_refl _) _).setCell (Nat.le_refl _) _).drew

theorem eq_fraction (a b c d : Int) (w : World) : Calls Try.prog 19 #[.agg #[.int .i64 a, .int .i64 b], .agg #[.int .i64 c, .int .i64 d]] w fun e w' => e = .returned (.bool (decide (a = c ∧ b = d))) ∧ Below w.heap.size w w' := by
  by_cases h1 : a = c <;> by_cases h2 : b = d
  all_goals
    go_enter Try.func19, Try.ntmps19
    go_wp2
    go_ret
    exact ⟨ret_bool (by simp [h1, h2]), balloc (balloc0 _ _) _⟩

end Go.Proofs.Ytmbmbkagmkmhlaa
