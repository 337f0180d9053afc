/-
  Contracts of chapter 2's small functions: the code of a format and a number, fractions in lowest terms, a format with its joint, volumes.
-/
import Derived.Test.YtjheklkgilelkaaC2a
import Derived.Test.YtjheklkgilelkaaC2v
import Derived.Test.YtjheklkgilelkaaGcd
import Derived.Deep.RegionHeld3
namespace Go.Proofs.Ytjheklkgilelkaa
open Go.ChangeShapes Go.WideShapes Go.ChangeAt Go.RowKit Go.Joins

theorem code_spec (l wd ht j n low high : Int) (w : World) : Calls Try.prog 47 #[.agg #[.int .i64 l, .int .i64 wd, .int .i64 ht, .int .i64 j], .int .i64 n, .int .i64 low, .int .i64 high] w fun e w' => e = .returned (.int .i64 (codeOf l wd ht j n low high)) ∧ Below w.heap.size w w' := by
  cases h1 : okB l wd ht j <;> cases h2 : inB n low high
  all_goals
    go_enter Try.func47, Try.ntmps47
    go_wp2_with fail
    refine (l02ok l wd ht j _).mono ?_
    rintro e w1 ⟨rfl, hb1⟩
    go_wp2_with (go_at_call 55; refine (in_any _ _ _ _).mono ?_; rintro e w' ⟨rfl, rfl⟩)
    go_ret
    refine ⟨ret_int ?_, bnext (balloc0 _ _) hb1⟩
    first
      | exact (codeOf_inv h1).symm
      | exact (codeOf_rng h1 (inB_false.1 h2)).symm
      | exact (codeOf_ok h1 (inB_true.1 h2)).symm

theorem code_impl (l wd ht j n low high : Int) (w : World) : Calls Try.prog 49 #[.agg #[.int .i64 l, .int .i64 wd, .int .i64 ht, .int .i64 j], .int .i64 n, .int .i64 low, .int .i64 high] w fun e w' => e = .returned (.int .i64 (codeOf l wd ht j n low high)) ∧ Below w.heap.size w w' := by
  cases h1 : okB l wd ht j <;> by_cases h2 : n < low <;> by_cases h3 : high < n
  all_goals
    go_enter Try.func49, Try.ntmps49
    go_wp2_with fail
    refine (vf_any l wd ht j _).mono ?_
    rintro e w1 ⟨rfl, hb1⟩
    go_wp2
    go_ret
    refine ⟨ret_int ?_, bnext (balloc0 _ _) hb1⟩
    first
      | exact (codeOf_inv h1).symm
      | (refine (codeOf_rng h1 ?_).symm; omega; done)
      | (refine (codeOf_ok h1 ?_).symm; omega)

theorem gcd_specZ (a b : Int) (ha : 0 ≤ a) (hb : 0 ≤ b) (ha' : a ≤ 9223372036854775807) (hb' : b ≤ 9223372036854775807) (w : World) :
    Calls Try.prog 56 #[.int .i64 a, .int .i64 b] w fun e w' => e = .returned (.int .i64 (Int.gcd a b : Nat)) ∧ w = w' := by
  obtain ⟨x, rfl⟩ := Int.eq_ofNat_of_zero_le ha
  obtain ⟨y, rfl⟩ := Int.eq_ofNat_of_zero_le hb
  exact gcd_spec x y (by omega) (by omega) w
theorem gcd_implZ (a b : Int) (ha : 0 ≤ a) (hb : 0 ≤ b) (ha' : a ≤ 9223372036854775807) (hb' : b ≤ 9223372036854775807) (w : World) :
    Calls Try.prog 58 #[.int .i64 a, .int .i64 b] w fun e w' => e = .returned (.int .i64 (Int.gcd a b : Nat)) ∧ Below w.heap.size w w' := by
  obtain ⟨x, rfl⟩ := Int.eq_ofNat_of_zero_le ha
  obtain ⟨y, rfl⟩ := Int.eq_ofNat_of_zero_le hb
  exact gcd_impl x y (by omega) (by omega) w
/-- A number over its greatest common divisor with another. -/
def lowN (a b : Int) : Int := a / (Int.gcd a b : Nat)
def lowD (a b : Int) : Int := b / (Int.gcd a b : Nat)
theorem gcd_pos (a b : Int) (hb : 0 < b) : ∃ g : Int, Hid (((Int.gcd a b : Nat) : Int) = g) ∧ 1 ≤ g ∧ g ≤ b := by
  refine ⟨_, rfl, ?_, ?_⟩
  · have := Int.gcd_pos_of_ne_zero_right a (b := b) (by omega)
    omega
  · exact Int.le_of_dvd hb (Int.gcd_dvd_right ..)
theorem size_spec (a : Int) (ha : 0 ≤ a) (w : World) : Calls Try.prog 57 #[.int .i64 a] w fun e w' => e = .returned (.int .i64 a) ∧ w = w' := by
  go_enter Try.func57, Try.ntmps57
  go_wp2
  go_ret
  exact ⟨rfl, rfl⟩
theorem frac2 {a b a' b' : Int} (h1 : a = a') (h2 : b = b') : Ending.returned (.agg #[.int .i64 a, .int .i64 b]) = .returned (.agg #[.int .i64 a', .int .i64 b']) := by rw [h1, h2]

theorem make_spec (a b : Int) (ha : 0 ≤ a) (hb : 0 < b) (ha' : a ≤ 9223372036854775807) (hb' : b ≤ 9223372036854775807) (w : World) :
    Calls Try.prog 48 #[.int .i64 a, .int .i64 b] w fun e w' => e = .returned (.agg #[.int .i64 (lowN a b), .int .i64 (lowD a b)]) ∧ Below w.heap.size w w' := by
  obtain ⟨g, hg, hg1, hg2⟩ := gcd_pos a b hb
  have hz : ¬ g = 0 := by omega
  go_enter Try.func48, Try.ntmps48
  go_wp2_with fail
  refine (size_spec a ha _).mono ?_
  rintro e w1 ⟨rfl, rfl⟩
  go_wp2_with fail
  refine (gcd_specZ a b ha (by omega) ha' hb' _).mono ?_
  rintro e w1 ⟨rfl, rfl⟩
  rw [hg.out]
  go_wp2
  go_region
  go_wp2
  refine bodyPost_ret (v := .agg #[.int .i64 (a / g), .int .i64 (b / g)]) (by simp [results, Try.results48, go_sem]) rfl ⟨?_, ?_⟩
  · exact frac2 (by rw [lowN, hg.out]) (by rw [lowD, hg.out])
  · exact (balloc0 _ _).drew

theorem lowest_impl (a b : Int) (ha : 0 ≤ a) (hb : 0 < b) (ha' : a ≤ 9223372036854775807) (hb' : b ≤ 9223372036854775807) (w : World) :
    Calls Try.prog 50 #[.int .i64 a, .int .i64 b] w fun e w' => e = .returned (.agg #[.int .i64 (lowN a b), .int .i64 (lowD a b)]) ∧ Below w.heap.size w w' := by
  obtain ⟨g, hg, hg1, hg2⟩ := gcd_pos a b hb
  have hz : ¬ g = 0 := by omega
  go_enter Try.func50, Try.ntmps50
  go_wp2_with fail
  refine (gcd_implZ a b ha (by omega) ha' hb' _).mono ?_
  rintro e w1 ⟨rfl, hb1⟩
  obtain ⟨hc1, hf1⟩ := bcell hb1
  have hz1 : w.heap.size < w1.heap.size := by have := hb1.size; simp at this; omega
  rw [hg.out]
  go_wp2
  go_region
  go_wp2
  refine bodyPost_ret (v := .agg #[.int .i64 (a / g), .int .i64 (b / g)]) (by simp [results, Try.results50, go_sem, hc1]) rfl ⟨?_, ?_⟩
  · exact frac2 (by rw [lowN, hg.out]) (by rw [lowD, hg.out])
  · exact (((bnext (balloc0 _ _) hb1).setCell (Nat.le_refl _) _).setCell (Nat.le_refl _) _).drew

theorem with_joint (l wd ht j : Int) (hl : 0 ≤ l ∧ l ≤ 500) (hw : 0 ≤ wd ∧ wd ≤ 250) (hh : 0 ≤ ht ∧ ht ≤ 150) (hj : 0 ≤ j ∧ j ≤ 20) (w : World) : Calls Try.prog 51 #[.agg #[.int .i64 l, .int .i64 wd, .int .i64 ht, .int .i64 j]] w fun e w' => e = .returned (.agg #[.int .i64 (l + j), .int .i64 (wd + j), .int .i64 (ht + j), .int .i64 0]) ∧ Below w.heap.size w w' := by
  go_enter Try.func51, Try.ntmps51
  go_wp2
  refine bodyPost_ret (v := .agg #[.int .i64 (l + j), .int .i64 (wd + j), .int .i64 (ht + j), .int .i64 0]) (by simp [results, Try.results51, go_sem]) rfl ⟨rfl, ?_⟩
  exact balloc (balloc0 _ _) _

theorem volume_impl (l wd ht j : Int) (hl : 0 ≤ l ∧ l ≤ 520) (hw : 0 ≤ wd ∧ wd ≤ 270) (hh : 0 ≤ ht ∧ ht ≤ 170) (w : World) : Calls Try.prog 52 #[.agg #[.int .i64 l, .int .i64 wd, .int .i64 ht, .int .i64 j]] w fun e w' => e = .returned (.int .i64 (l * wd * ht)) ∧ Below w.heap.size w w' := by
  have m0 : 0 ≤ l * wd := Int.mul_nonneg hl.1 hw.1
  have m1 : l * wd ≤ 140400 := Int.le_trans (Int.mul_le_mul hl.2 hw.2 hw.1 (by omega)) (by omega)
  have m2 : 0 ≤ l * wd * ht := Int.mul_nonneg m0 hh.1
  have m3 : l * wd * ht ≤ 23868000 := Int.le_trans (Int.mul_le_mul m1 hh.2 hh.1 (by omega)) (by omega)
  go_enter Try.func52, Try.ntmps52
  go_wp2
  go_ret
  exact ⟨rfl, balloc0 _ _⟩

theorem eq_fraction (a b c d : Int) (w : World) : Calls Try.prog 27 #[.agg #[.int .i64 a, .int .i64 b], .agg #[.int .i64 c, .int .i64 d]] w fun e w' => e = .returned (.bool (decide (a = c ∧ b = d))) ∧ Below w.heap.size w w' := by
  by_cases h1 : a = c <;> by_cases h2 : b = d
  all_goals
    go_enter Try.func27, Try.ntmps27
    go_wp2
    go_ret
    exact ⟨ret_bool (by simp [h1, h2]), balloc (balloc0 _ _) _⟩

end Go.Proofs.Ytjheklkgilelkaa
