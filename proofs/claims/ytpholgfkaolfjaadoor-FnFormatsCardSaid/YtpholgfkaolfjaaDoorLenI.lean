/-
  FnLengths: the plain arithmetic, the contracts that it takes, and its walk.
-/
import Derived.Test.YtpholgfkaolfjaaDoorC2fI
import Derived.Test.YtpholgfkaolfjaaDoorDraw2
namespace Go.Proofs.YtpholgfkaolfjaaDoor
open Go.ChangeShapes Go.WideShapes Go.ChangeAt Go.RowKit Go.Joins
theorem low_facts (X : Int) : ∃ g : Int, (g = 1 ∨ g = 2 ∨ g = 4) ∧ lowN X 4 * g = X ∧ lowD X 4 * g = 4 := by
  have hd1 : ((Int.gcd X 4 : Nat) : Int) ∣ X := Int.gcd_dvd_left ..
  have hd2 : ((Int.gcd X 4 : Nat) : Int) ∣ 4 := Int.gcd_dvd_right ..
  have hp : 0 < (Int.gcd X 4 : Nat) := Int.gcd_pos_of_ne_zero_right X (by omega)
  refine ⟨((Int.gcd X 4 : Nat) : Int), ?_, Int.ediv_mul_cancel hd1, Int.ediv_mul_cancel hd2⟩
  have h2 : (Int.gcd X 4 : Nat) ∣ 4 := by exact_mod_cast hd2
  have h3 := Nat.le_of_dvd (by omega) h2
  have h4 : (Int.gcd X 4 : Nat) = 1 ∨ (Int.gcd X 4 : Nat) = 2 ∨ (Int.gcd X 4 : Nat) = 3 ∨ (Int.gcd X 4 : Nat) = 4 := by omega
  rcases h4 with h | h | h | h
  · omega
  · omega
  · rw [h] at h2; omega
  · omega

/-- The least whole number that is not less than X / 4, by way of the fraction in lowest terms. -/
theorem up_facts (X : Int) (hX : 0 < X) : 1 ≤ lowD X 4 ∧ lowD X 4 ≤ 4 ∧ 1 ≤ lowN X 4 ∧ lowN X 4 ≤ X ∧ X ≤ 4 * ((lowN X 4 + lowD X 4 - 1) / lowD X 4) ∧ 4 * ((lowN X 4 + lowD X 4 - 1) / lowD X 4 - 1) < X := by
  obtain ⟨g, hg, h1, h2⟩ := low_facts X
  generalize lowN X 4 = N at h1
  generalize lowD X 4 = D at h2
  rcases hg with rfl | rfl | rfl
  · obtain rfl : D = 4 := by omega
    omega
  · obtain rfl : D = 2 := by omega
    omega
  · obtain rfl : D = 1 := by omega
    omega

theorem quot_ge (x y n : Int) (hy : 0 < y) (h : n * y ≤ x) : n ≤ x / y := (Int.le_ediv_iff_mul_le hy).2 h
theorem quot_lt (x y n : Int) (hy : 0 < y) (h : x < n * y) : x / y < n := (Int.ediv_lt_iff_lt_mul hy).2 h

/-- Too many bytes: what the law asks first. -/
theorem long_any (a : Option Addr) (len cap : Nat) (w : World) : Calls Tryd.prog 4 #[.slice a len cap, .slice none 0 0] w fun e w' => e = .returned (.bool (decide ((3000 : Int) < (len : Int)))) ∧ w = w' := by
  by_cases h : (3000 : Int) < (len : Int)
  all_goals
    go_enter Tryd.func4, Tryd.ntmps4
    go_wp2_with fail
    go_ret
    exact ⟨ret_bool (by simp [h]), rfl⟩
def AtPost (w : World) (n : Int) (e : Ending) (w' : World) : Prop := ∃ r : Int, 0 ≤ r ∧ r ≤ n - 1 ∧ e = .returned (.int .i64 r) ∧ w = w'
end Go.Proofs.YtpholgfkaolfjaaDoor
