/-
  Quantities that are numbers alone: with waste, packs, bags: the model's word and the program's.
-/
import Derived.Test.YtmbmbkagmkmhlabIn
import Derived.Test.YtmbmbkagmkmhlabFmB
namespace Go.Proofs.Ytmbmbkagmkmhlab
open Go.ChangeShapes Go.WideShapes Go.ChangeAt Go.RowKit Go.Joins

theorem qtup2 {a b a' b' : Int} (h1 : a = a') (h2 : b = b') : Ending.returned (.tuple #[.int .i64 a, .int .i64 b]) = .returned (.tuple #[.int .i64 a', .int .i64 b']) := by rw [h1, h2]
theorem qtup3 {a b c a' b' c' : Int} (h1 : a = a') (h2 : b = b') (h3 : c = c') : Ending.returned (.tuple #[.int .i64 a, .int .i64 b, .int .i64 c]) = .returned (.tuple #[.int .i64 a', .int .i64 b', .int .i64 c']) := by rw [h1, h2, h3]
theorem many_spec (n : Int) (w : World) : Calls Try.prog 54 #[.int .i64 n] w fun e w' => e = .returned (.bool (inB n 0 1000000)) ∧ w = w' := by
  go_enter Try.func54, Try.ntmps54
  go_wp2_with (go_at_call 55; refine (in_any _ _ _ _).mono ?_; rintro e w' ⟨rfl, rfl⟩)
  go_ret
  exact ⟨rfl, rfl⟩
theorem order_impl (n : Int) (w : World) : Calls Try.prog 56 #[.int .i64 n] w fun e w' => e = .returned (.bool (inB n 0 1000000)) ∧ w = w' := by
  go_enter Try.func56, Try.ntmps56
  go_wp2_with (go_at_call 57; refine (within_impl _ _ _ _).mono ?_; rintro e w' ⟨rfl, rfl⟩)
  go_ret
  exact ⟨rfl, rfl⟩
/-- Rounded up. -/
def upQ (a b : Int) : Int := (a + b - 1) / b
theorem upQ_range {a b : Int} (ha : 0 ≤ a) (hb : 1 ≤ b) : 0 ≤ upQ a b ∧ upQ a b ≤ a + b - 1 :=
  ⟨Int.ediv_nonneg (by omega) (by omega), Int.ediv_le_self _ (by omega)⟩
theorem up_impl (a b : Int) (ha : 0 ≤ a) (ha1 : a ≤ 1000000000000000) (hb : 1 ≤ b) (hb1 : b ≤ 1000000000000000) (w : World) :
    Calls Try.prog 58 #[.int .i64 a, .int .i64 b] w fun e w' => e = .returned (.int .i64 (upQ a b)) ∧ w = w' := by
  obtain ⟨q0, q1⟩ := upQ_range ha hb
  have hz : ¬ b = 0 := by omega
  have e1 : IntKind.i64.wrap (a + b) = a + b := IntWalk.i64_in _ (by omega)
  have e2 : IntKind.i64.wrap (a + b - 1) = a + b - 1 := IntWalk.i64_in _ (by omega)
  have e3 : (a + b - 1).tdiv b = upQ a b := Int.tdiv_eq_ediv_of_nonneg (by omega)
  have e4 : IntKind.i64.wrap (upQ a b) = upQ a b := IntWalk.i64_in _ (by omega)
  have e5 : (a + b - 1) / b = upQ a b := rfl
  go_enter Try.func58, Try.ntmps58
  go_wp2
  go_ret
  exact ⟨rfl, rfl⟩

def wasteC (n p : Int) : Int := if inB n 0 1000000 = true ∧ inB p 0 1000 = true then 0 else 2
def wasteV (n p : Int) : Int := if inB n 0 1000000 = true ∧ inB p 0 1000 = true then (n * (1000 + p) + 999) / 1000 else 0
theorem waste_spec (n p : Int) (w : World) : Calls Try.prog 26 #[.int .i64 n, .int .i64 p] w fun e w' => e = .returned (.tuple #[.int .i64 (wasteV n p), .int .i64 (wasteC n p)]) ∧ Below w.heap.size w w' := by
  cases h1 : inB n 0 1000000
  · go_enter Try.func26, Try.ntmps26
    go_wp2_with (first | (go_at_call 54; refine (many_spec _ _).mono ?_; rintro e w' ⟨rfl, rfl⟩) | (go_at_call 55; refine (in_any _ _ _ _).mono ?_; rintro e w' ⟨rfl, rfl⟩))
    go_ret2
    exact ⟨qtup2 (by simp [wasteV, h1]) (by simp [wasteC, h1]), Below.refl _ _⟩
  cases h2 : inB p 0 1000
  · go_enter Try.func26, Try.ntmps26
    go_wp2_with (first | (go_at_call 54; refine (many_spec _ _).mono ?_; rintro e w' ⟨rfl, rfl⟩) | (go_at_call 55; refine (in_any _ _ _ _).mono ?_; rintro e w' ⟨rfl, rfl⟩))
    go_ret2
    exact ⟨qtup2 (by simp [wasteV, h2]) (by simp [wasteC, h2]), Below.refl _ _⟩
  obtain ⟨n0, n1⟩ := inB_true.1 h1
  obtain ⟨p0, p1⟩ := inB_true.1 h2
  have m0 : 0 ≤ n * (1000 + p) := Int.mul_nonneg (by omega) (by omega)
  have m1 : n * (1000 + p) ≤ 2000000000 := Int.le_trans (Int.mul_le_mul n1 (show 1000 + p ≤ 2000 by omega) (by omega) (by omega)) (by omega)
  go_enter Try.func26, Try.ntmps26
  go_wp2_with (first | (go_at_call 54; refine (many_spec _ _).mono ?_; rintro e w' ⟨rfl, rfl⟩) | (go_at_call 55; refine (in_any _ _ _ _).mono ?_; rintro e w' ⟨rfl, rfl⟩))
  go_ret2
  exact ⟨qtup2 (by simp [wasteV, h1, h2]) (by simp [wasteC, h1, h2]), Below.refl _ _⟩
theorem waste_impl (n p : Int) (w : World) : Calls Try.prog 27 #[.int .i64 n, .int .i64 p] w fun e w' => e = .returned (.tuple #[.int .i64 (wasteV n p), .int .i64 (wasteC n p)]) ∧ Below w.heap.size w w' := by
  cases h1 : inB n 0 1000000
  · go_enter Try.func27, Try.ntmps27
    go_wp2_with (first | (go_at_call 56; refine (order_impl _ _).mono ?_; rintro e w' ⟨rfl, rfl⟩) | (go_at_call 57; refine (within_impl _ _ _ _).mono ?_; rintro e w' ⟨rfl, rfl⟩))
    go_ret2
    exact ⟨qtup2 (by simp [wasteV, h1]) (by simp [wasteC, h1]), Below.refl _ _⟩
  cases h2 : inB p 0 1000
  · go_enter Try.func27, Try.ntmps27
    go_wp2_with (first | (go_at_call 56; refine (order_impl _ _).mono ?_; rintro e w' ⟨rfl, rfl⟩) | (go_at_call 57; refine (within_impl _ _ _ _).mono ?_; rintro e w' ⟨rfl, rfl⟩))
    go_ret2
    exact ⟨qtup2 (by simp [wasteV, h2]) (by simp [wasteC, h2]), Below.refl _ _⟩
  obtain ⟨n0, n1⟩ := inB_true.1 h1
  obtain ⟨p0, p1⟩ := inB_true.1 h2
  have m0 : 0 ≤ n * (1000 + p) := Int.mul_nonneg (by omega) (by omega)
  have m1 : n * (1000 + p) ≤ 2000000000 := Int.le_trans (Int.mul_le_mul n1 (show 1000 + p ≤ 2000 by omega) (by omega) (by omega)) (by omega)
  have e0 : IntKind.i64.wrap (n * (1000 + p)) = n * (1000 + p) := IntWalk.i64_in _ (by omega)
  have UP := Lib.hid (up_impl (n * (1000 + p)) 1000 m0 (by omega) (by omega) (by omega))
  go_enter Try.func27, Try.ntmps27
  go_wp2_with (first | (go_at_call 56; refine (order_impl _ _).mono ?_; rintro e w' ⟨rfl, rfl⟩) | (go_at_call 57; refine (within_impl _ _ _ _).mono ?_; rintro e w' ⟨rfl, rfl⟩) | (go_at_call 58; refine (UP.out _).mono ?_; rintro e w' ⟨rfl, rfl⟩))
  go_ret2
  exact ⟨qtup2 (by simp [wasteV, h1, h2, upQ]; omega) (by simp [wasteC, h1, h2]), Below.refl _ _⟩

def packC (n p : Int) : Int := if inB n 0 1000000 = true ∧ inB p 1 1000 = true then 0 else 2
def packV (n p : Int) : Int := if inB n 0 1000000 = true ∧ inB p 1 1000 = true then upQ n p else 0
def packL (n p : Int) : Int := if inB n 0 1000000 = true ∧ inB p 1 1000 = true then upQ n p * p - n else 0
theorem pack_spec (n p : Int) (w : World) : Calls Try.prog 28 #[.int .i64 n, .int .i64 p] w fun e w' => e = .returned (.tuple #[.int .i64 (packV n p), .int .i64 (packL n p), .int .i64 (packC n p)]) ∧ Below w.heap.size w w' := by
  cases h1 : inB n 0 1000000
  · go_enter Try.func28, Try.ntmps28
    go_wp2_with (first | (go_at_call 54; refine (many_spec _ _).mono ?_; rintro e w' ⟨rfl, rfl⟩) | (go_at_call 55; refine (in_any _ _ _ _).mono ?_; rintro e w' ⟨rfl, rfl⟩))
    go_ret3
    exact ⟨qtup3 (by simp [packV, h1]) (by simp [packL, h1]) (by simp [packC, h1]), Below.refl _ _⟩
  cases h2 : inB p 1 1000
  · go_enter Try.func28, Try.ntmps28
    go_wp2_with (first | (go_at_call 54; refine (many_spec _ _).mono ?_; rintro e w' ⟨rfl, rfl⟩) | (go_at_call 55; refine (in_any _ _ _ _).mono ?_; rintro e w' ⟨rfl, rfl⟩))
    go_ret3
    exact ⟨qtup3 (by simp [packV, h2]) (by simp [packL, h2]) (by simp [packC, h2]), Below.refl _ _⟩
  obtain ⟨n0, n1⟩ := inB_true.1 h1
  obtain ⟨p0, p1⟩ := inB_true.1 h2
  obtain ⟨q0, q1⟩ := upQ_range n0 p0
  have m0 : 0 ≤ upQ n p * p := Int.mul_nonneg (by omega) (by omega)
  have m1 : upQ n p * p ≤ 2000000000 := Int.le_trans (Int.mul_le_mul (show upQ n p ≤ 1000999 by omega) p1 (by omega) (by omega)) (by omega)
  have hz : ¬ p = 0 := by omega
  have e3 : (n + p - 1).tdiv p = upQ n p := Int.tdiv_eq_ediv_of_nonneg (by omega)
  have e5 : (n + p - 1) / p = upQ n p := rfl
  go_enter Try.func28, Try.ntmps28
  go_wp2_with (first | (go_at_call 54; refine (many_spec _ _).mono ?_; rintro e w' ⟨rfl, rfl⟩) | (go_at_call 55; refine (in_any _ _ _ _).mono ?_; rintro e w' ⟨rfl, rfl⟩))
  go_ret3
  exact ⟨qtup3 (by simp [packV, h1, h2]) (by simp [packL, h1, h2]) (by simp [packC, h1, h2]), Below.refl _ _⟩
theorem pack_impl (n p : Int) (w : World) : Calls Try.prog 29 #[.int .i64 n, .int .i64 p] w fun e w' => e = .returned (.tuple #[.int .i64 (packV n p), .int .i64 (packL n p), .int .i64 (packC n p)]) ∧ Below w.heap.size w w' := by
  cases h1 : inB n 0 1000000
  · go_enter Try.func29, Try.ntmps29
    go_wp2_with (first | (go_at_call 56; refine (order_impl _ _).mono ?_; rintro e w' ⟨rfl, rfl⟩) | (go_at_call 57; refine (within_impl _ _ _ _).mono ?_; rintro e w' ⟨rfl, rfl⟩))
    go_ret3
    exact ⟨qtup3 (by simp [packV, h1]) (by simp [packL, h1]) (by simp [packC, h1]), Below.refl _ _⟩
  cases h2 : inB p 1 1000
  · go_enter Try.func29, Try.ntmps29
    go_wp2_with (first | (go_at_call 56; refine (order_impl _ _).mono ?_; rintro e w' ⟨rfl, rfl⟩) | (go_at_call 57; refine (within_impl _ _ _ _).mono ?_; rintro e w' ⟨rfl, rfl⟩))
    go_ret3
    exact ⟨qtup3 (by simp [packV, h2]) (by simp [packL, h2]) (by simp [packC, h2]), Below.refl _ _⟩
  obtain ⟨n0, n1⟩ := inB_true.1 h1
  obtain ⟨p0, p1⟩ := inB_true.1 h2
  obtain ⟨q0, q1⟩ := upQ_range n0 p0
  have m0 : 0 ≤ upQ n p * p := Int.mul_nonneg (by omega) (by omega)
  have m1 : upQ n p * p ≤ 2000000000 := Int.le_trans (Int.mul_le_mul (show upQ n p ≤ 1000999 by omega) p1 (by omega) (by omega)) (by omega)
  have UP := Lib.hid (up_impl n p n0 (by omega) p0 (by omega))
  go_enter Try.func29, Try.ntmps29
  go_wp2_with (first | (go_at_call 56; refine (order_impl _ _).mono ?_; rintro e w' ⟨rfl, rfl⟩) | (go_at_call 57; refine (within_impl _ _ _ _).mono ?_; rintro e w' ⟨rfl, rfl⟩) | (go_at_call 58; refine (UP.out _).mono ?_; rintro e w' ⟨rfl, rfl⟩))
  go_ret3
  exact ⟨qtup3 (by simp [packV, h1, h2]) (by simp [packL, h1, h2]) (by simp [packC, h1, h2]), Below.refl _ _⟩

theorem to_fraction (x y : Int) (w : World) : Calls Try.prog 33 #[.agg #[.int .i64 x, .int .i64 y]] w fun e w' => e = .returned (.agg #[.int .i64 x, .int .i64 y]) ∧ Below w.heap.size w w' := by
  go_enter Try.func33, Try.ntmps33
  go_wp2
  refine bodyPost_ret (v := .agg #[.int .i64 x, .int .i64 y]) (by simp [results, Try.results33, go_sem]) rfl ⟨rfl, ?_⟩
  exact balloc (balloc (balloc0 _ _) _) _
/-- All three are within their bounds. -/
def bagB (x y z : Int) : Bool := inB x 0 1000000000000 && (inB y 1 1000000 && inB z 1 1000)
def bagC (x y z : Int) : Int := if bagB x y z = true then 0 else 2
def bagV (x y z : Int) : Int := if bagB x y z = true then upQ x (y * z) else 0
set_option maxHeartbeats 1600000 in
theorem bag_spec (x y z : Int) (w : World) : Calls Try.prog 32 #[.agg #[.int .i64 x, .int .i64 y], .int .i64 z] w fun e w' => e = .returned (.tuple #[.int .i64 (bagV x y z), .int .i64 (bagC x y z)]) ∧ Below w.heap.size w w' := by
  by_cases hv : bagB x y z = true
  · have hv' := hv
    simp only [bagB, Bool.and_eq_true] at hv'
    obtain ⟨h1, h2, h3⟩ := hv'
    obtain ⟨x0, x1⟩ := inB_true.1 h1
    obtain ⟨y0, y1⟩ := inB_true.1 h2
    obtain ⟨z0, z1⟩ := inB_true.1 h3
    have m0 : 1 ≤ y * z := Int.le_trans (by omega) (Int.mul_le_mul y0 z0 (by omega) (by omega))
    have m1 : y * z ≤ 1000000000 := Int.le_trans (Int.mul_le_mul y1 z1 (by omega) (by omega)) (by omega)
    obtain ⟨q0, q1⟩ := upQ_range x0 m0
    have hz : ¬ y * z = 0 := by omega
    have e3 : (x + y * z - 1).tdiv (y * z) = upQ x (y * z) := Int.tdiv_eq_ediv_of_nonneg (by omega)
    have e5 : (x + y * z - 1) / (y * z) = upQ x (y * z) := rfl
    have HV := Lib.hid hv
    clear hv
    go_enter Try.func32, Try.ntmps32
    go_wp2_with (first | (go_at_call 55; refine (in_any _ _ _ _).mono ?_; rintro e w' ⟨rfl, rfl⟩))
    go_ret2
    exact ⟨qtup2 (by simp [bagV, HV.out]) (by simp [bagC, HV.out]), balloc0 _ _⟩
  · have hv' : bagB x y z = false := by simpa using hv
    have HV := Lib.hid hv'
    cases h1 : inB x 0 1000000000000 <;> cases h2 : inB y 1 1000000 <;> cases h3 : inB z 1 1000
    all_goals first
      | (exfalso; simp [bagB, h1, h2, h3] at hv'; done)
      | (clear hv hv'
         go_enter Try.func32, Try.ntmps32
         go_wp2_with (first | (go_at_call 55; refine (in_any _ _ _ _).mono ?_; rintro e w' ⟨rfl, rfl⟩))
         go_ret2
         exact ⟨qtup2 (by simp [bagV, HV.out]) (by simp [bagC, HV.out]), balloc0 _ _⟩)
set_option maxHeartbeats 1600000 in
theorem bag_impl (x y z : Int) (w : World) : Calls Try.prog 34 #[.agg #[.int .i64 x, .int .i64 y], .int .i64 z] w fun e w' => e = .returned (.tuple #[.int .i64 (bagV x y z), .int .i64 (bagC x y z)]) ∧ Below w.heap.size w w' := by
  by_cases hv : bagB x y z = true
  · have hv' := hv
    simp only [bagB, Bool.and_eq_true] at hv'
    obtain ⟨h1, h2, h3⟩ := hv'
    obtain ⟨x0, x1⟩ := inB_true.1 h1
    obtain ⟨y0, y1⟩ := inB_true.1 h2
    obtain ⟨z0, z1⟩ := inB_true.1 h3
    have m0 : 1 ≤ y * z := Int.le_trans (by omega) (Int.mul_le_mul y0 z0 (by omega) (by omega))
    have m1 : y * z ≤ 1000000000 := Int.le_trans (Int.mul_le_mul y1 z1 (by omega) (by omega)) (by omega)
    have UP := Lib.hid (up_impl x (y * z) x0 (by omega) m0 (by omega))
    have HV := Lib.hid hv
    clear hv
    go_enter Try.func34, Try.ntmps34
    go_wp2_with (first | (go_at_call 57; refine (within_impl _ _ _ _).mono ?_; rintro e w' ⟨rfl, rfl⟩) | (go_at_call 58; refine (UP.out _).mono ?_; rintro e w' ⟨rfl, rfl⟩))
    go_ret2
    exact ⟨qtup2 (by simp [bagV, HV.out]) (by simp [bagC, HV.out]), balloc0 _ _⟩
  · have hv' : bagB x y z = false := by simpa using hv
    have HV := Lib.hid hv'
    cases h1 : inB x 0 1000000000000 <;> cases h2 : inB y 1 1000000 <;> cases h3 : inB z 1 1000
    all_goals first
      | (exfalso; simp [bagB, h1, h2, h3] at hv'; done)
      | (clear hv hv'
         go_enter Try.func34, Try.ntmps34
         go_wp2_with (first | (go_at_call 57; refine (within_impl _ _ _ _).mono ?_; rintro e w' ⟨rfl, rfl⟩))
         go_ret2
         exact ⟨qtup2 (by simp [bagV, HV.out]) (by simp [bagC, HV.out]), balloc0 _ _⟩)
end Go.Proofs.Ytmbmbkagmkmhlab
