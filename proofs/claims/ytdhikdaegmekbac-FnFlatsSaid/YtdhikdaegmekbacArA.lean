/-
  Arcs and leaning joints: RadiusOf, ArcPoint, LeanOf, contracts of the program and of the model.
-/
import Derived.Test.YtdhikdaegmekbacArU
namespace Go.Proofs.Ytdhikdaegmekbac
open Go.ChangeShapes Go.WideShapes Go.ChangeAt Go.RowKit Go.Joins


def raB (s r : Int) : Bool := inB s 1 10000 && (inB r 1 5000 && decide (2 * r ≤ s))
def raC (s r : Int) : Int := if raB s r = true then 0 else 2
def raN (s r : Int) : Int := if raB s r = true then lowN (s * s + 4 * r * r) (8 * r) else 0
def raD (s r : Int) : Int := if raB s r = true then lowD (s * s + 4 * r * r) (8 * r) else 0
def apB (R p q : Int) : Bool := inB R 1 5000 && (inB p 0 1000 && inB q 1 1000)
def apC (R p q : Int) : Int := if apB R p q = true then 0 else 2
def axN (R p q : Int) : Int := if apB R p q = true then lowN (R * (q * q - p * p)) (q * q + p * p) else 0
def axD (R p q : Int) : Int := if apB R p q = true then lowD (R * (q * q - p * p)) (q * q + p * p) else 0
def ayN (R p q : Int) : Int := if apB R p q = true then lowN (R * 2 * p * q) (q * q + p * p) else 0
def ayD (R p q : Int) : Int := if apB R p q = true then lowD (R * 2 * p * q) (q * q + p * p) else 0
def leB (s n k : Int) : Bool := inB s 0 500 && (inB n 1 400 && inB k 0 n)
def leC (s n k : Int) : Int := if leB s n k = true then (if n % 2 = 0 then 6 else 0) else 2
def leN (s n k : Int) : Int := if leC s n k = 0 then lowN ((2 * k - n) * s) n else 0
def leD (s n k : Int) : Int := if leC s n k = 0 then lowD ((2 * k - n) * s) n else 0
theorem ap_range {R p q : Int} (h : apB R p q = true) : (1 ≤ R ∧ R ≤ 5000) ∧ (0 ≤ p ∧ p ≤ 1000) ∧ (1 ≤ q ∧ q ≤ 1000) ∧ (1 ≤ q * q ∧ q * q ≤ 1000000) ∧ (0 ≤ p * p ∧ p * p ≤ 1000000) ∧ (-5000000000 ≤ R * (q * q - p * p) ∧ R * (q * q - p * p) ≤ 5000000000) ∧ (0 ≤ R * 2 * p ∧ R * 2 * p ≤ 10000000) ∧ (0 ≤ R * 2 * p * q ∧ R * 2 * p * q ≤ 10000000000) := by
  simp only [apB, Bool.and_eq_true, inB_true] at h
  obtain ⟨⟨r0, r1⟩, ⟨p0, p1⟩, q0, q1⟩ := h
  have a0 : 1 ≤ q * q := Int.mul_pos (by omega) (by omega)
  have a1 : q * q ≤ 1000000 := Int.le_trans (Int.mul_le_mul q1 q1 (by omega) (by omega)) (by omega)
  have b0 : 0 ≤ p * p := Int.mul_nonneg p0 p0
  have b1 : p * p ≤ 1000000 := Int.le_trans (Int.mul_le_mul p1 p1 p0 (by omega)) (by omega)
  have c0 : R * (q * q - p * p) ≤ 5000000000 := by
    have := Int.mul_le_mul_of_nonneg_left (show q * q - p * p ≤ 1000000 by omega) (show 0 ≤ R by omega)
    omega
  have c1 : -5000000000 ≤ R * (q * q - p * p) := by
    have := Int.mul_le_mul_of_nonneg_left (show -1000000 ≤ q * q - p * p by omega) (show 0 ≤ R by omega)
    omega
  have d0 : 0 ≤ R * 2 * p := Int.mul_nonneg (by omega) p0
  have d1 : R * 2 * p ≤ 10000000 := Int.le_trans (Int.mul_le_mul (show R * 2 ≤ 10000 by omega) p1 p0 (by omega)) (by omega)
  have e0 : 0 ≤ R * 2 * p * q := Int.mul_nonneg d0 (by omega)
  have e1 : R * 2 * p * q ≤ 10000000000 := Int.le_trans (Int.mul_le_mul d1 q1 (by omega) (by omega)) (by omega)
  exact ⟨⟨r0, r1⟩, ⟨p0, p1⟩, ⟨q0, q1⟩, ⟨a0, a1⟩, ⟨b0, b1⟩, ⟨c1, c0⟩, ⟨d0, d1⟩, e0, e1⟩
theorem ra_range {s r : Int} (h : raB s r = true) : (1 ≤ s ∧ s ≤ 10000) ∧ (1 ≤ r ∧ r ≤ 5000) ∧ (1 ≤ s * s ∧ s * s ≤ 100000000) ∧ (0 ≤ 4 * r * r ∧ 4 * r * r ≤ 100000000) ∧ 2 * r ≤ s := by
  simp only [raB, Bool.and_eq_true, inB_true, decide_eq_true_eq] at h
  obtain ⟨⟨s0, s1⟩, ⟨r0, r1⟩, h2⟩ := h
  exact ⟨⟨s0, s1⟩, ⟨r0, r1⟩, ⟨Int.mul_pos (by omega) (by omega), Int.le_trans (Int.mul_le_mul s1 s1 (by omega) (by omega)) (by omega)⟩, ⟨Int.mul_nonneg (by omega) (by omega), Int.le_trans (Int.mul_le_mul (show 4 * r ≤ 20000 by omega) r1 (by omega) (by omega)) (by omega)⟩, h2⟩
theorem le_range {s n k : Int} (h : leB s n k = true) : (0 ≤ s ∧ s ≤ 500) ∧ (1 ≤ n ∧ n ≤ 400) ∧ (0 ≤ k ∧ k ≤ n) ∧ (-200000 ≤ (2 * k - n) * s ∧ (2 * k - n) * s ≤ 200000) := by
  simp only [leB, Bool.and_eq_true, inB_true] at h
  obtain ⟨⟨s0, s1⟩, ⟨n0, n1⟩, k0, k1⟩ := h
  have a := Int.mul_le_mul_of_nonneg_right (show 2 * k - n ≤ 400 by omega) s0
  have b := Int.mul_le_mul_of_nonneg_right (show -400 ≤ 2 * k - n by omega) s0
  exact ⟨⟨s0, s1⟩, ⟨n0, n1⟩, ⟨k0, k1⟩, by omega, by omega⟩
theorem even_implZ (n : Int) (n0 : 0 ≤ n) (w : World) : Calls Try.prog 16 #[.int .i64 n] w fun e w' => e = .returned (.bool (decide (n % 2 = 0))) ∧ w = w' := by
  have e0 : n.tmod 2 = n % 2 := Int.tmod_eq_emod_of_nonneg n0
  have e1 : IntKind.i64.wrap (n % 2) = n % 2 := IntWalk.i64_in _ (by omega)
  by_cases h : n % 2 = 0
  all_goals
    go_enter Try.func16, Try.ntmps16
    go_wp2
    go_ret
    exact ⟨ret_bool (by simp [h]), rfl⟩
set_option maxRecDepth 100000 in
set_option maxHeartbeats 6400000 in
theorem lean_impl (s n k : Int) (w : World) : Calls Try.prog 8 #[.int .i64 s, .int .i64 n, .int .i64 k] w fun e w' => e = .returned (.tuple #[.agg #[.int .i64 (leN s n k), .int .i64 (leD s n k)], .int .i64 (leC s n k)]) ∧ Below w.heap.size w w' := by
  cases h : leB s n k
  · have F : Hid ((0 : Int) = leN s n k ∧ (0 : Int) = leD s n k ∧ (2 : Int) = leC s n k) := ⟨by simp [leN, leC, h], by simp [leD, leC, h], by simp [leC, h]⟩
    have T0_0 := Lib.hid (there_new w #[.int .i64 0, .int .i64 0] 28 2 rfl)
    have E0 := Lib.hid (balloc0 w (.cells #[.int .i64 0, .int .i64 0] 28))
    have EV : Hid True := trivial
    cases h1 : inB s 0 500 <;> cases h2 : inB n 1 400 <;> cases h3 : inB k 0 n
    case true.true.true => simp [leB, h1, h2, h3] at h
    all_goals
      clear h
      go_enter Try.func8, Try.ntmps8
      go_wp2_with (first | (go_at_call 18; refine (skew_impl _ _).mono ?_; rintro e w' ⟨rfl, rfl⟩) | (go_at_call 16; refine (EV.out _).mono ?_; rintro e w' ⟨rfl, rfl⟩) | (go_at_call 10; refine (within_impl _ _ _ _).mono ?_; rintro e w' ⟨rfl, rfl⟩))
      refine bodyPost_ret (v := .tuple #[.agg #[.int .i64 0, .int .i64 0], .int .i64 2]) (by simp [results, Try.results8, go_sem]) rfl ⟨arf1 F.out.1 F.out.2.1 F.out.2.2, ?_⟩
      exact E0.out
  · obtain ⟨⟨s0, s1⟩, ⟨n0, n1⟩, ⟨k0, k1⟩, m0, m1⟩ := le_range h
    have h1 : inB s 0 500 = true := inB_true.2 ⟨s0, s1⟩
    have h2 : inB n 1 400 = true := inB_true.2 ⟨n0, n1⟩
    have h3 : inB k 0 n = true := inB_true.2 ⟨k0, k1⟩
    have e0 : n.tmod 2 = n % 2 := Int.tmod_eq_emod_of_nonneg (by omega)
    have e1 : IntKind.i64.wrap (n % 2) = n % 2 := IntWalk.i64_in _ (by omega)
    have EV := Lib.hid (even_implZ n (by omega))
    by_cases he : n % 2 = 0
    · have F : Hid ((0 : Int) = leN s n k ∧ (0 : Int) = leD s n k ∧ (6 : Int) = leC s n k) := ⟨by simp [leN, leC, h, he], by simp [leD, leC, h, he], by simp [leC, h, he]⟩
      clear h
      rw [decide_eq_true he] at EV
      have T0_0 := Lib.hid (there_new w #[.int .i64 0, .int .i64 0] 28 2 rfl)
      have E0 := Lib.hid (balloc0 w (.cells #[.int .i64 0, .int .i64 0] 28))
      go_enter Try.func8, Try.ntmps8
      go_wp2_with (first | (go_at_call 18; refine (skew_impl _ _).mono ?_; rintro e w' ⟨rfl, rfl⟩) | (go_at_call 16; refine (EV.out _).mono ?_; rintro e w' ⟨rfl, rfl⟩) | (go_at_call 10; refine (within_impl _ _ _ _).mono ?_; rintro e w' ⟨rfl, rfl⟩))
      refine bodyPost_ret (v := .tuple #[.agg #[.int .i64 0, .int .i64 0], .int .i64 6]) (by simp [results, Try.results8, go_sem]) rfl ⟨arf1 F.out.1 F.out.2.1 F.out.2.2, ?_⟩
      exact E0.out
    · have MK := Lib.hid (lowest_implZ ((2 * k - n) * s) n ⟨by omega, by omega⟩ (by omega) (by omega))
      obtain ⟨U, hU⟩ : ∃ U, lowN ((2 * k - n) * s) n = U := ⟨_, rfl⟩
      obtain ⟨V, hV⟩ : ∃ U, lowD ((2 * k - n) * s) n = U := ⟨_, rfl⟩
      have F : Hid (U = leN s n k ∧ V = leD s n k ∧ (0 : Int) = leC s n k) := ⟨by simp [leN, leC, h, he, hU], by simp [leD, leC, h, he, hV], by simp [leC, h, he]⟩
      rw [hU, hV] at MK
      clear hU hV h
      rw [decide_eq_false he] at EV
      have T0_0 := Lib.hid (there_new w #[.int .i64 0, .int .i64 0] 28 2 rfl)
      have E0 := Lib.hid (balloc0 w (.cells #[.int .i64 0, .int .i64 0] 28))
      go_enter Try.func8, Try.ntmps8
      go_wp2_with (first | (go_at_call 18; refine (skew_impl _ _).mono ?_; rintro e w' ⟨rfl, rfl⟩) | (go_at_call 16; refine (EV.out _).mono ?_; rintro e w' ⟨rfl, rfl⟩) | (go_at_call 10; refine (within_impl _ _ _ _).mono ?_; rintro e w' ⟨rfl, rfl⟩))
      refine (MK.out _).mono ?_
      rintro e w1 ⟨rfl, hb1⟩
      have E1 := Lib.hid (bnext E0.out hb1)
      have T0_1 := Lib.hid (there_below T0_0.out hb1)
      clear hb1
      obtain ⟨u00, x00, y00⟩ := there_at T0_1.out (show 0 < 2 by omega)
      obtain ⟨u01, x01, y01⟩ := there_at T0_1.out (show 1 < 2 by omega)
      go_wp2
      refine bodyPost_ret (v := .tuple #[.agg #[.int .i64 U, .int .i64 V], .int .i64 0]) (by simp [results, Try.results8, go_sem, x00, x01]) rfl ⟨arf1 F.out.1 F.out.2.1 F.out.2.2, ?_⟩
      exact ((E1.out).setCell (by simp <;> omega) _).setCell (by simp <;> omega) _
end Go.Proofs.Ytdhikdaegmekbac
