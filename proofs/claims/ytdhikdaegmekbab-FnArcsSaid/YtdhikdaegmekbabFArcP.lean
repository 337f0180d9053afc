/-
  FnArcs: points of an arc are on its circle, the circle with a span and a rise goes through both ends and the top: plain facts and the walk.
-/
import Derived.Test.YtdhikdaegmekbabArA
import Derived.Test.YtdhikdaegmekbabAt
namespace Go.Proofs.Ytdhikdaegmekbab
open Go.ChangeShapes Go.WideShapes Go.ChangeAt Go.RowKit Go.Joins

theorem circle (r p q X Xd Y Yd g h : Int) (e1 : r * (q * q - p * p) = g * X) (e2 : q * q + p * p = g * Xd) (e3 : r * 2 * p * q = h * Y) (e4 : q * q + p * p = h * Yd) (hg : 0 < g) (hh : 0 < h) : X * X * Yd * Yd + Y * Y * Xd * Xd = r * r * Xd * Xd * Yd * Yd := by
  have key : (g * g * (h * h)) * (X * X * Yd * Yd + Y * Y * Xd * Xd) = (g * g * (h * h)) * (r * r * Xd * Xd * Yd * Yd) := by
    grind
  have : 0 < g * g * (h * h) := Int.mul_pos (Int.mul_pos hg hg) (Int.mul_pos hh hh)
  exact Int.eq_of_mul_eq_mul_left (by omega) key
/-- What a law asks of a point of an arc. -/
theorem arc_prep (R p q : Int) (r0 : 1 ≤ R ∧ R ≤ 20) (p0 : 0 ≤ p ∧ p ≤ 19) (q0 : 1 ≤ q ∧ q ≤ 20) : ∃ X Xd Y Yd : Int, (-10000 ≤ X ∧ X ≤ 10000) ∧ (1 ≤ Xd ∧ Xd ≤ 1000) ∧ (0 ≤ Y ∧ Y ≤ 20000) ∧ (1 ≤ Yd ∧ Yd ≤ 1000) ∧ Hid (X * X * Yd * Yd + Y * Y * Xd * Xd = R * R * Xd * Xd * Yd * Yd) ∧
    Hid (∀ w, Calls Try.prog 52 #[.int .i64 R, .int .i64 p, .int .i64 q] w fun e w' => e = .returned (.tuple #[.agg #[.int .i64 X, .int .i64 Xd], .agg #[.int .i64 Y, .int .i64 Yd], .int .i64 0]) ∧ Below w.heap.size w w') := by
  obtain ⟨r0, r1⟩ := r0
  obtain ⟨p0, p1⟩ := p0
  obtain ⟨q0, q1⟩ := q0
  have hB : apB R p q = true := by simp only [apB, Bool.and_eq_true, inB_true]; omega
  have a0 : 1 ≤ q * q := Int.mul_pos (by omega) (by omega)
  have a1 : q * q ≤ 400 := Int.le_trans (Int.mul_le_mul q1 q1 (by omega) (by omega)) (by omega)
  have b0 : 0 ≤ p * p := Int.mul_nonneg p0 p0
  have b1 : p * p ≤ 361 := Int.le_trans (Int.mul_le_mul p1 p1 p0 (by omega)) (by omega)
  have c0 : R * (q * q - p * p) ≤ 8000 := by
    have h1 := Int.mul_le_mul_of_nonneg_left (show q * q - p * p ≤ 400 by omega) (show 0 ≤ R by omega)
    omega
  have c1 : -8000 ≤ R * (q * q - p * p) := by
    have h1 := Int.mul_le_mul_of_nonneg_left (show -400 ≤ q * q - p * p by omega) (show 0 ≤ R by omega)
    omega
  have d0 : 0 ≤ R * 2 * p := Int.mul_nonneg (by omega) p0
  have d1 : R * 2 * p ≤ 760 := Int.le_trans (Int.mul_le_mul (show R * 2 ≤ 40 by omega) p1 p0 (by omega)) (by omega)
  have e0 : 0 ≤ R * 2 * p * q := Int.mul_nonneg d0 (by omega)
  have e1 : R * 2 * p * q ≤ 15200 := Int.le_trans (Int.mul_le_mul d1 q1 (by omega) (by omega)) (by omega)
  obtain ⟨x0, x1, x2, x3⟩ := low_bound (R * (q * q - p * p)) (q * q + p * p) (by omega) 10000 (by omega) (by omega)
  obtain ⟨y0, y1, y2, y3⟩ := low_bound (R * 2 * p * q) (q * q + p * p) (by omega) 20000 (by omega) (by omega)
  obtain ⟨g, g0, -, f1, f2, -⟩ := low_back (R * (q * q - p * p)) (q * q + p * p) (by omega)
  obtain ⟨h, h0, -, f3, f4, -⟩ := low_back (R * 2 * p * q) (q * q + p * p) (by omega)
  have yp := (low_ge (R * 2 * p * q) (q * q + p * p) 0 (by omega)).2 (by omega)
  rw [Int.zero_mul] at yp
  refine ⟨_, _, _, _, ⟨x0, x1⟩, ⟨x2, by omega⟩, ⟨yp, y1⟩, ⟨y2, by omega⟩, circle R p q _ _ _ _ g h f1 f2 f3 f4 g0 h0, fun w => ?_⟩
  have hA := arc_impl R p q w
  rw [show axN R p q = lowN (R * (q * q - p * p)) (q * q + p * p) by simp [axN, hB], show axD R p q = lowD (R * (q * q - p * p)) (q * q + p * p) by simp [axD, hB], show ayN R p q = lowN (R * 2 * p * q) (q * q + p * p) by simp [ayN, hB], show ayD R p q = lowD (R * 2 * p * q) (q * q + p * p) by simp [ayD, hB], show apC R p q = 0 by simp [apC, hB]] at hA
  exact hA
theorem radius_prep (s t : Int) (t0 : 1 ≤ t ∧ t ≤ 100) (s0 : 2 * t ≤ s ∧ s ≤ 400) : ∃ N D : Int, (1 ≤ N ∧ N ≤ 999999) ∧ (1 ≤ D ∧ D ≤ 800) ∧ Hid (8 * t * N = (s * s + 4 * t * t) * D) ∧ Hid (t * D ≤ N) ∧
    Hid (∀ w, Calls Try.prog 53 #[.int .i64 s, .int .i64 t] w fun e w' => e = .returned (.tuple #[.agg #[.int .i64 N, .int .i64 D], .int .i64 0]) ∧ Below w.heap.size w w') := by
  obtain ⟨t0, t1⟩ := t0
  obtain ⟨s0, s1⟩ := s0
  have hB : raB s t = true := by simp only [raB, Bool.and_eq_true, inB_true, decide_eq_true_eq]; omega
  have a0 : 0 ≤ s * s := Int.mul_nonneg (by omega) (by omega)
  have a1 : s * s ≤ 160000 := Int.le_trans (Int.mul_le_mul s1 s1 (by omega) (by omega)) (by omega)
  have b0 : 4 ≤ 4 * t * t := Int.le_trans (by omega) (Int.mul_le_mul (show 4 ≤ 4 * t by omega) t0 (by omega) (by omega))
  have b1 : 4 * t * t ≤ 40000 := Int.le_trans (Int.mul_le_mul (show 4 * t ≤ 400 by omega) t1 (by omega) (by omega)) (by omega)
  have c0 : 4 * t * t ≤ s * s := by
    have := Int.mul_le_mul s0 s0 (show 0 ≤ 2 * t by omega) (show 0 ≤ s by omega)
    have e : 2 * t * (2 * t) = 4 * t * t := by grind
    omega
  obtain ⟨x0, x1, x2, x3⟩ := low_bound (s * s + 4 * t * t) (8 * t) (by omega) 999999 (by omega) (by omega)
  obtain ⟨g, g0, -, f1, f2, -⟩ := low_back (s * s + 4 * t * t) (8 * t) (by omega)
  have hge := (low_ge (s * s + 4 * t * t) (8 * t) t (by omega)).2 (by have e : t * (8 * t) = 2 * (4 * t * t) := by grind
                                                                      omega)
  obtain ⟨N, hN⟩ : ∃ N, lowN (s * s + 4 * t * t) (8 * t) = N := ⟨_, rfl⟩
  obtain ⟨D, hD⟩ : ∃ D, lowD (s * s + 4 * t * t) (8 * t) = D := ⟨_, rfl⟩
  rw [hN] at x0 x1 f1 hge
  rw [hD] at x2 x3 f2 hge
  have n1 : 1 ≤ N := Int.le_trans (Int.mul_pos (show 0 < t by omega) x2) hge
  refine ⟨N, D, ⟨n1, x1⟩, ⟨x2, by omega⟩, ?_, hge, fun w => ?_⟩
  · show 8 * t * N = (s * s + 4 * t * t) * D
    rw [f1, f2, Int.mul_assoc, Int.mul_assoc, Int.mul_comm D N]
  · have hA := radius_impl s t w
    rw [show raN s t = N by simp [raN, hB, hN], show raD s t = D by simp [raD, hB, hD], show raC s t = 0 by simp [raC, hB]] at hA
    exact hA
theorem prod_le {a b A B : Int} (a0 : 0 ≤ a) (a1 : a ≤ A) (b0 : 0 ≤ b) (b1 : b ≤ B) : 0 ≤ a * b ∧ a * b ≤ A * B :=
  ⟨Int.mul_nonneg a0 b0, Int.mul_le_mul a1 b1 b0 (Int.le_trans a0 a1)⟩
theorem sq_le {a A : Int} (a0 : -A ≤ a) (a1 : a ≤ A) : 0 ≤ a * a ∧ a * a ≤ A * A := by
  by_cases h : 0 ≤ a
  · exact prod_le h a1 h a1
  · have := prod_le (show 0 ≤ -a by omega) (show -a ≤ A by omega) (show 0 ≤ -a by omega) (show -a ≤ A by omega)
    rwa [Int.neg_mul_neg] at this
end Go.Proofs.Ytdhikdaegmekbab
