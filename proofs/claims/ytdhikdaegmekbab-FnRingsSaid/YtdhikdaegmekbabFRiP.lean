/-
  FnRings: bricks of a ring, its joints and its taper: plain facts.
-/
import Derived.Test.YtdhikdaegmekbabArM
import Derived.Test.YtdhikdaegmekbabAt
import Derived.Test.YtdhikdaegmekbabDrR
namespace Go.Proofs.Ytdhikdaegmekbab
open Go.ChangeShapes Go.WideShapes Go.ChangeAt Go.RowKit Go.Joins

theorem ring_ident (a e m I1 I2 O1 O2 T1 T2 g h l : Int) (e1 : a = g * I1) (e2 : m = g * I2) (e3 : a + e = h * O1) (e4 : m = h * O2) (e5 : e = l * T1) (e6 : m = l * T2) (hg : 0 < g) (hh : 0 < h) (hl : 0 < l) : (O1 * I2 - I1 * O2) * T2 = T1 * I2 * O2 := by
  have key : (g * h * l) * ((O1 * I2 - I1 * O2) * T2) = (g * h * l) * (T1 * I2 * O2) := by
    have a1 : (g * h * l) * ((O1 * I2 - I1 * O2) * T2) = ((h * O1) * (g * I2) - (g * I1) * (h * O2)) * (l * T2) := by grind
    have a2 : (g * h * l) * (T1 * I2 * O2) = (l * T1) * (g * I2) * (h * O2) := by grind
    rw [a1, a2, ← e1, ← e2, ← e3, ← e4, ← e5, ← e6]
    grind
  exact Int.eq_of_mul_eq_mul_left (Int.ne_of_gt (Int.mul_pos (Int.mul_pos hg hh) hl)) key
theorem rings_prep (R D B J : Int) (h : RingB R D B J) : ∃ n E N L I1 I2 O1 O2 T1 T2 : Int, (1 ≤ n ∧ n ≤ 100) ∧ n % 2 = 1 ∧ Hid (113 * (B + J) = E) ∧ (1 ≤ E ∧ E ≤ 20000) ∧ Hid (n * E ≤ 355 * R) ∧ Hid (355 * R < (n + 2) * E) ∧
    (0 ≤ N ∧ N ≤ 600000) ∧ (1 ≤ L ∧ L ≤ 113) ∧ Hid (N * 113 = 355 * R * L) ∧
    (0 ≤ I1 ∧ I1 ≤ 1000000) ∧ (1 ≤ I2 ∧ I2 ≤ 11300) ∧ (0 ≤ O1 ∧ O1 ≤ 1000000) ∧ (1 ≤ O2 ∧ O2 ≤ 11300) ∧ (0 ≤ T1 ∧ T1 ≤ 1000000) ∧ (1 ≤ T2 ∧ T2 ≤ 11300) ∧ Hid (J * I2 ≤ I1) ∧ Hid ((O1 * I2 - I1 * O2) * T2 = T1 * I2 * O2) ∧
    Hid (∀ w, Calls Try.prog 46 #[.agg #[.int .i64 R, .int .i64 D, .int .i64 B, .int .i64 J]] w fun e w' => e = .returned (.tuple #[.int .i64 n, .int .i64 0]) ∧ Below w.heap.size w w') ∧ Hid (∀ w, Calls Try.prog 47 #[.agg #[.int .i64 R, .int .i64 D, .int .i64 B, .int .i64 J]] w fun e w' => e = .returned (.tuple #[.agg #[.int .i64 N, .int .i64 L], .int .i64 0]) ∧ Below w.heap.size w w') ∧ Hid (∀ w, Calls Try.prog 48 #[.agg #[.int .i64 R, .int .i64 D, .int .i64 B, .int .i64 J]] w fun e w' => e = .returned (.tuple #[.agg #[.int .i64 I1, .int .i64 I2], .agg #[.int .i64 O1, .int .i64 O2], .int .i64 0]) ∧ Below w.heap.size w w') ∧ Hid (∀ w, Calls Try.prog 49 #[.agg #[.int .i64 R, .int .i64 D, .int .i64 B, .int .i64 J]] w fun e w' => e = .returned (.tuple #[.agg #[.int .i64 T1, .int .i64 T2], .int .i64 0]) ∧ Below w.heap.size w w') ∧
    Hid (∀ m w, 1 ≤ m → m ≤ 100 → Calls Try.prog 51 #[.agg #[.int .i64 R, .int .i64 D, .int .i64 B, .int .i64 J], .int .i64 m] w fun e w' => e = .returned (.tuple #[.bool (decide (m * O2 < O1)), .int .i64 0]) ∧ Below w.heap.size w w') := by
  obtain ⟨⟨r0, r1⟩, ⟨d0, d1⟩, ⟨b0, b1⟩, j0, j1⟩ := h
  have hok : okR R D B J = true := okR_true.2 ⟨by omega, by omega, by omega, by omega⟩
  have hc : 1 ≤ cR R B J ∧ cR R B J ≤ 100 := by
    unfold cR
    constructor
    · exact (fits_div (355 * R) (113 * (B + J)) 1 (by omega)).1 (by omega)
    · have h2 := (fits_div (355 * R) (113 * (B + J)) (355 * R / (113 * (B + J))) (by omega)).2 (Int.le_refl _)
      obtain ⟨q, hq⟩ : ∃ q, 355 * R / (113 * (B + J)) = q := ⟨_, rfl⟩
      rw [hq] at h2 ⊢
      by_cases h0 : q ≤ 100
      · exact h0
      · have h3 : 101 * (113 * 51) ≤ q * (113 * (B + J)) := Int.mul_le_mul (by omega) (by omega) (by omega) (by omega)
        omega
  obtain ⟨c0, c1⟩ := hc
  have hrc : rC R D B J = 0 := by rw [rC, if_pos hok, if_neg (by omega)]
  have hrn : rN R D B J = oddQ (cR R B J) := by rw [rN, if_pos hok]
  obtain ⟨q0, q1, q2, q3⟩ := oddQ_odd c0
  have p1 := (fits_div (355 * R) (113 * (B + J)) (oddQ (cR R B J)) (by omega)).2 q2
  have p2 : ¬ (oddQ (cR R B J) + 2) * (113 * (B + J)) ≤ 355 * R := fun hx => by
    have : oddQ (cR R B J) + 2 ≤ cR R B J := (fits_div (355 * R) (113 * (B + J)) (oddQ (cR R B J) + 2) (by omega)).1 hx
    omega
  obtain ⟨n, hn⟩ : ∃ n, oddQ (cR R B J) = n := ⟨_, rfl⟩
  rw [hn] at q0 q1 q2 q3 p1 p2 hrn
  have m0 : 0 ≤ 113 * n * B := Int.mul_nonneg (by omega) (by omega)
  have m1 : 113 * n * B + J * (113 * n) ≤ 355 * R := by
    have e : n * (113 * (B + J)) = 113 * n * B + J * (113 * n) := by grind
    omega
  have m2 : 0 ≤ J * (113 * n) := Int.mul_nonneg (by omega) (by omega)
  obtain ⟨n2, n3, l2, l3⟩ := low_bound (355 * R) 113 (by omega) 600000 (by omega) (by omega)
  have n4 := (low_ge (355 * R) 113 0 (by omega)).2 (by omega)
  obtain ⟨g1, g1p, -, f1, f2, -⟩ := low_back (355 * R) 113 (by omega)
  obtain ⟨i0, i1, i2, i3⟩ := low_bound (355 * R - 113 * n * B) (113 * n) (by omega) 1000000 (by omega) (by omega)
  obtain ⟨g, g0, -, f3, f4, -⟩ := low_back (355 * R - 113 * n * B) (113 * n) (by omega)
  have i4 := (low_ge (355 * R - 113 * n * B) (113 * n) 0 (by omega)).2 (by omega)
  have i5 := (low_ge (355 * R - 113 * n * B) (113 * n) J (by omega)).2 (by omega)
  obtain ⟨o0, o1, o2, o3⟩ := low_bound (355 * (R + D) - 113 * n * B) (113 * n) (by omega) 1000000 (by omega) (by omega)
  obtain ⟨hh, h0, -, f5, f6, -⟩ := low_back (355 * (R + D) - 113 * n * B) (113 * n) (by omega)
  have o4 := (low_ge (355 * (R + D) - 113 * n * B) (113 * n) 0 (by omega)).2 (by omega)
  obtain ⟨t0, t1, t2, t3⟩ := low_bound (355 * D) (113 * n) (by omega) 1000000 (by omega) (by omega)
  obtain ⟨l, l0, -, f7, f8, -⟩ := low_back (355 * D) (113 * n) (by omega)
  have t4 := (low_ge (355 * D) (113 * n) 0 (by omega)).2 (by omega)
  rw [Int.zero_mul] at n4 i4 o4 t4
  refine ⟨n, 113 * (B + J), lowN (355 * R) 113, lowD (355 * R) 113, jN R B n, jD R B n, jN (R + D) B n, jD (R + D) B n, lowN (355 * D) (113 * n), lowD (355 * D) (113 * n), ⟨q1, by omega⟩, q0, rfl, by omega, p1, Int.not_le.1 p2, ⟨n4, n3⟩, ⟨l2, l3⟩, ?_, ⟨i4, i1⟩, ⟨i2, Int.le_trans i3 (by omega)⟩, ⟨o4, o1⟩, ⟨o2, Int.le_trans o3 (by omega)⟩, ⟨t4, t1⟩, ⟨t2, Int.le_trans t3 (by omega)⟩, i5, ?_, fun w => ?_, fun w => ?_, fun w => ?_, fun w => ?_, fun m w ma mb => ?_⟩
  · show lowN (355 * R) 113 * 113 = 355 * R * lowD (355 * R) 113
    obtain ⟨N, hN⟩ : ∃ N, lowN (355 * R) 113 = N := ⟨_, rfl⟩
    obtain ⟨L, hL⟩ : ∃ N, lowD (355 * R) 113 = N := ⟨_, rfl⟩
    rw [hN] at f1 ⊢
    rw [hL] at f2 ⊢
    rw [f1]
    have : N * 113 = N * (g1 * L) := by rw [← f2]
    rw [this]
    grind
  · exact ring_ident (355 * R - 113 * n * B) (355 * D) (113 * n) _ _ _ _ _ _ g hh l f3 f4 ((show 355 * R - 113 * n * B + 355 * D = 355 * (R + D) - 113 * n * B by omega).trans f5) f6 f7 f8 g0 h0 l0
  · have hA := bricksin_impl R D B J w
    rw [hrn, hrc] at hA
    exact hA
  · have hA := inlen_impl R D B J w
    rw [show iN R D B J = lowN (355 * R) 113 by simp [iN, hok], show iD R D B J = lowD (355 * R) 113 by simp [iD, hok], show iC R D B J = 0 by simp [iC, hok]] at hA
    exact hA
  · have hA := joints_impl R D B J w
    rw [show joN R R D B J = jN R B n by simp [joN, hrc, hrn], show joD R R D B J = jD R B n by simp [joD, hrc, hrn], show joN (R + D) R D B J = jN (R + D) B n by simp [joN, hrc, hrn], show joD (R + D) R D B J = jD (R + D) B n by simp [joD, hrc, hrn], hrc] at hA
    exact hA
  · have hA := taperof_impl R D B J w
    rw [show taN R D B J = lowN (355 * D) (113 * n) by simp [taN, hrc, hrn], show taD R D B J = lowD (355 * D) (113 * n) by simp [taD, hrc, hrn], hrc] at hA
    exact hA
  · have hA := must_impl R D B J m w
    have hm : inB m 1 100 = true := inB_true.2 ⟨ma, mb⟩
    rcases muC_cases R D B J m with ⟨x, _⟩ | ⟨_, x, _⟩ | ⟨_, _, x, _⟩ | ⟨_, _, _, x, y⟩
    · rw [hok] at x; exact absurd x (by decide)
    · rw [hm] at x; exact absurd x (by decide)
    · exact absurd hrc x
    · rw [x, y, hrn] at hA
      exact hA
end Go.Proofs.Ytdhikdaegmekbab
