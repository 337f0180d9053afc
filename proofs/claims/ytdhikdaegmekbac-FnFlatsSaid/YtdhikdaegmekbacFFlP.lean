/-
  FnFlats: the most bricks of a flat arch, their widths, its leaning joints: plain facts.
-/
import Derived.Test.YtdhikdaegmekbacArG
import Derived.Test.YtdhikdaegmekbacAt
namespace Go.Proofs.Ytdhikdaegmekbac
open Go.ChangeShapes Go.WideShapes Go.ChangeAt Go.RowKit Go.Joins

theorem prodF {a b A B : Int} (a0 : 0 ≤ a) (a1 : a ≤ A) (b0 : 0 ≤ b) (b1 : b ≤ B) : 0 ≤ a * b ∧ a * b ≤ A * B :=
  ⟨Int.mul_nonneg a0 b0, Int.mul_le_mul a1 b1 b0 (Int.le_trans a0 a1)⟩
theorem prodS {a b A B : Int} (a0 : -A ≤ a) (a1 : a ≤ A) (b0 : 0 ≤ b) (b1 : b ≤ B) : -(A * B) ≤ a * b ∧ a * b ≤ A * B := by
  have A0 : 0 ≤ A := by omega
  by_cases h : 0 ≤ a
  · obtain ⟨p, q⟩ := prodF h a1 b0 b1
    have : 0 ≤ A * B := Int.mul_nonneg A0 (Int.le_trans b0 b1)
    omega
  · obtain ⟨p, q⟩ := prodF (show 0 ≤ -a by omega) (show -a ≤ A by omega) b0 b1
    rw [Int.neg_mul] at p q
    omega
/-- The greatest number of bricks that are wide enough above. -/
theorem flats_n (s k j b : Int) (s0 : 300 ≤ s ∧ s ≤ 2300) (k0 : 0 ≤ k ∧ k ≤ 150) (j0 : 0 ≤ j ∧ j ≤ 11) (b0 : 40 ≤ b ∧ b ≤ 100) : ∃ n : Int, (1 ≤ n ∧ n ≤ 65) ∧ n % 2 = 1 ∧ Hid (n * b ≤ s + 2 * k - (n + 1) * j) ∧ Hid (s + 2 * k - (n + 3) * j < (n + 2) * b) ∧
    Hid (∀ w, Calls Try.prog 6 #[.int .i64 s, .int .i64 k, .int .i64 j, .int .i64 b] w fun e w' => e = .returned (.tuple #[.int .i64 n, .int .i64 0]) ∧ Below w.heap.size w w') := by
  obtain ⟨s0, s1⟩ := s0
  obtain ⟨k0, k1⟩ := k0
  obtain ⟨j0, j1⟩ := j0
  obtain ⟨b0, b1⟩ := b0
  have hB : fbB s k j b = true := by simp only [fbB, flB, Bool.and_eq_true, inB_true]; omega
  obtain ⟨c0, c1⟩ : 1 ≤ fbc s k j b ∧ fbc s k j b ≤ 65 := by
    unfold fbc
    constructor
    · exact (fits_div (s + 2 * k - j) (b + j) 1 (by omega)).1 (by omega)
    · have h2 := (fits_div (s + 2 * k - j) (b + j) ((s + 2 * k - j) / (b + j)) (by omega)).2 (Int.le_refl _)
      obtain ⟨q, hq⟩ : ∃ q, (s + 2 * k - j) / (b + j) = q := ⟨_, rfl⟩
      rw [hq] at h2 ⊢
      by_cases h0 : q ≤ 65
      · exact h0
      · have h3 : 66 * 40 ≤ q * (b + j) := Int.mul_le_mul (by omega) (by omega) (by omega) (by omega)
        omega
  obtain ⟨q0, q1, q2, q3⟩ := oddQ_odd c0
  refine ⟨oddQ (fbc s k j b), ⟨q1, by omega⟩, q0, ?_, ?_, fun w => ?_⟩
  · have := (fb_fits hB (oddQ (fbc s k j b))).2 q2
    rwa [Int.mul_comm] at this
  · have := fun hx => (show ¬ oddQ (fbc s k j b) + 2 ≤ fbc s k j b by omega) ((fb_fits hB (oddQ (fbc s k j b) + 2)).1 hx)
    rw [Int.mul_comm] at this
    rw [show oddQ (fbc s k j b) + 2 + 1 = oddQ (fbc s k j b) + 3 by omega] at this
    exact Int.not_le.1 this
  · have hA := fbricks_impl s k j b w
    rw [show fbN s k j b = oddQ (fbc s k j b) by simp [fbN, hB], show fbC s k j b = 0 by rw [fbC, if_pos hB, if_neg (by omega)]] at hA
    exact hA
theorem flat_ident (A k n U1 V1 U2 V2 g h : Int) (e1 : A = g * U1) (e2 : n = g * V1) (e3 : A + 2 * k = h * U2) (e4 : n = h * V2) (hg : 0 < g) (hh : 0 < h) : (U2 * V1 - U1 * V2) * n = 2 * k * V1 * V2 := by
  have key : (g * h) * ((U2 * V1 - U1 * V2) * n) = (g * h) * (2 * k * V1 * V2) := by
    have a1 : (g * h) * ((U2 * V1 - U1 * V2) * n) = ((h * U2) * (g * V1) - (g * U1) * (h * V2)) * n := by grind
    have a2 : (g * h) * (2 * k * V1 * V2) = 2 * k * (g * V1) * (h * V2) := by grind
    rw [a1, a2, ← e1, ← e2, ← e3, ← e4]
    grind
  exact Int.eq_of_mul_eq_mul_left (Int.ne_of_gt (Int.mul_pos hg hh)) key
/-- The widths of the bricks: none is told, or they have the law's bounds. -/
theorem flats_w (s k j n : Int) (s0 : 300 ≤ s ∧ s ≤ 2300) (k0 : 0 ≤ k ∧ k ≤ 150) (j0 : 0 ≤ j ∧ j ≤ 11) (n0 : 1 ≤ n ∧ n ≤ 65) (hn : n % 2 = 1) : Hid (∀ w, Calls Try.prog 7 #[.int .i64 s, .int .i64 k, .int .i64 j, .int .i64 n] w fun e w' => e = .returned (.tuple #[.agg #[.int .i64 0, .int .i64 0], .agg #[.int .i64 0, .int .i64 0], .int .i64 6]) ∧ Below w.heap.size w w') ∨ ∃ U1 V1 U2 V2 : Int, (1 ≤ U1 ∧ U1 ≤ 10000) ∧ (1 ≤ V1 ∧ V1 ≤ n) ∧ (-10000 ≤ U2 ∧ U2 ≤ 10000) ∧ (1 ≤ V2 ∧ V2 ≤ n) ∧ Hid ((U2 * V1 - U1 * V2) * n = 2 * k * V1 * V2) ∧
    Hid (∀ w, Calls Try.prog 7 #[.int .i64 s, .int .i64 k, .int .i64 j, .int .i64 n] w fun e w' => e = .returned (.tuple #[.agg #[.int .i64 U1, .int .i64 V1], .agg #[.int .i64 U2, .int .i64 V2], .int .i64 0]) ∧ Below w.heap.size w w') := by
  obtain ⟨s0, s1⟩ := s0
  obtain ⟨k0, k1⟩ := k0
  obtain ⟨j0, j1⟩ := j0
  obtain ⟨n0, n1⟩ := n0
  have hF : flB s k j = true := by simp only [flB, Bool.and_eq_true, inB_true]; omega
  have hN : inB n 1 400 = true := inB_true.2 ⟨n0, by omega⟩
  obtain ⟨m0, m1⟩ := nj_range (j := j) (n := n) ⟨j0, by omega⟩ ⟨n0, by omega⟩
  have m2 : (n + 1) * j ≤ 726 := (prodF (show 0 ≤ n + 1 by omega) (show n + 1 ≤ 66 by omega) j0 j1).2
  by_cases h4 : s - (n + 1) * j ≤ 0
  · refine .inl (fun w => ?_)
    have hc : fwC s k j n = 6 := by rw [fwC, if_pos ⟨hF, hN⟩, if_pos (Or.inr h4)]
    have hA := fwidths_impl s k j n w
    rw [show fw0 s k j n = 0 by simp [fw0, hc], show fd0 s k j n = 0 by simp [fd0, hc], show fw1 s k j n = 0 by simp [fw1, hc], show fd1 s k j n = 0 by simp [fd1, hc], hc] at hA
    exact hA
  · have hc : fwC s k j n = 0 := by rw [fwC, if_pos ⟨hF, hN⟩, if_neg (fun h => h.elim (by omega) h4)]
    obtain ⟨a0, a1, a2, a3⟩ := low_bound (s - (n + 1) * j) n (by omega) 10000 (by omega) (by omega)
    obtain ⟨c0, c1, c2, c3⟩ := low_bound (s + 2 * k - (n + 1) * j) n (by omega) 10000 (by omega) (by omega)
    obtain ⟨g, g0, -, f1, f2, -⟩ := low_back (s - (n + 1) * j) n (by omega)
    obtain ⟨h, h0, -, f3, f4, -⟩ := low_back (s + 2 * k - (n + 1) * j) n (by omega)
    have u1 : ¬ lowN (s - (n + 1) * j) n ≤ 0 := fun x => h4 ((low_nonpos _ n (by omega)).1 x)
    refine .inr ⟨_, _, _, _, ⟨by omega, a1⟩, ⟨a2, a3⟩, ⟨c0, c1⟩, ⟨c2, c3⟩, flat_ident (s - (n + 1) * j) k n _ _ _ _ g h f1 f2 (by rw [← f3]; omega) f4 g0 h0, fun w => ?_⟩
    have hA := fwidths_impl s k j n w
    rw [show fw0 s k j n = lowN (s - (n + 1) * j) n by simp [fw0, hc], show fd0 s k j n = lowD (s - (n + 1) * j) n by simp [fd0, hc], show fw1 s k j n = lowN (s + 2 * k - (n + 1) * j) n by simp [fw1, hc], show fd1 s k j n = lowD (s + 2 * k - (n + 1) * j) n by simp [fd1, hc], hc] at hA
    exact hA
theorem low_neg (a b : Int) : lowN (-a) b = -lowN a b ∧ lowD (-a) b = lowD a b := by
  have e : Int.gcd (-a) b = Int.gcd a b := by simp [Int.gcd]
  unfold lowN lowD
  rw [e]
  exact ⟨Int.neg_ediv_of_dvd (Int.gcd_dvd_left ..), rfl⟩
/-- Leaning joints: the one from the other side leans as far to the other side. -/
theorem flats_l (k n x : Int) (k0 : 0 ≤ k ∧ k ≤ 150) (n0 : 1 ≤ n ∧ n ≤ 65) (hn : n % 2 = 1) (x0 : 0 ≤ x ∧ x ≤ n) : ∃ N D : Int, (-10000 ≤ N ∧ N ≤ 10000) ∧ (1 ≤ D ∧ D ≤ n) ∧ Hid (N * n = (2 * x - n) * k * D) ∧
    Hid (∀ w, Calls Try.prog 8 #[.int .i64 k, .int .i64 n, .int .i64 x] w fun e w' => e = .returned (.tuple #[.agg #[.int .i64 N, .int .i64 D], .int .i64 0]) ∧ Below w.heap.size w w') ∧ Hid (∀ w, Calls Try.prog 8 #[.int .i64 k, .int .i64 n, .int .i64 (n - x)] w fun e w' => e = .returned (.tuple #[.agg #[.int .i64 (-N), .int .i64 D], .int .i64 0]) ∧ Below w.heap.size w w') := by
  obtain ⟨k0, k1⟩ := k0
  obtain ⟨n0, n1⟩ := n0
  obtain ⟨x0, x1⟩ := x0
  have hB1 : leB k n x = true := by simp only [leB, Bool.and_eq_true, inB_true]; omega
  have hB2 : leB k n (n - x) = true := by simp only [leB, Bool.and_eq_true, inB_true]; omega
  have hn' : ¬ n % 2 = 0 := by omega
  have hc1 : leC k n x = 0 := by rw [leC, if_pos hB1, if_neg hn']
  have hc2 : leC k n (n - x) = 0 := by rw [leC, if_pos hB2, if_neg hn']
  obtain ⟨p0, p1⟩ := prodS (a := 2 * x - n) (A := 65) (by omega) (by omega) k0 k1
  obtain ⟨a0, a1, a2, a3⟩ := low_bound ((2 * x - n) * k) n (by omega) 10000 (by omega) (by omega)
  obtain ⟨g, g0, -, f1, f2, -⟩ := low_back ((2 * x - n) * k) n (by omega)
  have e : (2 * (n - x) - n) * k = -((2 * x - n) * k) := by rw [← Int.neg_mul]; congr 1; omega
  refine ⟨_, _, ⟨a0, a1⟩, ⟨a2, a3⟩, ?_, fun w => ?_, fun w => ?_⟩
  · show lowN ((2 * x - n) * k) n * n = (2 * x - n) * k * lowD ((2 * x - n) * k) n
    obtain ⟨N, hN⟩ : ∃ N, lowN ((2 * x - n) * k) n = N := ⟨_, rfl⟩
    obtain ⟨D, hD⟩ : ∃ N, lowD ((2 * x - n) * k) n = N := ⟨_, rfl⟩
    rw [hN] at f1
    rw [hD] at f2
    rw [hN, hD, f1]
    have : N * n = N * (g * D) := by rw [← f2]
    rw [this]
    grind
  · have hA := lean_impl k n x w
    rw [show leN k n x = lowN ((2 * x - n) * k) n by simp [leN, hc1], show leD k n x = lowD ((2 * x - n) * k) n by simp [leD, hc1], hc1] at hA
    exact hA
  · have hA := lean_impl k n (n - x) w
    rw [show leN k n (n - x) = -lowN ((2 * x - n) * k) n by rw [leN, if_pos hc2, e, (low_neg _ _).1], show leD k n (n - x) = lowD ((2 * x - n) * k) n by rw [leD, if_pos hc2, e, (low_neg _ _).2], hc2] at hA
    exact hA
end Go.Proofs.Ytdhikdaegmekbac
