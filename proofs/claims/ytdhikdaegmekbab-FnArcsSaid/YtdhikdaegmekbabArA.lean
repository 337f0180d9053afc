/-
  Arcs and leaning joints: RadiusOf, ArcPoint, LeanOf, contracts of the program and of the model.
-/
import Derived.Test.YtdhikdaegmekbabArU
namespace Go.Proofs.Ytdhikdaegmekbab
open Go.ChangeShapes Go.WideShapes Go.ChangeAt Go.RowKit Go.Joins


def raB (s r : Int) : Bool := inB s 1 10000 && (inB r 1 5000 && decide (2 * r ≤ s))
def raC (s r : Int) : Int := if raB s r = true then 0 else 2
def raN (s r : Int) : Int := if raB s r = true then lowN (s * s + 4 * r * r) (8 * r) else 0
def raD (s r : Int) : Int := if raB s r = true then lowD (s * s + 4 * r * r) (8 * r) else 0
def apB (R p q : Int) : Bool := inB R 1 5000 && (inB p 0 1000 && inB q 1 1000)
def apC (R p q : Int) : Int := if apB R p q = true then 0 else 2
def axN (R p q : Int) : Int := if apB R p q = true then lowN (R * (q * q - p * p)) (q * q + p * p) else 0
def axD (R p q : Int) : Int := if apB R p q = true then lowD (R * (q * q - p * p)) (q * q + p * p) else 0
def ayN (R p q : Int) : Int := if apB R p q = true then lowN (R * 2 * p * q) (q * q + p * p) else 0
def ayD (R p q : Int) : Int := if apB R p q = true then lowD (R * 2 * p * q) (q * q + p * p) else 0
def leB (s n k : Int) : Bool := inB s 0 500 && (inB n 1 400 && inB k 0 n)
def leC (s n k : Int) : Int := if leB s n k = true then (if n % 2 = 0 then 6 else 0) else 2
def leN (s n k : Int) : Int := if leC s n k = 0 then lowN ((2 * k - n) * s) n else 0
def leD (s n k : Int) : Int := if leC s n k = 0 then lowD ((2 * k - n) * s) n else 0
theorem ap_range {R p q : Int} (h : apB R p q = true) : (1 ≤ R ∧ R ≤ 5000) ∧ (0 ≤ p ∧ p ≤ 1000) ∧ (1 ≤ q ∧ q ≤ 1000) ∧ (1 ≤ q * q ∧ q * q ≤ 1000000) ∧ (0 ≤ p * p ∧ p * p ≤ 1000000) ∧ (-5000000000 ≤ R * (q * q - p * p) ∧ R * (q * q - p * p) ≤ 5000000000) ∧ (0 ≤ R * 2 * p ∧ R * 2 * p ≤ 10000000) ∧ (0 ≤ R * 2 * p * q ∧ R * 2 * p * q ≤ 10000000000) := by
  simp only [apB, Bool.and_eq_true, inB_true] at h
  obtain ⟨⟨r0, r1⟩, ⟨p0, p1⟩, q0, q1⟩ := h
  have a0 : 1 ≤ q * q := Int.mul_pos (by omega) (by omega)
  have a1 : q * q ≤ 1000000 := Int.le_trans (Int.mul_le_mul q1 q1 (by omega) (by omega)) (by omega)
  have b0 : 0 ≤ p * p := Int.mul_nonneg p0 p0
  have b1 : p * p ≤ 1000000 := Int.le_trans (Int.mul_le_mul p1 p1 p0 (by omega)) (by omega)
  have c0 : R * (q * q - p * p) ≤ 5000000000 := by
    have := Int.mul_le_mul_of_nonneg_left (show q * q - p * p ≤ 1000000 by omega) (show 0 ≤ R by omega)
    omega
  have c1 : -5000000000 ≤ R * (q * q - p * p) := by
    have := Int.mul_le_mul_of_nonneg_left (show -1000000 ≤ q * q - p * p by omega) (show 0 ≤ R by omega)
    omega
  have d0 : 0 ≤ R * 2 * p := Int.mul_nonneg (by omega) p0
  have d1 : R * 2 * p ≤ 10000000 := Int.le_trans (Int.mul_le_mul (show R * 2 ≤ 10000 by omega) p1 p0 (by omega)) (by omega)
  have e0 : 0 ≤ R * 2 * p * q := Int.mul_nonneg d0 (by omega)
  have e1 : R * 2 * p * q ≤ 10000000000 := Int.le_trans (Int.mul_le_mul d1 q1 (by omega) (by omega)) (by omega)
  exact ⟨⟨r0, r1⟩, ⟨p0, p1⟩, ⟨q0, q1⟩, ⟨a0, a1⟩, ⟨b0, b1⟩, ⟨c1, c0⟩, ⟨d0, d1⟩, e0, e1⟩
theorem ra_range {s r : Int} (h : raB s r = true) : (1 ≤ s ∧ s ≤ 10000) ∧ (1 ≤ r ∧ r ≤ 5000) ∧ (1 ≤ s * s ∧ s * s ≤ 100000000) ∧ (0 ≤ 4 * r * r ∧ 4 * r * r ≤ 100000000) ∧ 2 * r ≤ s := by
  simp only [raB, Bool.and_eq_true, inB_true, decide_eq_true_eq] at h
  obtain ⟨⟨s0, s1⟩, ⟨r0, r1⟩, h2⟩ := h
  exact ⟨⟨s0, s1⟩, ⟨r0, r1⟩, ⟨Int.mul_pos (by omega) (by omega), Int.le_trans (Int.mul_le_mul s1 s1 (by omega) (by omega)) (by omega)⟩, ⟨Int.mul_nonneg (by omega) (by omega), Int.le_trans (Int.mul_le_mul (show 4 * r ≤ 20000 by omega) r1 (by omega) (by omega)) (by omega)⟩, h2⟩
theorem le_range {s n k : Int} (h : leB s n k = true) : (0 ≤ s ∧ s ≤ 500) ∧ (1 ≤ n ∧ n ≤ 400) ∧ (0 ≤ k ∧ k ≤ n) ∧ (-200000 ≤ (2 * k - n) * s ∧ (2 * k - n) * s ≤ 200000) := by
  simp only [leB, Bool.and_eq_true, inB_true] at h
  obtain ⟨⟨s0, s1⟩, ⟨n0, n1⟩, k0, k1⟩ := h
  have a := Int.mul_le_mul_of_nonneg_right (show 2 * k - n ≤ 400 by omega) s0
  have b := Int.mul_le_mul_of_nonneg_right (show -400 ≤ 2 * k - n by omega) s0
  exact ⟨⟨s0, s1⟩, ⟨n0, n1⟩, ⟨k0, k1⟩, by omega, by omega⟩
set_option maxRecDepth 100000 in
set_option maxHeartbeats 6400000 in
theorem radius_impl (s r : Int) (w : World) : Calls Try.prog 53 #[.int .i64 s, .int .i64 r] w fun e w' => e = .returned (.tuple #[.agg #[.int .i64 (raN s r), .int .i64 (raD s r)], .int .i64 (raC s r)]) ∧ Below w.heap.size w w' := by
  cases h : raB s r
  · have F : Hid ((0 : Int) = raN s r ∧ (0 : Int) = raD s r ∧ (2 : Int) = raC s r) := ⟨by simp [raN, h], by simp [raD, h], by simp [raC, h]⟩
    have T0_0 := Lib.hid (there_new w #[.int .i64 0, .int .i64 0] 26 2 rfl)
    have E0 := Lib.hid (balloc0 w (.cells #[.int .i64 0, .int .i64 0] 26))
    cases h1 : inB s 1 10000
    · go_enter Try.func53, Try.ntmps53
      go_wp2_with (go_at_call 91; refine (within_impl _ _ _ _).mono ?_; rintro e w' ⟨rfl, rfl⟩)
      refine bodyPost_ret (v := .tuple #[.agg #[.int .i64 0, .int .i64 0], .int .i64 2]) (by simp [results, Try.results53, go_sem]) rfl ⟨arf1 F.out.1 F.out.2.1 F.out.2.2, ?_⟩
      exact E0.out
    · cases h2 : inB r 1 5000
      · go_enter Try.func53, Try.ntmps53
        go_wp2_with (go_at_call 91; refine (within_impl _ _ _ _).mono ?_; rintro e w' ⟨rfl, rfl⟩)
        refine bodyPost_ret (v := .tuple #[.agg #[.int .i64 0, .int .i64 0], .int .i64 2]) (by simp [results, Try.results53, go_sem]) rfl ⟨arf1 F.out.1 F.out.2.1 F.out.2.2, ?_⟩
        exact E0.out
      · have h3 : ¬ 2 * r ≤ s := by simp only [raB, h1, h2, Bool.true_and, decide_eq_false_iff_not] at h; exact h
        have h4 : s < 2 * r := by omega
        obtain ⟨r0, r1⟩ := inB_true.1 h2
        clear h
        go_enter Try.func53, Try.ntmps53
        go_wp2_with (go_at_call 91; refine (within_impl _ _ _ _).mono ?_; rintro e w' ⟨rfl, rfl⟩)
        refine bodyPost_ret (v := .tuple #[.agg #[.int .i64 0, .int .i64 0], .int .i64 2]) (by simp [results, Try.results53, go_sem]) rfl ⟨arf1 F.out.1 F.out.2.1 F.out.2.2, ?_⟩
        exact E0.out
  · obtain ⟨⟨s0, s1⟩, ⟨r0, r1⟩, ⟨a0, a1⟩, ⟨b0, b1⟩, h3⟩ := ra_range h
    have h1 : inB s 1 10000 = true := inB_true.2 ⟨s0, s1⟩
    have h2 : inB r 1 5000 = true := inB_true.2 ⟨r0, r1⟩
    have h4 : ¬ s < 2 * r := by omega
    have MK := Lib.hid (lowest_implZ (s * s + 4 * r * r) (8 * r) ⟨by omega, by omega⟩ (by omega) (by omega))
    obtain ⟨U, hU⟩ : ∃ U, lowN (s * s + 4 * r * r) (8 * r) = U := ⟨_, rfl⟩
    obtain ⟨V, hV⟩ : ∃ U, lowD (s * s + 4 * r * r) (8 * r) = U := ⟨_, rfl⟩
    have F : Hid (U = raN s r ∧ V = raD s r ∧ (0 : Int) = raC s r) := ⟨by simp [raN, h, hU], by simp [raD, h, hV], by simp [raC, h]⟩
    rw [hU, hV] at MK
    clear hU hV h
    have T0_0 := Lib.hid (there_new w #[.int .i64 0, .int .i64 0] 26 2 rfl)
    have E0 := Lib.hid (balloc0 w (.cells #[.int .i64 0, .int .i64 0] 26))
    go_enter Try.func53, Try.ntmps53
    go_wp2_with (go_at_call 91; refine (within_impl _ _ _ _).mono ?_; rintro e w' ⟨rfl, rfl⟩)
    refine (MK.out _).mono ?_
    rintro e w1 ⟨rfl, hb1⟩
    have E1 := Lib.hid (bnext E0.out hb1)
    have T0_1 := Lib.hid (there_below T0_0.out hb1)
    clear hb1
    obtain ⟨u00, x00, y00⟩ := there_at T0_1.out (show 0 < 2 by omega)
    obtain ⟨u01, x01, y01⟩ := there_at T0_1.out (show 1 < 2 by omega)
    go_wp2
    refine bodyPost_ret (v := .tuple #[.agg #[.int .i64 U, .int .i64 V], .int .i64 0]) (by simp [results, Try.results53, go_sem, x00, x01]) rfl ⟨arf1 F.out.1 F.out.2.1 F.out.2.2, ?_⟩
    exact ((E1.out).setCell (by simp <;> omega) _).setCell (by simp <;> omega) _
set_option maxRecDepth 100000 in
set_option maxHeartbeats 6400000 in
theorem arc_impl (R p q : Int) (w : World) : Calls Try.prog 52 #[.int .i64 R, .int .i64 p, .int .i64 q] w fun e w' => e = .returned (.tuple #[.agg #[.int .i64 (axN R p q), .int .i64 (axD R p q)], .agg #[.int .i64 (ayN R p q), .int .i64 (ayD R p q)], .int .i64 (apC R p q)]) ∧ Below w.heap.size w w' := by
  cases h : apB R p q
  · have F : Hid ((0 : Int) = axN R p q ∧ (0 : Int) = axD R p q ∧ (0 : Int) = ayN R p q ∧ (0 : Int) = ayD R p q ∧ (2 : Int) = apC R p q) := ⟨by simp [axN, h], by simp [axD, h], by simp [ayN, h], by simp [ayD, h], by simp [apC, h]⟩
    have T0_0 := Lib.hid (there_new w #[.int .i64 0, .int .i64 0] 26 2 rfl)
    have E0 := Lib.hid (balloc0 w (.cells #[.int .i64 0, .int .i64 0] 26))
    have T0_0 := Lib.hid (there_below T0_0.out (balloc0 (w.alloc (.cells #[.int .i64 0, .int .i64 0] 26)) (.cells #[.int .i64 0, .int .i64 0] 26)))
    have T1' := there_new (w.alloc (.cells #[.int .i64 0, .int .i64 0] 26)) #[.int .i64 0, .int .i64 0] 26 2 rfl
    rw [World.size_alloc] at T1'
    have T1_0 := Lib.hid T1'
    clear T1'
    have E0 := Lib.hid (balloc E0.out (.cells #[.int .i64 0, .int .i64 0] 26))
    cases h1 : inB R 1 5000 <;> cases h2 : inB p 0 1000 <;> cases h3 : inB q 1 1000
    case true.true.true => simp [apB, h1, h2, h3] at h
    all_goals
      clear h
      go_enter Try.func52, Try.ntmps52
      go_wp2_with (go_at_call 91; refine (within_impl _ _ _ _).mono ?_; rintro e w' ⟨rfl, rfl⟩)
      refine bodyPost_ret (v := .tuple #[.agg #[.int .i64 0, .int .i64 0], .agg #[.int .i64 0, .int .i64 0], .int .i64 2]) (by simp [results, Try.results52, go_sem]) rfl ⟨arf2 F.out.1 F.out.2.1 F.out.2.2.1 F.out.2.2.2.1 F.out.2.2.2.2, ?_⟩
      exact E0.out
  · obtain ⟨⟨r0, r1⟩, ⟨p0, p1⟩, ⟨q0, q1⟩, ⟨a0, a1⟩, ⟨b0, b1⟩, ⟨c0, c1⟩, ⟨d0, d1⟩, e0, e1⟩ := ap_range h
    have h1 : inB R 1 5000 = true := inB_true.2 ⟨r0, r1⟩
    have h2 : inB p 0 1000 = true := inB_true.2 ⟨p0, p1⟩
    have h3 : inB q 1 1000 = true := inB_true.2 ⟨q0, q1⟩
    have M1 := Lib.hid (lowest_implZ (R * (q * q - p * p)) (q * q + p * p) ⟨by omega, by omega⟩ (by omega) (by omega))
    have M2 := Lib.hid (lowest_implZ (R * 2 * p * q) (q * q + p * p) ⟨by omega, by omega⟩ (by omega) (by omega))
    obtain ⟨U1, hU1⟩ : ∃ U, lowN (R * (q * q - p * p)) (q * q + p * p) = U := ⟨_, rfl⟩
    obtain ⟨V1, hV1⟩ : ∃ U, lowD (R * (q * q - p * p)) (q * q + p * p) = U := ⟨_, rfl⟩
    obtain ⟨U2, hU2⟩ : ∃ U, lowN (R * 2 * p * q) (q * q + p * p) = U := ⟨_, rfl⟩
    obtain ⟨V2, hV2⟩ : ∃ U, lowD (R * 2 * p * q) (q * q + p * p) = U := ⟨_, rfl⟩
    have F : Hid (U1 = axN R p q ∧ V1 = axD R p q ∧ U2 = ayN R p q ∧ V2 = ayD R p q ∧ (0 : Int) = apC R p q) := ⟨by simp [axN, h, hU1], by simp [axD, h, hV1], by simp [ayN, h, hU2], by simp [ayD, h, hV2], by simp [apC, h]⟩
    rw [hU1, hV1] at M1
    rw [hU2, hV2] at M2
    clear hU1 hV1 hU2 hV2 h
    have T0_0 := Lib.hid (there_new w #[.int .i64 0, .int .i64 0] 26 2 rfl)
    have E0 := Lib.hid (balloc0 w (.cells #[.int .i64 0, .int .i64 0] 26))
    have T0_0 := Lib.hid (there_below T0_0.out (balloc0 (w.alloc (.cells #[.int .i64 0, .int .i64 0] 26)) (.cells #[.int .i64 0, .int .i64 0] 26)))
    have T1' := there_new (w.alloc (.cells #[.int .i64 0, .int .i64 0] 26)) #[.int .i64 0, .int .i64 0] 26 2 rfl
    rw [World.size_alloc] at T1'
    have T1_0 := Lib.hid T1'
    clear T1'
    have E0 := Lib.hid (balloc E0.out (.cells #[.int .i64 0, .int .i64 0] 26))
    go_enter Try.func52, Try.ntmps52
    go_wp2_with (go_at_call 91; refine (within_impl _ _ _ _).mono ?_; rintro e w' ⟨rfl, rfl⟩)
    refine (M1.out _).mono ?_
    rintro e w1 ⟨rfl, hb1⟩
    have E1 := Lib.hid (bnext E0.out hb1)
    have T0_1 := Lib.hid (there_below T0_0.out hb1)
    have T1_1 := Lib.hid (there_below T1_0.out hb1)
    clear hb1
    obtain ⟨u00, x00, y00⟩ := there_at T0_1.out (show 0 < 2 by omega)
    obtain ⟨u01, x01, y01⟩ := there_at T0_1.out (show 1 < 2 by omega)
    obtain ⟨u10, x10, y10⟩ := there_at T1_1.out (show 0 < 2 by omega)
    obtain ⟨u11, x11, y11⟩ := there_at T1_1.out (show 1 < 2 by omega)
    go_wp2_with fail
    refine (M2.out _).mono ?_
    rintro e w2 ⟨rfl, hb2⟩
    have E2 := Lib.hid (bnext E1.out hb2)
    have T0_2 := Lib.hid (there_below T0_1.out hb2)
    have T1_2 := Lib.hid (there_below T1_1.out hb2)
    clear x00 y00 x01 y01 x10 y10 x11 y11
    clear hb2
    obtain ⟨u00, x00, y00⟩ := there_at T0_2.out (show 0 < 2 by omega)
    obtain ⟨u01, x01, y01⟩ := there_at T0_2.out (show 1 < 2 by omega)
    obtain ⟨u10, x10, y10⟩ := there_at T1_2.out (show 0 < 2 by omega)
    obtain ⟨u11, x11, y11⟩ := there_at T1_2.out (show 1 < 2 by omega)
    go_wp2
    refine bodyPost_ret (v := .tuple #[.agg #[.int .i64 U1, .int .i64 V1], .agg #[.int .i64 U2, .int .i64 V2], .int .i64 0]) (by simp [results, Try.results52, go_sem, x00, x01, x10, x11]) rfl ⟨arf2 F.out.1 F.out.2.1 F.out.2.2.1 F.out.2.2.2.1 F.out.2.2.2.2, ?_⟩
    exact ((((E2.out).setCell (by simp <;> omega) _).setCell (by simp <;> omega) _).setCell (by simp <;> omega) _).setCell (by simp <;> omega) _
end Go.Proofs.Ytdhikdaegmekbab
