/-
  MustTaper: contracts of the program and of the model.
-/
import Derived.Test.YtdhikdaegmekbabArU
namespace Go.Proofs.Ytdhikdaegmekbab
open Go.ChangeShapes Go.WideShapes Go.ChangeAt Go.RowKit Go.Joins


theorem jn_bounds {X B n : Int} (b0 : 0 ≤ B ∧ B ≤ 250) (n0 : 1 ≤ n ∧ n ≤ 506) (x0 : 0 ≤ X ∧ X ≤ 6000) : -20000000 ≤ jN X B n ∧ jN X B n ≤ 20000000 ∧ 0 < jD X B n ∧ jD X B n ≤ 57178 := by
  obtain ⟨b0, b1⟩ := b0
  obtain ⟨n0, n1⟩ := n0
  obtain ⟨x0, x1⟩ := x0
  have m0 : 0 ≤ 113 * n * B := Int.mul_nonneg (by omega) b0
  have m1 : 113 * n * B ≤ 14294500 := Int.le_trans (Int.mul_le_mul (show 113 * n ≤ 57178 by omega) b1 b0 (by omega)) (by omega)
  obtain ⟨p, q, r, s⟩ := low_bound (355 * X - 113 * n * B) (113 * n) (by omega) 20000000 (by omega) (by omega)
  exact ⟨p, q, r, by have : jD X B n ≤ 113 * n := s; omega⟩
theorem muC_cases (R D B J m : Int) : (okR R D B J = false ∧ rC R D B J = 1 ∧ muC R D B J m = 1 ∧ muB R D B J m = false) ∨ (okR R D B J = true ∧ inB m 1 100 = false ∧ muC R D B J m = 2 ∧ muB R D B J m = false) ∨ (okR R D B J = true ∧ inB m 1 100 = true ∧ ¬ rC R D B J = 0 ∧ muC R D B J m = rC R D B J ∧ muB R D B J m = false) ∨ (okR R D B J = true ∧ inB m 1 100 = true ∧ rC R D B J = 0 ∧ muC R D B J m = 0 ∧ muB R D B J m = decide (m * jD (R + D) B (rN R D B J) < jN (R + D) B (rN R D B J))) := by
  cases h1 : okR R D B J
  · exact .inl ⟨rfl, by simp [rC, h1], by simp [muC, h1], by simp [muB, muC, h1]⟩
  · cases h2 : inB m 1 100
    · exact .inr (.inl ⟨rfl, rfl, by simp [muC, h1, h2], by simp [muB, muC, h1, h2]⟩)
    · by_cases h3 : rC R D B J = 0
      · exact .inr (.inr (.inr ⟨rfl, rfl, h3, by simp [muC, h1, h2, h3], by simp [muB, muC, h1, h2, h3]⟩))
      · exact .inr (.inr (.inl ⟨rfl, rfl, h3, by simp [muC, h1, h2], by simp [muB, muC, h1, h2, h3]⟩))
set_option maxRecDepth 100000 in
set_option maxHeartbeats 6400000 in
theorem must_impl (R D B J m : Int) (w : World) : Calls Try.prog 51 #[.agg #[.int .i64 R, .int .i64 D, .int .i64 B, .int .i64 J], .int .i64 m] w fun e w' => e = .returned (.tuple #[.bool (muB R D B J m), .int .i64 (muC R D B J m)]) ∧ Below w.heap.size w w' := by
  have VR := Lib.hid (ring_valid_impl R D B J)
  rcases muC_cases R D B J m with ⟨h1, h2, h3, h4⟩ | ⟨h1, h2, h3, h4⟩ | ⟨h1, h2, h3, h4, h5⟩ | ⟨h1, h2, h3, h4, h5⟩
  · rw [h3, h4]
    rw [h1] at VR
    have LY := Lib.hid (lay_none R D B J (by omega))
    rw [h2] at LY
    clear h1 h2 h3 h4
    have G0 := Lib.hid (range_new w #[.int .i64 R, .int .i64 D, .int .i64 B, .int .i64 J] 60)
    have E0 := Lib.hid (balloc0 w (.cells #[.int .i64 R, .int .i64 D, .int .i64 B, .int .i64 J] 60))
    go_enter Try.func51, Try.ntmps51
    go_wp2_with fail
    refine (VR.out _).mono ?_
    rintro e w1 ⟨rfl, hb1⟩
    have G1 := Lib.hid (range_below G0.out hb1)
    have E1 := Lib.hid (bnext E0.out hb1)
    have z1 : w.heap.size ≤ w1.heap.size := by have := hb1.size; (try simp at this); omega
    clear hb1
    have k0 := G1.out 0 _ rfl
    have k1 := G1.out 1 _ rfl
    have k2 := G1.out 2 _ rfl
    have k3 := G1.out 3 _ rfl
    simp only [Nat.zero_add] at k0 k1 k2 k3
    go_wp2_with fail
    refine (LY.out _).mono ?_
    rintro e w2 ⟨rfl, hb2⟩
    have G2 := Lib.hid (range_below G1.out hb2)
    have E2 := Lib.hid (bnext E1.out hb2)
    have z2 : w1.heap.size ≤ w2.heap.size := by have := hb2.size; (try simp at this); omega
    clear hb2
    clear k0 k1 k2 k3
    have k0 := G2.out 0 _ rfl
    have k1 := G2.out 1 _ rfl
    have k2 := G2.out 2 _ rfl
    have k3 := G2.out 3 _ rfl
    simp only [Nat.zero_add] at k0 k1 k2 k3
    go_wp2
    refine bodyPost_ret (v := .tuple #[.bool false, .int .i64 1]) (by simp [results, Try.results51, go_sem]) rfl ⟨rfl, ?_⟩
    exact balloc E2.out _
  · rw [h3, h4]
    rw [h1] at VR
    have HI := Lib.hid h2
    clear h1 h2 h3 h4
    have G0 := Lib.hid (range_new w #[.int .i64 R, .int .i64 D, .int .i64 B, .int .i64 J] 60)
    have E0 := Lib.hid (balloc0 w (.cells #[.int .i64 R, .int .i64 D, .int .i64 B, .int .i64 J] 60))
    go_enter Try.func51, Try.ntmps51
    go_wp2_with fail
    refine (VR.out _).mono ?_
    rintro e w1 ⟨rfl, hb1⟩
    have G1 := Lib.hid (range_below G0.out hb1)
    have E1 := Lib.hid (bnext E0.out hb1)
    have z1 : w.heap.size ≤ w1.heap.size := by have := hb1.size; (try simp at this); omega
    clear hb1
    have k0 := G1.out 0 _ rfl
    have k1 := G1.out 1 _ rfl
    have k2 := G1.out 2 _ rfl
    have k3 := G1.out 3 _ rfl
    simp only [Nat.zero_add] at k0 k1 k2 k3
    go_wp2_with (go_at_call 91; refine (within_impl _ _ _ _).mono ?_; rintro e w' ⟨rfl, rfl⟩; rw [HI.out])
    try go_wp2
    refine bodyPost_ret (v := .tuple #[.bool false, .int .i64 2]) (by simp [results, Try.results51, go_sem]) rfl ⟨rfl, ?_⟩
    exact E1.out
  · rw [h4, h5]
    rw [h1] at VR
    have HI := Lib.hid h2
    have LY := Lib.hid (lay_none R D B J h3)
    obtain ⟨c, hc⟩ : ∃ c, rC R D B J = c := ⟨_, rfl⟩
    rw [hc] at LY h3 ⊢
    clear hc h1 h2 h4 h5
    have G0 := Lib.hid (range_new w #[.int .i64 R, .int .i64 D, .int .i64 B, .int .i64 J] 60)
    have E0 := Lib.hid (balloc0 w (.cells #[.int .i64 R, .int .i64 D, .int .i64 B, .int .i64 J] 60))
    go_enter Try.func51, Try.ntmps51
    go_wp2_with fail
    refine (VR.out _).mono ?_
    rintro e w1 ⟨rfl, hb1⟩
    have G1 := Lib.hid (range_below G0.out hb1)
    have E1 := Lib.hid (bnext E0.out hb1)
    have z1 : w.heap.size ≤ w1.heap.size := by have := hb1.size; (try simp at this); omega
    clear hb1
    have k0 := G1.out 0 _ rfl
    have k1 := G1.out 1 _ rfl
    have k2 := G1.out 2 _ rfl
    have k3 := G1.out 3 _ rfl
    simp only [Nat.zero_add] at k0 k1 k2 k3
    go_wp2_with (go_at_call 91; refine (within_impl _ _ _ _).mono ?_; rintro e w' ⟨rfl, rfl⟩; rw [HI.out])
    refine (LY.out _).mono ?_
    rintro e w2 ⟨rfl, hb2⟩
    have G2 := Lib.hid (range_below G1.out hb2)
    have E2 := Lib.hid (bnext E1.out hb2)
    have z2 : w1.heap.size ≤ w2.heap.size := by have := hb2.size; (try simp at this); omega
    clear hb2
    clear k0 k1 k2 k3
    have k0 := G2.out 0 _ rfl
    have k1 := G2.out 1 _ rfl
    have k2 := G2.out 2 _ rfl
    have k3 := G2.out 3 _ rfl
    simp only [Nat.zero_add] at k0 k1 k2 k3
    go_wp2
    refine bodyPost_ret (v := .tuple #[.bool false, .int .i64 c]) (by simp [results, Try.results51, go_sem]) rfl ⟨rfl, ?_⟩
    exact balloc E2.out _
  · rw [h4, h5]
    rw [h1] at VR
    have HI := Lib.hid h2
    have LY := Lib.hid (lay_some R D B J h3)
    obtain ⟨-, g0, g1⟩ := rN_some h3
    obtain ⟨⟨r0, r1⟩, ⟨d0, d1⟩, ⟨b0, b1⟩, -⟩ := okR_true.1 h1
    obtain ⟨m0, m1⟩ := inB_true.1 h2
    have OJ := Lib.hid (outer_impl R D B J (rN R D B J) ⟨by omega, r1⟩ ⟨by omega, b1⟩ ⟨g0, g1⟩ ⟨by omega, d1⟩)
    obtain ⟨u0, u1, v0, v1⟩ := jn_bounds (X := R + D) ⟨by omega, b1⟩ ⟨g0, g1⟩ ⟨by omega, by omega⟩
    obtain ⟨n, hn⟩ : ∃ n, rN R D B J = n := ⟨_, rfl⟩
    rw [hn] at LY OJ u0 u1 v0 v1 ⊢
    obtain ⟨U, hU⟩ : ∃ U, jN (R + D) B n = U := ⟨_, rfl⟩
    obtain ⟨V, hV⟩ : ∃ U, jD (R + D) B n = U := ⟨_, rfl⟩
    rw [hU] at u0 u1
    rw [hV] at v0 v1
    rw [hU, hV] at OJ ⊢
    have p0 : 0 ≤ m * V := Int.mul_nonneg (by omega) (by omega)
    have p1 : m * V ≤ 5717800 := Int.le_trans (Int.mul_le_mul m1 v1 (by omega) (by omega)) (by omega)
    have CM := Lib.hid (arcmp_impl U V m 1 ⟨by omega, by omega⟩ ⟨by omega, by omega⟩)
    obtain ⟨q, hq⟩ : ∃ q, cmpI (U * 1) (m * V) = q := ⟨_, rfl⟩
    rw [hq] at CM
    have hd : decide (m * V < U) = decide (0 < q) := by
      have : m * V < U ↔ 0 < q := by
        rw [← hq]
        rcases Int.lt_trichotomy (U * 1) (m * V) with h | h | h
        · rw [cmpI_lt h]; omega
        · rw [cmpI_eq h]; omega
        · rw [cmpI_gt h]; omega
      simp [this]
    rw [hd]
    have WH := Lib.hid (whole_impl m)
    clear hn hU hV hq hd h1 h2 h3 h4 h5 g0 g1 p0 p1 u0 u1 v0 v1
    by_cases hq : 0 < q
    all_goals
      have G0 := Lib.hid (range_new w #[.int .i64 R, .int .i64 D, .int .i64 B, .int .i64 J] 60)
      have E0 := Lib.hid (balloc0 w (.cells #[.int .i64 R, .int .i64 D, .int .i64 B, .int .i64 J] 60))
      go_enter Try.func51, Try.ntmps51
      go_wp2_with fail
      refine (VR.out _).mono ?_
      rintro e w1 ⟨rfl, hb1⟩
      have G1 := Lib.hid (range_below G0.out hb1)
      have E1 := Lib.hid (bnext E0.out hb1)
      have z1 : w.heap.size ≤ w1.heap.size := by have := hb1.size; (try simp at this); omega
      clear hb1
      have k0 := G1.out 0 _ rfl
      have k1 := G1.out 1 _ rfl
      have k2 := G1.out 2 _ rfl
      have k3 := G1.out 3 _ rfl
      simp only [Nat.zero_add] at k0 k1 k2 k3
      go_wp2_with (go_at_call 91; refine (within_impl _ _ _ _).mono ?_; rintro e w' ⟨rfl, rfl⟩; rw [HI.out])
      refine (LY.out _).mono ?_
      rintro e w2 ⟨rfl, hb2⟩
      have G2 := Lib.hid (range_below G1.out hb2)
      have E2 := Lib.hid (bnext E1.out hb2)
      have z2 : w1.heap.size ≤ w2.heap.size := by have := hb2.size; (try simp at this); omega
      clear hb2
      clear k0 k1 k2 k3
      have k0 := G2.out 0 _ rfl
      have k1 := G2.out 1 _ rfl
      have k2 := G2.out 2 _ rfl
      have k3 := G2.out 3 _ rfl
      simp only [Nat.zero_add] at k0 k1 k2 k3
      have E2' := Lib.hid (balloc E2.out (.cells #[.int .i64 R, .int .i64 D, .int .i64 B, .int .i64 J, .int .i64 n] 110))
      clear k0 k1 k2 k3
      go_wp2_with fail
      refine (OJ.out _).mono ?_
      rintro e w3 ⟨rfl, hb3⟩
      have E3 := Lib.hid (bnext E2'.out hb3)
      clear hb3
      go_wp2_with fail
      refine (WH.out _).mono ?_
      rintro e w4 ⟨rfl, hb4⟩
      have E4 := Lib.hid (bnext E3.out hb4)
      clear hb4
      go_wp2_with fail
      refine (CM.out _).mono ?_
      rintro e w5 ⟨rfl, hb5⟩
      have E5 := Lib.hid (bnext E4.out hb5)
      clear hb5
      go_wp2
      refine bodyPost_ret (v := .tuple #[.bool (decide (0 < q)), .int .i64 0]) (by simp [results, Try.results51, go_sem]; try omega) rfl ⟨rfl, E5.out⟩
end Go.Proofs.Ytdhikdaegmekbab
