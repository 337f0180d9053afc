/-
  Numbers of courses that fit: small functions of both sides.
-/
import Derived.Test.YtlglijalhacmhabGm
import Derived.Test.YtlglijalhacmhabCmp
namespace Go.Proofs.Ytlglijalhacmhab
open Go.ChangeShapes Go.WideShapes Go.ChangeAt Go.RowKit Go.Joins

def bdB (least most : Int) : Bool := inB most 0 40 && inB least 0 most
theorem bdB_true {least most : Int} : bdB least most = true ↔ (0 ≤ most ∧ most ≤ 40) ∧ (0 ≤ least ∧ least ≤ most) := by simp [bdB, inB_true]
def fitB (ht H least most n : Int) : Bool := inB (H - n * ht) (n * least) (n * most)
def gszQ (n : Int) : Int := if n < 0 then -n else n
set_option maxRecDepth 100000 in
set_option maxHeartbeats 6400000 in
theorem beds_impl (least most : Int) (w : World) : Calls Try.prog 114 #[.int .i64 least, .int .i64 most] w fun e w' => e = .returned (.bool (bdB least most)) ∧ w = w' := by
  cases h : inB most 0 40
  · have hb : bdB least most = false := by simp [bdB, h]
    rw [hb]
    go_enter Try.func114, Try.ntmps114
    go_wp2_with (go_at_call 74; refine (within_impl _ _ _ _).mono ?_; rintro e w' ⟨rfl, rfl⟩)
    try simp only [h]
    try go_wp2_with (go_at_call 74; refine (within_impl _ _ _ _).mono ?_; rintro e w' ⟨rfl, rfl⟩)
    go_ret
    exact ⟨rfl, rfl⟩
  · have hb : bdB least most = inB least 0 most := by simp [bdB, h]
    rw [hb]
    go_enter Try.func114, Try.ntmps114
    go_wp2_with (go_at_call 74; refine (within_impl _ _ _ _).mono ?_; rintro e w' ⟨rfl, rfl⟩)
    try simp only [h]
    try go_wp2_with (go_at_call 74; refine (within_impl _ _ _ _).mono ?_; rintro e w' ⟨rfl, rfl⟩)
    go_ret
    exact ⟨rfl, rfl⟩
set_option maxRecDepth 100000 in
set_option maxHeartbeats 6400000 in
theorem gsize_spec (n : Int) (h0 : -1000000000 ≤ n) (h1 : n ≤ 1000000000) (w : World) : Calls Try.prog 109 #[.int .i64 n] w fun e w' => e = .returned (.int .i64 (gszQ n)) ∧ w = w' := by
  by_cases hn : n < 0
  · have e : gszQ n = -n := by simp [gszQ, hn]
    rw [e]
    go_enter Try.func109, Try.ntmps109
    go_wp2
    go_ret
    exact ⟨rfl, rfl⟩
  · have e : gszQ n = n := by simp [gszQ, hn]
    rw [e]
    go_enter Try.func109, Try.ntmps109
    go_wp2
    go_ret
    exact ⟨rfl, rfl⟩
set_option maxRecDepth 100000 in
set_option maxHeartbeats 6400000 in
theorem fits_spec (l wd ht j H least most n : Int) (hb : bdB least most = true) (ht0 : 0 ≤ ht) (ht1 : ht ≤ 100000) (H0 : 100 ≤ H) (H1 : H ≤ 6000) (n0 : 1 ≤ n) (n1 : n ≤ 40) (w : World) : Calls Try.prog 64 #[.agg #[.int .i64 l, .int .i64 wd, .int .i64 ht, .int .i64 j], .int .i64 H, .int .i64 least, .int .i64 most, .int .i64 n] w fun e w' => e = .returned (.bool (fitB ht H least most n)) ∧ Below w.heap.size w w' := by
  obtain ⟨⟨b0, b1⟩, b2, b3⟩ := bdB_true.1 hb
  have a0 : 0 ≤ n * ht := Int.mul_nonneg (by omega) ht0
  have a1 : n * ht ≤ 4000000 := Int.le_trans (Int.mul_le_mul n1 ht1 ht0 (by omega)) (by omega)
  have a2 : 0 ≤ n * least := Int.mul_nonneg (by omega) b2
  have a3 : n * least ≤ 1600 := Int.le_trans (Int.mul_le_mul n1 (show least ≤ 40 by omega) b2 (by omega)) (by omega)
  have a4 : 0 ≤ n * most := Int.mul_nonneg (by omega) b0
  have a5 : n * most ≤ 1600 := Int.le_trans (Int.mul_le_mul n1 b1 b0 (by omega)) (by omega)
  obtain ⟨f0, f1, f2, f3⟩ := FmBox.new w l wd ht j 51
  go_enter Try.func64, Try.ntmps64
  go_wp2_with (go_at_call 71; refine (in_any _ _ _ _).mono ?_; rintro e w' ⟨rfl, rfl⟩)
  go_ret
  exact ⟨rfl, balloc0 _ _⟩
set_option maxRecDepth 100000 in
set_option maxHeartbeats 6400000 in
theorem fits_impl (l wd ht j H least most n : Int) (bH bF bl bm : Nat) (hb : bdB least most = true) (ht0 : 0 ≤ ht) (ht1 : ht ≤ 100000) (n0 : 1 ≤ n) (n1 : n ≤ 40) (w : World)
    (cH : w.cell? ⟨bH, 0, none⟩ = some (.int .i64 H)) (cF : FmBox bF l wd ht j w) (cl : w.cell? ⟨bl, 0, none⟩ = some (.int .i64 least)) (cm : w.cell? ⟨bm, 0, none⟩ = some (.int .i64 most)) :
    Calls Try.prog 115 #[.int .i64 n, .pointer (some ⟨bH, 0, none⟩), .pointer (some ⟨bF, 0, none⟩), .pointer (some ⟨bl, 0, none⟩), .pointer (some ⟨bm, 0, none⟩)] w fun e w' => e = .returned (.bool (fitB ht H least most n)) ∧ Below w.heap.size w w' := by
  obtain ⟨⟨b0, b1⟩, b2, b3⟩ := bdB_true.1 hb
  have a0 : 0 ≤ n * ht := Int.mul_nonneg (by omega) ht0
  have a1 : n * ht ≤ 4000000 := Int.le_trans (Int.mul_le_mul n1 ht1 ht0 (by omega)) (by omega)
  have a2 : 0 ≤ n * least := Int.mul_nonneg (by omega) b2
  have a3 : n * least ≤ 1600 := Int.le_trans (Int.mul_le_mul n1 (show least ≤ 40 by omega) b2 (by omega)) (by omega)
  have a4 : 0 ≤ n * most := Int.mul_nonneg (by omega) b0
  have a5 : n * most ≤ 1600 := Int.le_trans (Int.mul_le_mul n1 b1 b0 (by omega)) (by omega)
  have m1 : n * (ht + least) = n * ht + n * least := Int.mul_add _ _ _
  have m2 : n * (ht + most) = n * ht + n * most := Int.mul_add _ _ _
  have hq : inB H (n * ht + n * least) (n * ht + n * most) = fitB ht H least most n := by
    unfold fitB
    apply Bool.eq_iff_iff.2
    rw [inB_true, inB_true]
    omega
  obtain ⟨f0, f1, f2, f3⟩ := cF
  go_enter Try.func115, Try.ntmps115
  go_wp2_with (go_at_call 74; refine (within_impl _ _ _ _).mono ?_; rintro e w' ⟨rfl, rfl⟩)
  go_ret
  exact ⟨rfl, Below.refl _ _⟩
def limC (l wd ht j H least most : Int) : Int := if okB l wd ht j = true then (if inB H 100 6000 = true then (if bdB least most = true then 0 else 2) else 2) else 1
set_option maxRecDepth 100000 in
set_option maxHeartbeats 6400000 in
theorem limits_spec (l wd ht j H least most : Int) (w : World) : Calls Try.prog 62 #[.agg #[.int .i64 l, .int .i64 wd, .int .i64 ht, .int .i64 j], .int .i64 H, .int .i64 least, .int .i64 most] w fun e w' => e = .returned (.int .i64 (limC l wd ht j H least most)) ∧ Below w.heap.size w w' := by
  have F0 := Lib.hid (FmBox.new w l wd ht j 51)
  obtain ⟨f0, f1, f2, f3⟩ := F0.out
  have V := Lib.hid (fun wx => l02ok l wd ht j wx)
  cases hv : okB l wd ht j
  · rw [hv] at V
    have hq : limC l wd ht j H least most = 1 := by simp [limC, hv]
    rw [hq]
    clear hq
    go_enter Try.func62, Try.ntmps62
    go_wp2_with fail
    refine (V.out _).mono ?_
    rintro e w1 ⟨rfl, hb1⟩
    go_wp2
    go_ret
    exact ⟨rfl, bnext (balloc0 _ _) hb1⟩
  · rw [hv] at V
    cases hh : inB H 100 6000
    · have hq : limC l wd ht j H least most = 2 := by simp [limC, hv, hh]
      rw [hq]
      clear hq
      go_enter Try.func62, Try.ntmps62
      go_wp2_with fail
      refine (V.out _).mono ?_
      rintro e w1 ⟨rfl, hb1⟩
      go_wp2_with (first | (go_at_call 107; refine (height_spec _ _).mono ?_; rintro e w' ⟨rfl, rfl⟩) | (go_at_call 71; refine (in_any _ _ _ _).mono ?_; rintro e w' ⟨rfl, rfl⟩))
      go_ret
      exact ⟨rfl, bnext (balloc0 _ _) hb1⟩
    · cases h0 : inB least 0 40
      · have hb : bdB least most = false := by
          cases hb : bdB least most
          · rfl
          · rw [bdB_true] at hb
            have : inB least 0 40 = true := by rw [inB_true]; omega
            rw [h0] at this
            cases this
        have hq : limC l wd ht j H least most = 2 := by simp [limC, hv, hh, hb]
        rw [hq]
        clear hq
        go_enter Try.func62, Try.ntmps62
        go_wp2_with fail
        refine (V.out _).mono ?_
        rintro e w1 ⟨rfl, hb1⟩
        go_wp2_with (first | (go_at_call 107; refine (height_spec _ _).mono ?_; rintro e w' ⟨rfl, rfl⟩) | (go_at_call 71; refine (in_any _ _ _ _).mono ?_; rintro e w' ⟨rfl, rfl⟩))
        go_ret
        exact ⟨rfl, bnext (balloc0 _ _) hb1⟩
      · have he : inB most least 40 = bdB least most := by
          rw [inB_true] at h0
          apply Bool.eq_iff_iff.2
          rw [inB_true, bdB_true]
          omega
        cases h1 : inB most least 40
        · rw [h1] at he
          have hq : limC l wd ht j H least most = 2 := by simp [limC, hv, hh, ← he]
          rw [hq]
          clear hq he
          go_enter Try.func62, Try.ntmps62
          go_wp2_with fail
          refine (V.out _).mono ?_
          rintro e w1 ⟨rfl, hb1⟩
          go_wp2_with (first | (go_at_call 107; refine (height_spec _ _).mono ?_; rintro e w' ⟨rfl, rfl⟩) | (go_at_call 71; refine (in_any _ _ _ _).mono ?_; rintro e w' ⟨rfl, rfl⟩))
          go_ret
          exact ⟨rfl, bnext (balloc0 _ _) hb1⟩
        · rw [h1] at he
          have hq : limC l wd ht j H least most = 0 := by simp [limC, hv, hh, ← he]
          rw [hq]
          clear hq he
          go_enter Try.func62, Try.ntmps62
          go_wp2_with fail
          refine (V.out _).mono ?_
          rintro e w1 ⟨rfl, hb1⟩
          go_wp2_with (first | (go_at_call 107; refine (height_spec _ _).mono ?_; rintro e w' ⟨rfl, rfl⟩) | (go_at_call 71; refine (in_any _ _ _ _).mono ?_; rintro e w' ⟨rfl, rfl⟩))
          go_ret
          exact ⟨rfl, bnext (balloc0 _ _) hb1⟩
set_option maxRecDepth 100000 in
set_option maxHeartbeats 6400000 in
theorem fcmp_impl (a b c d : Int) (a0 : -1000000 ≤ a ∧ a ≤ 1000000) (b0 : 0 ≤ b ∧ b ≤ 1000000) (c0 : -1000000 ≤ c ∧ c ≤ 1000000) (d0 : 0 ≤ d ∧ d ≤ 1000000) (w : World) : Calls Try.prog 118 #[.agg #[.int .i64 a, .int .i64 b], .agg #[.int .i64 c, .int .i64 d]] w fun e w' => e = .returned (.int .i64 (cmpI (a * d) (c * b))) ∧ Below w.heap.size w w' := by
  have m0 : -1000000000000 ≤ a * d ∧ a * d ≤ 1000000000000 := by
    have h1 := Int.mul_le_mul_of_nonneg_right a0.2 d0.1
    have h2 := Int.mul_le_mul_of_nonneg_right a0.1 d0.1
    omega
  have m1 : -1000000000000 ≤ c * b ∧ c * b ≤ 1000000000000 := by
    have h1 := Int.mul_le_mul_of_nonneg_right c0.2 b0.1
    have h2 := Int.mul_le_mul_of_nonneg_right c0.1 b0.1
    omega
  obtain ⟨m2, m3⟩ := m0
  obtain ⟨m4, m5⟩ := m1
  have C1 := Lib.hid (cmp_impl (a * d) (c * b))
  go_enter Try.func118, Try.ntmps118
  go_wp2_with (go_at_call 144; refine (C1.out _).mono ?_; rintro e w2 ⟨rfl, rfl⟩)
  go_ret
  exact ⟨rfl, balloc (balloc0 _ _) _⟩
end Go.Proofs.Ytlglijalhacmhab
