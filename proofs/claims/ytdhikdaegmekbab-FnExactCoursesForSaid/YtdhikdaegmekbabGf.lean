/-
  The best number of courses: the model's word.
-/
import Derived.Test.YtdhikdaegmekbabGb
namespace Go.Proofs.Ytdhikdaegmekbab
open Go.ChangeShapes Go.WideShapes Go.ChangeAt Go.RowKit Go.Joins

def nrB (ht j H b n : Int) : Bool := decide (b = 0) || decide (gszQ (H - n * (ht + j)) * b < gszQ (H - b * (ht + j)) * n)
def stepB (ht j H least most b n : Int) : Int := if fitB ht H least most n = true then (if nrB ht j H b n = true then n else b) else b
def bestF (ht j H least most : Int) : Nat → Int
  | 0 => 0
  | k + 1 => stepB ht j H least most (bestF ht j H least most k) ((k : Int) + 1)
theorem bestF_range (ht j H least most : Int) (k : Nat) : 0 ≤ bestF ht j H least most k ∧ bestF ht j H least most k ≤ k := by
  induction k with
  | zero => simp [bestF]
  | succ k ih =>
    show 0 ≤ stepB _ _ _ _ _ _ _ ∧ stepB _ _ _ _ _ _ _ ≤ _
    unfold stepB
    split
    · split <;> omega
    · omega
def cfC (l wd ht j H least most : Int) : Int := if limC l wd ht j H least most = 0 then (if bestF ht j H least most 40 = 0 then 3 else 0) else limC l wd ht j H least most
def cfN (l wd ht j H least most : Int) : Int := if limC l wd ht j H least most = 0 then bestF ht j H least most 40 else 0
theorem limC_ok {l wd ht j H least most : Int} (h : limC l wd ht j H least most = 0) : okB l wd ht j = true ∧ (100 ≤ H ∧ H ≤ 6000) ∧ bdB least most = true := by
  unfold limC at h
  split at h
  · rename_i h1
    split at h
    · rename_i h2
      split at h
      · rename_i h3
        exact ⟨h1, inB_true.1 h2, h3⟩
      · cases h
    · cases h
  · cases h
theorem gsz_range {x m : Int} (h0 : -m ≤ x) (h1 : x ≤ m) : 0 ≤ gszQ x ∧ gszQ x ≤ m := by
  unfold gszQ
  split <;> omega
set_option maxRecDepth 100000 in
set_option maxHeartbeats 6400000 in
theorem coursesFor_spec (l wd ht j H least most : Int) (w : World) : Calls Try.prog 36 #[.agg #[.int .i64 l, .int .i64 wd, .int .i64 ht, .int .i64 j], .int .i64 H, .int .i64 least, .int .i64 most] w fun e w' => e = .returned (.tuple #[.int .i64 (cfN l wd ht j H least most), .int .i64 (cfC l wd ht j H least most)]) ∧ Below w.heap.size w w' := by
  have F0 := Lib.hid (FmBox.new w l wd ht j 41)
  have LM := Lib.hid (fun wx => limits_spec l wd ht j H least most wx)
  obtain ⟨f0, f1, f2, f3⟩ := F0.out
  by_cases hc : limC l wd ht j H least most = 0
  · obtain ⟨h1, ⟨H0, H1⟩, hb⟩ := limC_ok hc
    have hC : cfC l wd ht j H least most = (if bestF ht j H least most 40 = 0 then 3 else 0) := by unfold cfC; rw [if_pos hc]
    have hN : cfN l wd ht j H least most = bestF ht j H least most 40 := by unfold cfN; rw [if_pos hc]
    rw [hC, hN]
    rw [hc] at LM
    have hfm : (0 ≤ ht ∧ ht ≤ 150) ∧ (0 ≤ j ∧ j ≤ 20) := by
      obtain ⟨-, -, g, h, -⟩ := okB_true.1 h1
      omega
    obtain ⟨⟨g0, g1⟩, g2, g3⟩ := hfm
    have FS := Lib.hid (fun n (n0 : 1 ≤ n) (n1 : n ≤ 40) wx => fits_spec l wd ht j H least most n hb g0 (by omega) H0 H1 n0 n1 wx)
    obtain ⟨bz, hbz⟩ : ∃ z, bestF ht j H least most 40 = z := ⟨_, rfl⟩
    rw [hbz]
    have HBZ := Lib.hid hbz
    clear hC hN hc h1 hb hbz
    go_enter Try.func36, Try.ntmps36
    go_wp2_with fail
    refine (LM.out _).mono ?_
    rintro e w1 ⟨rfl, hb1⟩
    have B1 := Lib.hid (bnext (balloc0 w _) hb1)
    have F1 := Lib.hid (F0.out.later hb1)
    clear hb1 f0 f1 f2 f3
    go_wp2
    go_loopw [11, 12] (fun bv i wr => ∃ (k : Nat), k ≤ 40 ∧ bv = .int .i64 (bestF ht j H least most k) ∧ i = .int .i64 ((k : Int) + 1) ∧ Hid (Below w.heap.size w wr) ∧ Hid (FmBox w.heap.size l wd ht j wr)) (fun _ i _ => 41 - (intOf i).toNat)
    case atStart => exact ⟨0, by omega, rfl, rfl, B1.out, F1.out⟩
    case round =>
      obtain ⟨k, hk, rfl, rfl, hB, hF⟩ := hrel
      obtain ⟨b0, b1⟩ := bestF_range ht j H least most k
      by_cases hlt : k < 40
      · have hlt' : (k : Int) + 1 ≤ 40 := by omega
        have n0 : (1 : Int) ≤ (k : Int) + 1 := by omega
        have M := Lib.hid (fun wx => FS.out ((k : Int) + 1) n0 hlt' wx)
        have HS : Hid (bestF ht j H least most (k + 1) = stepB ht j H least most (bestF ht j H least most k) ((k : Int) + 1)) := rfl
        obtain ⟨b, hb⟩ : ∃ b, bestF ht j H least most k = b := ⟨_, rfl⟩
        rw [hb] at b0 b1 HS
        rw [hb]
        clear hb
        obtain ⟨f0, f1, f2, f3⟩ := hF.out
        cases hfit : fitB ht H least most ((k : Int) + 1)
        · rw [hfit] at M
          have HN : Hid (bestF ht j H least most (k + 1) = b) := by show _ = _; rw [HS.out]; simp [stepB, hfit]
          clear hfit
          go_wp2_with fail
          refine (M.out _).mono ?_
          rintro e w2 ⟨rfl, hb2⟩
          have B2 := Lib.hid (bnext hB.out hb2)
          have F2 := Lib.hid (hF.out.later hb2)
          clear hb2
          go_wp2
          go_roundw
          case rel => exact ⟨k + 1, by omega, by rw [HN.out], by go_num, B2.out, F2.out⟩
          case measure => simp [intOf]; omega
        · rw [hfit] at M
          have p0 : 0 ≤ ((k : Int) + 1) * (ht + j) := Int.mul_nonneg (by omega) (by omega)
          have p1 : ((k : Int) + 1) * (ht + j) ≤ 6800 := Int.le_trans (Int.mul_le_mul hlt' (show ht + j ≤ 170 by omega) (by omega) (by omega)) (by omega)
          have q0 : 0 ≤ b * (ht + j) := Int.mul_nonneg b0 (by omega)
          have q1 : b * (ht + j) ≤ 6800 := Int.le_trans (Int.mul_le_mul (show b ≤ 40 by omega) (show ht + j ≤ 170 by omega) (by omega) (by omega)) (by omega)
          have s1 := gsize_spec (H - ((k : Int) + 1) * (ht + j)) (by omega) (by omega)
          have s2 := gsize_spec (H - b * (ht + j)) (by omega) (by omega)
          have z1 := gsz_range (m := 6800) (show -6800 ≤ H - ((k : Int) + 1) * (ht + j) by omega) (by omega)
          have z2 := gsz_range (m := 6800) (show -6800 ≤ H - b * (ht + j) by omega) (by omega)
          have hst : stepB ht j H least most b ((k : Int) + 1) = (if nrB ht j H b ((k : Int) + 1) = true then (k : Int) + 1 else b) := by simp [stepB, hfit]
          have hnr : nrB ht j H b ((k : Int) + 1) = (decide (b = 0) || decide (gszQ (H - ((k : Int) + 1) * (ht + j)) * b < gszQ (H - b * (ht + j)) * ((k : Int) + 1))) := rfl
          rw [hst, hnr] at HS
          obtain ⟨x1, hx1⟩ : ∃ x, gszQ (H - ((k : Int) + 1) * (ht + j)) = x := ⟨_, rfl⟩
          obtain ⟨x2, hx2⟩ : ∃ x, gszQ (H - b * (ht + j)) = x := ⟨_, rfl⟩
          rw [hx1] at s1 z1 HS
          rw [hx2] at s2 z2 HS
          obtain ⟨z10, z11⟩ := z1
          obtain ⟨z20, z21⟩ := z2
          have S1 := Lib.hid s1
          have S2 := Lib.hid s2
          have y0 : 0 ≤ x1 * b := Int.mul_nonneg z10 b0
          have y1 : x1 * b ≤ 272000 := Int.le_trans (Int.mul_le_mul z11 (show b ≤ 40 by omega) b0 (by omega)) (by omega)
          have y2 : 0 ≤ x2 * ((k : Int) + 1) := Int.mul_nonneg z20 (by omega)
          have y3 : x2 * ((k : Int) + 1) ≤ 272000 := Int.le_trans (Int.mul_le_mul z21 hlt' (by omega) (by omega)) (by omega)
          clear hst hnr hx1 hx2 hfit s1 s2
          by_cases hb0 : b = 0
          · subst hb0
            have HN : Hid (bestF ht j H least most (k + 1) = (k : Int) + 1) := by show _ = _; rw [HS.out]; simp
            have s2' := S2.out
            rw [Int.zero_mul, Int.sub_zero] at s2'
            have S2 := Lib.hid s2'
            clear y0 y1 q0 q1 s2'
            go_wp2_with fail
            refine (M.out _).mono ?_
            rintro e w2 ⟨rfl, hb2⟩
            have B2 := Lib.hid (bnext hB.out hb2)
            have F2 := Lib.hid (hF.out.later hb2)
            clear hb2 f0 f1 f2 f3
            obtain ⟨f0, f1, f2, f3⟩ := F2.out
            go_wp2_with (go_at_call 78; first | (refine (S1.out _).mono ?_; rintro e w3 ⟨rfl, rfl⟩) | (refine (S2.out _).mono ?_; rintro e w4 ⟨rfl, rfl⟩))
            go_roundw
            case rel => exact ⟨k + 1, by omega, by rw [HN.out], by go_num, B2.out, F2.out⟩
            case measure => simp [intOf]; omega
          · obtain ⟨Y1, ey1⟩ : ∃ y, x1 * b = y := ⟨_, rfl⟩
            obtain ⟨Y2, ey2⟩ : ∃ y, x2 * ((k : Int) + 1) = y := ⟨_, rfl⟩
            rw [ey1, ey2] at HS
            rw [ey1] at y0 y1
            rw [ey2] at y2 y3
            by_cases hx : Y1 < Y2
            · have HN : Hid (bestF ht j H least most (k + 1) = (k : Int) + 1) := by show _ = _; rw [HS.out]; simp [hx]
              have hb0b : (b == 0) = false := by simpa using hb0
              have hxb : decide (Y1 < Y2) = true := by simpa using hx
              have h5 : (b == 0 || decide (Y1 < Y2)) = true := by rw [hb0b, hxb]; rfl
              go_wp2_with fail
              refine (M.out _).mono ?_
              rintro e w2 ⟨rfl, hb2⟩
              have B2 := Lib.hid (bnext hB.out hb2)
              have F2 := Lib.hid (hF.out.later hb2)
              clear hb2 f0 f1 f2 f3
              obtain ⟨f0, f1, f2, f3⟩ := F2.out
              go_wp2_with (go_at_call 78; first | (refine (S1.out _).mono ?_; rintro e w3 ⟨rfl, rfl⟩) | (refine (S2.out _).mono ?_; rintro e w4 ⟨rfl, rfl⟩))
              all_goals try omega
              go_roundw
              case rel => exact ⟨k + 1, by omega, by rw [HN.out], by go_num, B2.out, F2.out⟩
              case measure => simp [intOf]; omega
            · have HN : Hid (bestF ht j H least most (k + 1) = b) := by show _ = _; rw [HS.out]; simp [hx, hb0]
              have hb0b : (b == 0) = false := by simpa using hb0
              have hxb : decide (Y1 < Y2) = false := by simpa using hx
              have h5 : (b == 0 || decide (Y1 < Y2)) = false := by rw [hb0b, hxb]; rfl
              go_wp2_with fail
              refine (M.out _).mono ?_
              rintro e w2 ⟨rfl, hb2⟩
              have B2 := Lib.hid (bnext hB.out hb2)
              have F2 := Lib.hid (hF.out.later hb2)
              clear hb2 f0 f1 f2 f3
              obtain ⟨f0, f1, f2, f3⟩ := F2.out
              go_wp2_with (go_at_call 78; first | (refine (S1.out _).mono ?_; rintro e w3 ⟨rfl, rfl⟩) | (refine (S2.out _).mono ?_; rintro e w4 ⟨rfl, rfl⟩))
              all_goals try (exfalso; rename_i hh; rcases hh with hh | hh; exact hb0 (by simpa using hh); omega)
              go_roundw
              case rel => exact ⟨k + 1, by omega, by rw [HN.out], by go_num, B2.out, F2.out⟩
              case measure => simp [intOf]; omega
      · have hge : ¬ (k : Int) + 1 ≤ 40 := by omega
        obtain rfl : k = 40 := by omega
        rw [HBZ.out] at b0 b1 ⊢
        clear HBZ
        by_cases hz : bz = 0
        · subst hz
          go_wp2
          go_ret2
          exact ⟨rfl, hB.out⟩
        · go_wp2
          go_ret2
          exact ⟨by simp, hB.out⟩
  · have hC : cfC l wd ht j H least most = limC l wd ht j H least most := by unfold cfC; rw [if_neg hc]
    have hN : cfN l wd ht j H least most = 0 := by unfold cfN; rw [if_neg hc]
    rw [hC, hN]
    obtain ⟨q, hq⟩ : ∃ q, limC l wd ht j H least most = q := ⟨_, rfl⟩
    rw [hq] at hc LM ⊢
    clear hC hN hq
    go_enter Try.func36, Try.ntmps36
    go_wp2_with fail
    refine (LM.out _).mono ?_
    rintro e w1 ⟨rfl, hb1⟩
    go_wp2
    go_ret2
    exact ⟨rfl, bnext (balloc0 _ _) hb1⟩
end Go.Proofs.Ytdhikdaegmekbab
