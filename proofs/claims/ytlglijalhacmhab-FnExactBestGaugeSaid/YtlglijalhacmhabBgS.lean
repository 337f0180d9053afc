/-
  The gauge for which levels are best: the model's word.
-/
import Derived.Test.YtlglijalhacmhabBgP
namespace Go.Proofs.Ytlglijalhacmhab
open Go.ChangeShapes Go.WideShapes Go.ChangeAt Go.RowKit Go.Joins

set_option maxRecDepth 100000 in
set_option maxHeartbeats 6400000 in
theorem bestGauge_spec (l wd ht j H least most : Int) (L : List Int) (a : Option Addr) (cap : Nat) (hl : L.length ≤ 1048576) (w : World) (ha : IntArg w a L) : Calls Try.prog 31 #[.agg #[.int .i64 l, .int .i64 wd, .int .i64 ht, .int .i64 j], .int .i64 H, .int .i64 least, .int .i64 most, .slice a L.length cap] w fun e w' => e = .returned (.tuple #[.int .i64 (bgN l wd ht j H least most L), .int .i64 (bgC l wd ht j H least most L)]) ∧ Below w.heap.size w w' := by
  have F0 := Lib.hid (FmBox.new w l wd ht j 51)
  have LM := Lib.hid (fun wx => limits_spec l wd ht j H least most wx)
  have HA := Lib.hid (ha.later (balloc0 w (.cells #[.int .i64 l, .int .i64 wd, .int .i64 ht, .int .i64 j] 51)))
  obtain ⟨f0, f1, f2, f3⟩ := F0.out
  obtain ⟨U, hU⟩ : ∃ U, w.alloc (.cells #[.int .i64 l, .int .i64 wd, .int .i64 ht, .int .i64 j] 51) = U := ⟨_, rfl⟩
  have B0 := Lib.hid (balloc0 w (.cells #[.int .i64 l, .int .i64 wd, .int .i64 ht, .int .i64 j] 51))
  rw [hU] at F0 HA B0
  have LV := Lib.hid (fun wx (hx : Below U.heap.size U wx) => levels_spec L H a cap hl wx (HA.out.later hx))
  have HU := Lib.hid hU
  have B0 : Hid (Below w.heap.size w U) := B0.out
  clear hU ha
  by_cases hc : limC l wd ht j H least most = 0
  · obtain ⟨h1, ⟨H0, H1⟩, hb⟩ := limC_ok hc
    rw [hc] at LM
    cases hL : lvB L H
    · have hg : bgL l wd ht j H least most L = 2 := by simp [bgL, hc, hL]
      have hC : bgC l wd ht j H least most L = 2 := by simp [bgC, hg]
      have hN : bgN l wd ht j H least most L = 0 := by simp [bgN, hg]
      rw [hC, hN]
      rw [hL] at LV
      clear hC hN hg hL hc h1 hb
      go_enter Try.func31, Try.ntmps31
      go_wp2_with fail
      rw [HU.out]
      refine (LM.out _).mono ?_
      rintro e w1 ⟨rfl, hb1⟩
      have B1 := Lib.hid hb1
      clear hb1 f0 f1 f2 f3
      go_wp2_with fail
      refine (LV.out _ B1.out).mono ?_
      rintro e w2 ⟨rfl, hb2⟩
      have B2 := Lib.hid (bnext B0.out (bnext B1.out hb2))
      clear hb2
      go_wp2
      go_ret2
      exact ⟨rfl, B2.out⟩
    have hg : bgL l wd ht j H least most L = 0 := by simp [bgL, hc, hL]
    have hC : bgC l wd ht j H least most L = (if bestG ht H least most L 40 = 0 then 3 else 0) := by simp [bgC, hg]
    have hN : bgN l wd ht j H least most L = bestG ht H least most L 40 := by simp [bgN, hg]
    rw [hC, hN]
    rw [hL] at LV
    have HL := Lib.hid hL
    have hfm : (0 ≤ ht ∧ ht ≤ 150) ∧ (0 ≤ j ∧ j ≤ 20) := by
      obtain ⟨-, -, g, h, -⟩ := okB_true.1 h1
      omega
    obtain ⟨⟨g0, g1⟩, g2, g3⟩ := hfm
    have FS := Lib.hid (fun n (n0 : 1 ≤ n) (n1 : n ≤ 40) wx => fits_spec l wd ht j H least most n hb g0 (by omega) H0 H1 n0 n1 wx)
    obtain ⟨bz, hbz⟩ : ∃ z, bestG ht H least most L 40 = z := ⟨_, rfl⟩
    rw [hbz]
    have HBZ := Lib.hid hbz
    have HH : Hid (100 ≤ H ∧ H ≤ 6000) := ⟨H0, H1⟩
    have hL20 := (lvB_all hL).2.1
    clear hC hN hc hg h1 hb hbz hL
    go_enter Try.func31, Try.ntmps31
    go_wp2_with fail
    rw [HU.out]
    refine (LM.out _).mono ?_
    rintro e w1 ⟨rfl, hb1⟩
    have B1 := Lib.hid hb1
    clear hb1 f0 f1 f2 f3
    go_wp2_with fail
    refine (LV.out _ B1.out).mono ?_
    rintro e w2 ⟨rfl, hb2⟩
    have B2 := Lib.hid (bnext B1.out hb2)
    clear hb2
    go_wp2
    go_loopw [13, 14, 15] (fun bv lv i wr => ∃ (k : Nat) (lo : Int), k ≤ 40 ∧ bv = .int .i64 (bestG ht H least most L k) ∧ lv = .int .i64 lo ∧ (0 ≤ lo ∧ lo ≤ 120000) ∧ Hid (bestG ht H least most L k ≠ 0 → lo = sG H L (bestG ht H least most L k)) ∧ i = .int .i64 ((k : Int) + 1) ∧ Hid (Below U.heap.size U wr)) (fun _ _ i _ => 41 - (intOf i).toNat)
    case atStart => exact ⟨0, 0, by omega, rfl, rfl, by omega, fun h => absurd rfl h, rfl, B2.out⟩
    case round =>
      obtain ⟨k, lo, hk, rfl, rfl, ⟨lo0, lo1⟩, hlo, rfl, hB⟩ := hrel
      obtain ⟨b0, b1⟩ := bestG_range ht H least most L k
      by_cases hlt : k < 40
      · have hlt' : (k : Int) + 1 ≤ 40 := by omega
        have n0 : (1 : Int) ≤ (k : Int) + 1 := by omega
        have M := Lib.hid (fun wx => FS.out ((k : Int) + 1) n0 hlt' wx)
        have HS : Hid (bestG ht H least most L (k + 1) = stepG ht H least most L (bestG ht H least most L k) ((k : Int) + 1)) := rfl
        obtain ⟨b, hb⟩ : ∃ b, bestG ht H least most L k = b := ⟨_, rfl⟩
        rw [hb] at b0 b1 HS hlo
        rw [hb]
        clear hb
        obtain ⟨f0, f1, f2, f3⟩ := F0.out.later hB.out
        cases hfit : fitB ht H least most ((k : Int) + 1)
        · rw [hfit] at M
          have HN : Hid (bestG ht H least most L (k + 1) = b) := by show _ = _; rw [HS.out]; simp [stepG, hfit]
          clear hfit
          go_wp2_with fail
          refine (M.out _).mono ?_
          rintro e w3 ⟨rfl, hb3⟩
          have B3 := Lib.hid (bnext hB.out hb3)
          clear hb3
          go_wp2
          go_roundw
          case rel => exact ⟨k + 1, lo, by omega, by rw [HN.out], rfl, ⟨lo0, lo1⟩, by rw [HN.out]; exact hlo.out, by go_num, B3.out⟩
          case measure => simp [intOf]; omega
        · rw [hfit] at M
          have hst : stepG ht H least most L b ((k : Int) + 1) = (if ngB H L b ((k : Int) + 1) = true then (k : Int) + 1 else b) := by simp [stepG, hfit]
          rw [hst] at HS
          have gBn : gB H ((k + 1 : Nat) : Int) = true := gB_true.2 ⟨HH.out, by omega, by omega⟩
          have e1 : ((k + 1 : Nat) : Int) = (k : Int) + 1 := by omega
          have GB := Lib.hid gBn
          have E1 := Lib.hid e1
          have OF := Lib.hid (fun lv l0 l1 wx => off_spec H (k + 1) lv gBn l0 l1 wx)
          rw [e1] at OF
          have SR := sG_range gBn HL.out
          rw [e1] at SR
          clear hst hfit gBn e1
          go_wp2_with fail
          refine (M.out _).mono ?_
          rintro e w3 ⟨rfl, hb3⟩
          have B3 := Lib.hid (bnext hB.out hb3)
          clear hb3 f0 f1 f2 f3
          go_wp2
          go_loopw [16, 17] (fun sv i wr2 => ∃ (q : Nat) (P : List Int), q ≤ L.length ∧ sv = .int .i64 (sumZ P) ∧ Hid (P = offL H ((k : Int) + 1) (L.take q)) ∧ i = .int .i64 (q : Int) ∧ (0 ≤ sumZ P ∧ sumZ P ≤ 6000 * (q : Int)) ∧ Hid (Below U.heap.size U wr2)) (fun _ i _ => L.length - (intOf i).toNat)
          case atStart => exact ⟨0, [], Nat.zero_le _, rfl, by show _ = _; simp [offL], rfl, by simp [sumZ], B3.out⟩
          case round =>
            obtain ⟨q, P, hq, rfl, hP, rfl, ⟨sp0, sp1⟩, hB4⟩ := hrel
            by_cases hlq : q < L.length
            · have hlq' : (q : Int) < (L.length : Int) := by omega
              have hq0 : (0 : Int) ≤ (q : Int) := by omega
              obtain ⟨bb, oo, z, rfl, hz, hat⟩ := (HA.out.later hB4.out).at hlq
              have cz := hat q z hz
              obtain ⟨z0, z1⟩ := (lvB_all HL.out).2.2 q z hz
              have zr := offQ_le GB.out z0 z1
              rw [E1.out] at zr
              have O := Lib.hid (OF.out z (by omega) (by have := HH.out; omega))
              have HT : Hid (offL H ((k : Int) + 1) (L.take (q + 1)) = offL H ((k : Int) + 1) (L.take q) ++ [offQ H ((k : Int) + 1) z]) := offL_take hz
              obtain ⟨y, hy⟩ : ∃ y, offQ H ((k : Int) + 1) z = y := ⟨_, rfl⟩
              rw [hy] at zr O HT
              obtain ⟨y0, y1⟩ := zr
              have HSN := Lib.hid (sumZ_snoc P y)
              obtain ⟨t, ht'⟩ : ∃ t, sumZ P = t := ⟨_, rfl⟩
              rw [ht'] at sp0 sp1 HSN
              rw [ht']
              clear hz hat hy ht' z0 z1
              go_wp2_with fail
              refine (O.out _).mono ?_
              rintro e w5 ⟨rfl, hb5⟩
              have B5 := Lib.hid (bnext hB4.out hb5)
              clear hb5
              go_wp2
              go_roundw
              case rel => exact ⟨q + 1, P ++ [y], by omega, by rw [HSN.out], by show _ = _; rw [HT.out, hP.out], by go_num, by rw [HSN.out]; omega, B5.out⟩
              case measure => simp [intOf]; omega
            · have hgq : ¬ (q : Int) < (L.length : Int) := by omega
              have hSG : sumZ P = sG H L ((k : Int) + 1) := by rw [hP.out, List.take_of_length_le (by omega)]; rfl
              rw [hSG] at sp0 sp1 ⊢
              obtain ⟨sg, hsg⟩ : ∃ z, sG H L ((k : Int) + 1) = z := ⟨_, rfl⟩
              have HSG := Lib.hid hsg
              rw [hsg] at sp0 sp1 SR ⊢
              obtain ⟨sr0, sr1⟩ := SR
              have HNG : Hid (ngB H L b ((k : Int) + 1) = (decide (b = 0) || decide (sg < sG H L b))) := by show _ = _; unfold ngB; rw [hsg]
              clear hSG hsg
              by_cases hb0 : b = 0
              · have HN : Hid (bestG ht H least most L (k + 1) = (k : Int) + 1) := by show _ = _; rw [HS.out, HNG.out]; simp [hb0]
                go_wp2
                go_roundw
                case rel => exact ⟨k + 1, sg, by omega, by rw [HN.out], rfl, ⟨sr0, sr1⟩, fun _ => by rw [HN.out, HSG.out], by go_num, hB4.out⟩
                case measure => simp [intOf]; omega
              · have hl2 := hlo.out hb0
                by_cases hx : sg < lo
                · have HN : Hid (bestG ht H least most L (k + 1) = (k : Int) + 1) := by show _ = _; rw [HS.out, HNG.out, ← hl2]; simp [hx]
                  clear hl2
                  have h5 : (b == 0 || decide (sg < lo)) = true := by simp [hx]
                  go_wp2
                  all_goals try (exfalso; omega)
                  go_roundw
                  case rel => exact ⟨k + 1, sg, by omega, by rw [HN.out], rfl, ⟨sr0, sr1⟩, fun _ => by rw [HN.out, HSG.out], by go_num, hB4.out⟩
                  case measure => simp [intOf]; omega
                · have HN : Hid (bestG ht H least most L (k + 1) = b) := by show _ = _; rw [HS.out, HNG.out, ← hl2]; simp [hx, hb0]
                  clear hl2
                  have h5 : (b == 0 || decide (sg < lo)) = false := by simp [hx, hb0]
                  go_wp2
                  all_goals try (exfalso; omega)
                  go_roundw
                  case rel => exact ⟨k + 1, lo, by omega, by rw [HN.out], rfl, ⟨lo0, lo1⟩, by rw [HN.out]; exact hlo.out, by go_num, hB4.out⟩
                  case measure => simp [intOf]; omega
      · have hge : ¬ (k : Int) + 1 ≤ 40 := by omega
        obtain rfl : k = 40 := by omega
        rw [HBZ.out] at b0 b1 ⊢
        clear HBZ
        by_cases hz : bz = 0
        · subst hz
          go_wp2
          go_ret2
          exact ⟨rfl, bnext B0.out hB.out⟩
        · go_wp2
          go_ret2
          exact ⟨by simp, bnext B0.out hB.out⟩
  · have hg : bgL l wd ht j H least most L = limC l wd ht j H least most := by unfold bgL; rw [if_neg hc]
    have hC : bgC l wd ht j H least most L = limC l wd ht j H least most := by unfold bgC; rw [hg, if_neg hc]
    have hN : bgN l wd ht j H least most L = 0 := by unfold bgN; rw [hg, if_neg hc]
    rw [hC, hN]
    obtain ⟨q, hq⟩ : ∃ q, limC l wd ht j H least most = q := ⟨_, rfl⟩
    rw [hq] at hc LM ⊢
    have hqb : (q == 0) = false := by simpa using hc
    clear hC hN hq hg
    go_enter Try.func31, Try.ntmps31
    go_wp2_with fail
    rw [HU.out]
    refine (LM.out _).mono ?_
    rintro e w1 ⟨rfl, hb1⟩
    go_wp2
    go_ret2
    exact ⟨rfl, bnext B0.out hb1⟩
end Go.Proofs.Ytlglijalhacmhab
