/-
  WornMoulds: the model's and the program's answers.
-/
import Derived.Test.YtgffgcobgjngnaaMoF
namespace Go.Proofs.Ytgffgcobgjngnaa
open Go.ChangeShapes Go.WideShapes Go.ChangeAt Go.RowKit Go.Joins

theorem wm_bad {L : List Mo} {m q : Int} (h : wmC L m = q) (hq : ¬ q = 0) : wmL L m = [] := by unfold wmL; rw [if_neg (by rw [h]; exact hq)]
theorem wm_good {L : List Mo} {m : Int} (h : wmC L m = 0) : wmL L m = wornTo L m L.length := by unfold wmL; rw [if_pos h]
theorem chk_wm (L : List Mo) (m : Int) : chkM L m 0 100000 = wmC L m := rfl

set_option maxRecDepth 100000 in
set_option maxHeartbeats 1600000 in
theorem worn_spec (L : List Mo) (a : Option Addr) (cap : Nat) (hl : L.length ≤ 1048576) (m : Int) (w : World) (ha : MoArg w a L) : Calls Try.prog 30 #[.slice a L.length cap, .int .i64 m] w fun e w' => ∃ a cap, e = .returned (.tuple #[.slice a (wmL L m).length cap, .int .i64 (wmC L m)]) ∧ IntRes w.heap.size (wmL L m) a w' ∧ Below w.heap.size w w' := by
  have C := Lib.hid (okM_spec L a cap hl w ha)
  have I := Lib.hid (in_any m 0 100000)
  cases h1 : okMos L
  · have E1 : Hid (wmC L m = 1) := by show wmC L m = 1; simp [wmC, h1]
    have E2 := Lib.hid (wm_bad E1.out (by omega))
    rw [E1.out, E2.out]
    rw [h1] at C
    clear ha h1
    go_enter Try.func30, Try.ntmps30
    go_wp2_with fail
    refine C.out.mono ?_
    rintro e w1 ⟨rfl, hb1⟩
    go_wp2
    go_ret2
    first | exact ⟨none, ⟨0, rfl⟩, .inl rfl, hb1⟩ | exact ⟨none, 0, rfl, .inl rfl, hb1⟩
  cases h2 : inB m 0 100000
  · have E1 : Hid (wmC L m = 2) := by show wmC L m = 2; simp [wmC, h1, h2]
    have E2 := Lib.hid (wm_bad E1.out (by omega))
    rw [E1.out, E2.out]
    rw [h1] at C
    rw [h2] at I
    clear ha h1 h2
    go_enter Try.func30, Try.ntmps30
    go_wp2_with fail
    refine C.out.mono ?_
    rintro e w1 ⟨rfl, hb1⟩
    go_wp2_with fail
    refine (I.out _).mono ?_
    rintro e w2 ⟨rfl, rfl⟩
    go_wp2
    go_ret2
    first | exact ⟨none, ⟨0, rfl⟩, .inl rfl, hb1⟩ | exact ⟨none, 0, rfl, .inl rfl, hb1⟩
  have E1 : Hid (wmC L m = 0) := by show wmC L m = 0; simp [wmC, h1, h2]
  have E2 := Lib.hid (wm_good E1.out)
  rw [E1.out, E2.out]
  rw [h1] at C
  rw [h2] at I
  have HA : Hid (∀ wx, Below w.heap.size w wx → MoArg wx a L) := fun wx h => ha.later h
  clear ha h1 h2
  go_enter Try.func30, Try.ntmps30
  go_wp2_with fail
  refine C.out.mono ?_
  rintro e w1 ⟨rfl, hb1⟩
  have B1 := Lib.hid hb1
  clear hb1
  go_wp2_with fail
  refine (I.out _).mono ?_
  rintro e w2 ⟨rfl, rfl⟩
  go_wp2
  go_loopw [6, 7] (fun v i wr => ∃ (k g cap : Nat) (ps : List Int), k ≤ L.length ∧ v = .slice (some ⟨g, 0, none⟩) ps.length cap ∧ i = .int .i64 k ∧ Hid (ps = wornTo L m k) ∧ ps.length ≤ k ∧ Hid (NumsAt w1 ps g cap wr)) (fun _ i _ => L.length - (intOf i).toNat)
  case atStart => exact ⟨0, w1.heap.size, 0, [], Nat.zero_le _, rfl, rfl, rfl, by simp, nums_start w1⟩
  case round =>
    obtain ⟨k, g, cap, ps, hk, rfl, rfl, hP, hpl, hD⟩ := hrel
    have HB : Hid (Below w.heap.size w wr) := B1.out.trans (hD.out.2.1.mono B1.out.size)
    by_cases hlt : k < L.length
    · have hlt' : (k : Int) < (L.length : Int) := by omega
      have hk0 : (0 : Int) ≤ (k : Int) := by omega
      obtain ⟨b, o, c, rfl, hc, hat⟩ := (HA.out _ HB.out).at hlt
      obtain ⟨c0, c1, c2, c3⟩ := hat.cells hc
      obtain ⟨u, hu⟩ : ∃ u, c.us = u := ⟨_, rfl⟩
      by_cases hw : m < u
      · have HP1 : Hid (ps ++ [(k : Int)] = wornTo L m (k + 1)) := by show _ = _; rw [hP.out, wornTo_yes hc (by rw [hu]; exact hw)]
        rw [hu] at c3
        clear hc hat c0 c1 c2 hu
        obtain ⟨i0, hi, hz0, hz1, hz2⟩ := info_parts infoInt
        have hbase : w1.heap.size ≤ wr.heap.size := by have := hD.out.2.2; omega
        have c4 : Hid (ps.length + 1 ≤ maxLen) := by show ps.length + 1 ≤ maxLen; unfold maxLen; omega
        go_wp2_with (at_builtin; go_must ((refine wpList_append_own _ rfl _ _ 31 rfl w1.heap.size 2 i0 (.int .i64 0) 1 8 Try.underlying31 hi hz0 hz1 hz2 rfl (by decide) (.slice (some ⟨g, 0, none⟩) ps.length cap) ps.length (intVals ps) rfl (hD.out.1.alloc _) ⟨wr.heap.size, 0, none⟩ 1 1 [.int .i64 (k : Int)] rfl rfl ((lit8 w1.heap.size wr _ hbase).cells rfl) (by simp [Value.oneCell']) c4.out (by omega) (by simp; omega) ?_; intro v1 w2 hown1 hgrow1 _; obtain ⟨g', cap', hv, hD'⟩ := nums_step hD.out hown1 hgrow1; subst hv; have D2 := Lib.hid hD'; clear hD' hown1 hgrow1)))
        go_roundw
        case rel => exact ⟨k + 1, g', cap', ps ++ [(k : Int)], by omega, by simp, by go_num, HP1.out, by simp; omega, D2.out⟩
        case measure => simp [intOf]; omega
      · have HP1 : Hid (ps = wornTo L m (k + 1)) := by show _ = _; rw [hP.out, wornTo_no hc (by rw [hu]; exact hw)]
        rw [hu] at c3
        clear hc hat c0 c1 c2 hu
        go_wp2
        go_roundw
        case rel => exact ⟨k + 1, g, cap, ps, by omega, rfl, by go_num, HP1.out, by omega, hD.out⟩
        case measure => simp [intOf]; omega
    · have hge : ¬ (k : Int) < (L.length : Int) := by omega
      have hkn : k = L.length := by omega
      subst hkn
      have HR : Hid (IntRes w.heap.size (wornTo L m L.length) (some ⟨g, 0, none⟩) wr) := by
        have h := hD.out.own
        rw [hP.out] at h
        exact .inr ⟨g, rfl, h.down B1.out.size⟩
      rw [← hP.out] at HR
      go_wp2
      go_ret2
      rw [← hP.out]
      first | exact ⟨some ⟨g, 0, none⟩, ⟨cap, rfl⟩, HR.out, HB.out⟩ | exact ⟨some ⟨g, 0, none⟩, cap, rfl, HR.out, HB.out⟩

set_option maxRecDepth 100000 in
set_option maxHeartbeats 1600000 in
theorem worn_impl (L : List Mo) (a : Option Addr) (cap : Nat) (hl : L.length ≤ 1048576) (m : Int) (w : World) (ha : MoArg w a L) : Calls Try.prog 31 #[.slice a L.length cap, .int .i64 m] w fun e w' => ∃ a cap, e = .returned (.tuple #[.slice a (wmL L m).length cap, .int .i64 (wmC L m)]) ∧ IntRes w.heap.size (wmL L m) a w' ∧ Below w.heap.size w w' := by
  have C := Lib.hid (chk_moimpl L a cap hl m 0 100000 w ha)
  rw [chk_wm] at C
  by_cases h0 : wmC L m = 0
  case neg =>
    have E2 := Lib.hid (wm_bad rfl h0)
    obtain ⟨q, hq⟩ : ∃ q, wmC L m = q := ⟨_, rfl⟩
    rw [hq] at C h0 ⊢
    rw [E2.out]
    clear hq ha
    go_enter Try.func31, Try.ntmps31
    go_wp2_with fail
    refine C.out.mono ?_
    rintro e w1 ⟨rfl, hb1⟩
    go_wp2
    go_ret2
    first | exact ⟨none, ⟨0, rfl⟩, .inl rfl, hb1⟩ | exact ⟨none, 0, rfl, .inl rfl, hb1⟩
  have E2 := Lib.hid (wm_good h0)
  rw [h0] at C ⊢
  rw [E2.out]
  have HA : Hid (∀ wx, Below w.heap.size w wx → MoArg wx a L) := fun wx h => ha.later h
  clear ha h0
  go_enter Try.func31, Try.ntmps31
  go_wp2_with fail
  refine C.out.mono ?_
  rintro e w1 ⟨rfl, hb1⟩
  have B1 := Lib.hid hb1
  clear hb1
  go_wp2
  go_loopw [7, 18] (fun v i wr => ∃ (k : Nat) (ao : Option Addr) (cp : Nat) (ps : List Int), k ≤ L.length ∧ v = .slice ao ps.length cp ∧ i = .int .i64 k ∧ Hid (ps = wornTo L m k) ∧ ps.length ≤ k ∧ Hid (wr.ownsRow w1.heap.size 2 1 (.slice ao ps.length cp) ps.length (intVals ps)) ∧ Hid (Below w1.heap.size w1 wr)) (fun _ i _ => L.length - (intOf i).toNat)
  case atStart => exact ⟨0, none, 0, [], Nat.zero_le _, rfl, rfl, rfl, by simp, ⟨rfl, .inl ⟨rfl, rfl⟩⟩, Below.refl _ _⟩
  case round =>
    obtain ⟨k, ao, cp, ps, hk, rfl, rfl, hP, hpl, hO, hB⟩ := hrel
    have HB : Hid (Below w.heap.size w wr) := B1.out.trans (hB.out.mono B1.out.size)
    by_cases hlt : k < L.length
    · have hlt' : (k : Int) < (L.length : Int) := by omega
      have hk0 : (0 : Int) ≤ (k : Int) := by omega
      obtain ⟨b, o, c, rfl, hc, hat⟩ := (HA.out _ HB.out).at hlt
      obtain ⟨c0, c1, c2, c3⟩ := hat.cells hc
      by_cases hw : m < c.us
      · have HP1 : Hid (ps ++ [(k : Int)] = wornTo L m (k + 1)) := by show _ = _; rw [hP.out, wornTo_yes hc hw]
        clear hc hat
        obtain ⟨i0, hi, hz0, hz1, hz2⟩ := info_parts infoInt
        have hbase : w1.heap.size ≤ wr.heap.size := hB.out.size
        have c4 : Hid (ps.length + 1 ≤ maxLen) := by show ps.length + 1 ≤ maxLen; unfold maxLen; omega
        have BX := Lib.hid (balloc (w := w1) (w1 := wr) hB.out (.cells #[.int .i64 c.le, .int .i64 c.wi, .int .i64 c.he, .int .i64 c.us] 34))
        have OX := Lib.hid (hO.out.alloc (.cells #[.int .i64 c.le, .int .i64 c.wi, .int .i64 c.he, .int .i64 c.us] 34))
        have hzx : (wr.alloc (.cells #[.int .i64 c.le, .int .i64 c.wi, .int .i64 c.he, .int .i64 c.us] 34)).heap.size = wr.heap.size + 1 := by simp
        have LT := lit8 w1.heap.size (wr.alloc (.cells #[.int .i64 c.le, .int .i64 c.wi, .int .i64 c.he, .int .i64 c.us] 34)) (.int .i64 (k : Int)) (by rw [hzx]; omega)
        rw [hzx] at LT
        have LT := Lib.hid LT
        clear hzx
        go_wp2_with (at_builtin; go_must ((refine wpList_append_own _ rfl _ _ 31 rfl w1.heap.size 2 i0 (.int .i64 0) 1 8 Try.underlying31 hi hz0 hz1 hz2 rfl (by decide) (.slice ao ps.length cp) ps.length (intVals ps) rfl (OX.out.alloc _) ⟨wr.heap.size + 1, 0, none⟩ 1 1 [.int .i64 (k : Int)] rfl rfl (LT.out.cells rfl) (by simp [Value.oneCell']) c4.out (by omega) (by simp; omega) ?_; intro v4 w4 hown4 hgrow4 _; obtain ⟨g4, cp4, hv4⟩ := own_form8 hown4 (Nat.succ_ne_zero _); subst hv4; have O4 := Lib.hid hown4; have B4 : Hid (Below w1.heap.size w1 w4) := (balloc BX.out _).grown hgrow4 (by simp; omega) (fun q hq => (OX.out.lt q hq).1); clear hown4 hgrow4)))
        go_roundw
        case rel =>
          refine ⟨k + 1, some ⟨g4, 0, none⟩, cp4, ps ++ [(k : Int)], by omega, by simp, by go_num, HP1.out, by simp; omega, ?_, B4.out⟩
          have h := O4.out
          show World.ownsRow _ _ _ _ _ _ _
          have e : intVals (ps ++ [(k : Int)]) = intVals ps ++ [.int .i64 (k : Int)] := by simp [intVals]
          rw [e, List.length_append]
          exact h
        case measure => simp [intOf]; omega
      · have HP1 : Hid (ps = wornTo L m (k + 1)) := by show _ = _; rw [hP.out, wornTo_no hc hw]
        clear hc hat
        go_wp2
        go_roundw
        case rel => exact ⟨k + 1, ao, cp, ps, by omega, rfl, by go_num, HP1.out, by omega, hO.out.alloc _, balloc hB.out _⟩
        case measure => simp [intOf]; omega
    · have hge : ¬ (k : Int) < (L.length : Int) := by omega
      have hkn : k = L.length := by omega
      subst hkn
      have HR : Hid (IntRes w.heap.size ps ao wr) := int_res (row_down hO.out B1.out.size)
      go_wp2
      go_ret2
      rw [← hP.out]
      first | exact ⟨ao, ⟨cp, rfl⟩, HR.out, HB.out⟩ | exact ⟨ao, cp, rfl, HR.out, HB.out⟩
end Go.Proofs.Ytgffgcobgjngnaa
