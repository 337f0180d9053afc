/-
  UseMould: the program's answer.
-/
import Derived.Test.YtdandhmallbemaaDoorMoU
import Derived.Test.YtdandhmallbemaaDoorMoF
namespace Go.Proofs.YtdandhmallbemaaDoor
open Go.ChangeShapes Go.WideShapes Go.ChangeAt Go.RowKit Go.Joins

set_option maxRecDepth 100000 in
set_option maxHeartbeats 1600000 in
/-- A copy of moulds in a new row. -/
theorem clone_mo (L : List Mo) (b o cap : Nat) (h1 : 1 ≤ L.length) (hl : L.length ≤ 1048576) (w : World) (h : MoAt w b o L) :
    Calls Tryd.prog 44 #[.slice (some ⟨b, o, none⟩) L.length cap] w fun e w' => ∃ g cp, e = .returned (.slice (some ⟨g, 0, none⟩) L.length cp) ∧ MoOwn w.heap.size L g w' ∧ Below w.heap.size w w' := by
  have P0 := Lib.hid (mouldVals_cells (h.later (balloc0 w (.cells #[] 47))))
  have HS := Lib.hid (own_mouldStart w)
  have hcl := mouldVals_length L
  have hone := Lib.hid (mouldVals_one L)
  have m1 : Hid (0 + L.length ≤ maxLen) := by show 0 + L.length ≤ maxLen; unfold maxLen; omega
  obtain ⟨i0, hi, hz0, hz1, hz2⟩ := info_parts infoMould
  have hnil : ∀ (w : World) (p : Addr) (n c : Nat), (binOp .eql 24 (.slice (some p) n c) (.slice none 0 0)).run Tryd.prog w = .ok (.bool false) w := fun w p n c => Lib.run_eql_slice_nil (P := Tryd.prog) w 24 47 (some p) n c 0 0 Tryd.underlying24
  clear h
  go_enter Tryd.func44, Tryd.ntmps44
  go_wp2_with (at_builtin; (refine wpList_append_own _ rfl _ _ 24 rfl w.heap.size 47 i0 (.agg #[.int .i64 0, .int .i64 0, .int .i64 0, .int .i64 0]) 4 32 Tryd.underlying24 hi hz0 hz1 hz2 rfl (by decide) (.slice (some ⟨w.heap.size, 0, none⟩) 0 0) 0 [] rfl HS.out ⟨b, o, none⟩ L.length cap (mouldVals L) rfl hcl P0.out hone.out m1.out (by omega) (by simp) ?_); intro v1 w1 hown hgrow _)
  have hown1 : w1.ownsRow w.heap.size 47 4 v1 L.length (mouldVals L) := by simpa using hown
  obtain ⟨g, cp, hv, ho⟩ := own_moulds rfl (by omega) hown1
  subst hv
  go_ret
  have hB := (balloc0 w (.cells #[] 47)).grown hgrow (by simp) (fun k hk => by cases hk; exact Nat.le_refl _)
  first | exact ⟨g, ⟨cp, rfl⟩, ho, hB⟩ | exact ⟨g, cp, rfl, ho, hB⟩

set_option maxRecDepth 100000 in
set_option maxHeartbeats 3200000 in
theorem use_impl (L : List Mo) (a : Option Addr) (cap : Nat) (hl : L.length ≤ 1048576) (k t : Int) (w : World) (ha : MoArg w a L) : Calls Tryd.prog 12 #[.slice a L.length cap, .int .i64 k, .int .i64 t] w fun e w' => ∃ a cap, e = .returned (.tuple #[.slice a (umL L k t).length cap, .int .i64 (umC L k t)]) ∧ MoRes w.heap.size (umL L k t) a w' ∧ Below w.heap.size w w' := by
  cases h1 : okMos L
  · have E1 : Hid (umC L k t = 1) := by show umC L k t = 1; simp [umC, h1]
    have E2 := Lib.hid (um_bad E1.out (by omega))
    rw [E1.out, E2.out]
    have C := Lib.hid (valid_moimpl L a cap hl w ha)
    rw [h1] at C
    clear ha h1
    go_enter Tryd.func12, Tryd.ntmps12
    go_wp2_with fail
    refine C.out.mono ?_
    rintro e w1 ⟨rfl, hb1⟩
    go_wp2
    go_ret2
    first | exact ⟨none, ⟨0, rfl⟩, .inl rfl, hb1⟩ | exact ⟨none, 0, rfl, .inl rfl, hb1⟩
  have C := Lib.hid (valid_moimpl L a cap hl w ha)
  rw [h1] at C
  have hl20 := (okMos_all h1).1
  have I1 := Lib.hid (within_impl k 0 ((L.length : Int) - 1))
  have I2 := Lib.hid (within_impl t 1 100000)
  cases h2 : inB k 0 ((L.length : Int) - 1)
  · have E1 : Hid (umC L k t = 2) := by show umC L k t = 2; simp [umC, h1, h2]
    have E2 := Lib.hid (um_bad E1.out (by omega))
    rw [E1.out, E2.out]
    rw [h2] at I1
    clear ha h1 h2
    go_enter Tryd.func12, Tryd.ntmps12
    go_wp2_with fail
    refine C.out.mono ?_
    rintro e w1 ⟨rfl, hb1⟩
    go_wp2_with fail
    refine (I1.out _).mono ?_
    rintro e w2 ⟨rfl, rfl⟩
    go_wp2
    go_ret2
    first | exact ⟨none, ⟨0, rfl⟩, .inl rfl, hb1⟩ | exact ⟨none, 0, rfl, .inl rfl, hb1⟩
  cases h3 : inB t 1 100000
  · have E1 : Hid (umC L k t = 2) := by show umC L k t = 2; simp [umC, h1, h2, h3]
    have E2 := Lib.hid (um_bad E1.out (by omega))
    rw [E1.out, E2.out]
    rw [h2] at I1
    rw [h3] at I2
    clear ha h1 h2 h3
    go_enter Tryd.func12, Tryd.ntmps12
    go_wp2_with fail
    refine C.out.mono ?_
    rintro e w1 ⟨rfl, hb1⟩
    go_wp2_with fail
    refine (I1.out _).mono ?_
    rintro e w2 ⟨rfl, rfl⟩
    go_wp2_with fail
    refine (I2.out _).mono ?_
    rintro e w2 ⟨rfl, rfl⟩
    go_wp2
    go_ret2
    first | exact ⟨none, ⟨0, rfl⟩, .inl rfl, hb1⟩ | exact ⟨none, 0, rfl, .inl rfl, hb1⟩
  obtain ⟨k0, k1⟩ := inB_true.1 h2
  obtain ⟨t0, t1⟩ := inB_true.1 h3
  rw [h2] at I1
  rw [h3] at I2
  obtain ⟨n, rfl⟩ : ∃ n : Nat, k = (n : Int) := ⟨k.toNat, by omega⟩
  have hn : n < L.length := by omega
  obtain ⟨c, hc⟩ : ∃ c, L[n]? = some c := ⟨_, List.getElem?_eq_getElem hn⟩
  have hcok := (okMos_all h1).2 n c hc
  have hd : L.getD (n : Int).toNat default = c := by rw [Int.toNat_natCast, List.getD_eq_getElem?_getD, hc]; rfl
  have EC : Hid (umC L n t = if c.us + t ≤ 100000 then 0 else 5) := by show umC L n t = _; simp only [umC, h1, h2, h3, hd]; simp
  have EL : Hid (usedL L n t = L.set n { c with us := c.us + t }) := by show usedL L n t = _; rw [usedL, hd, Int.toNat_natCast]
  obtain ⟨⟨_, _⟩, ⟨_, _⟩, ⟨_, _⟩, ⟨u0, u1⟩⟩ := Mo.ok_facts hcok
  have EK : Hid (({ c with us := c.us + t } : Mo).ok = decide (c.us + t ≤ 100000)) := used_ok hcok (by omega)
  have HC := Lib.hid hc
  obtain ⟨b, o, c', rfl, hc', hat⟩ := ha.at hn
  have HA : Hid (∀ wx, Below w.heap.size w wx → MoAt wx b o L) := fun wx h => hat.later h
  clear ha hat hc' hc h1 h2 h3 hd hcok
  go_enter Tryd.func12, Tryd.ntmps12
  go_wp2_with fail
  refine C.out.mono ?_
  rintro e w1 ⟨rfl, hb1⟩
  have B1 := Lib.hid hb1
  clear hb1
  go_wp2_with fail
  refine (I1.out _).mono ?_
  rintro e w2 ⟨rfl, rfl⟩
  go_wp2_with fail
  refine (I2.out _).mono ?_
  rintro e w2 ⟨rfl, rfl⟩
  have CC := Lib.hid (clone_mo L b o cap (by omega) hl w1 (HA.out _ B1.out))
  go_wp2_with fail
  refine CC.out.mono ?_
  rintro e w2 ⟨g, cp, rfl, o2, hb2⟩
  have B2 := Lib.hid (B1.out.trans (hb2.mono B1.out.size))
  have O2 := Lib.hid o2
  have hc0 := o2.2.1.cells HC.out
  simp only [Nat.zero_add] at hc0
  obtain ⟨c0, c1, c2, c3⟩ := hc0
  have TP := o2.2.2.1
  obtain ⟨v3, g3, f3⟩ := there_at TP (k := n * 4 + 3) (by omega)
  have O3 := Lib.hid (O2.out.use HC.out (c.us + t))
  have B3 : Hid (Below w.heap.size w (w2.setCell ⟨g, n * 4 + 3, none⟩ (.int .i64 (c.us + t)))) := B2.out.setCell (Nat.le_trans B1.out.size o2.1) _
  have hc3 := O3.out.2.1.cells (List.getElem?_set_self hn)
  simp only [Nat.zero_add] at hc3
  clear hb2 o2 TP g3 c0 c1 c2
  obtain ⟨W3, hW3⟩ : ∃ W3, w2.setCell ⟨g, n * 4 + 3, none⟩ (.int .i64 (c.us + t)) = W3 := ⟨_, rfl⟩
  rw [hW3] at O3 B3 hc3
  obtain ⟨d0, d1, d2, d3⟩ := hc3
  go_wp2_with fail
  have D := Lib.hid (isMould_impl { c with us := c.us + t } W3)
  rw [EK.out] at D
  clear d0 d1 d2 d3
  by_cases h5 : c.us + t ≤ 100000
  · have hde : decide (c.us + t ≤ 100000) = true := by simp [h5]
    rw [hde] at D
    have E1 : Hid (umC L n t = 0) := by show umC L n t = 0; rw [EC.out, if_pos h5]
    have E2 : Hid (umL L n t = L.set n { c with us := c.us + t }) := by show umL L n t = _; rw [um_good E1.out, EL.out]
    refine D.out.mono ?_
    rintro e w4 ⟨rfl, hb4⟩
    have O4 := Lib.hid (O3.out.later hb4)
    have B4 := Lib.hid (bnext B3.out hb4)
    clear hb4
    go_wp2
    go_ret2
    rw [E1.out, E2.out]
    have HR : MoRes w.heap.size (L.set n { c with us := c.us + t }) (some ⟨g, 0, none⟩) w4 := .inr ⟨g, rfl, O4.out.down B1.out.size⟩
    have hll : (L.set n { c with us := c.us + t }).length = L.length := List.length_set
    rw [hll]
    first | exact ⟨_, ⟨_, rfl⟩, HR, B4.out⟩ | exact ⟨_, _, rfl, HR, B4.out⟩
  · have hde : decide (c.us + t ≤ 100000) = false := by simp [h5]
    rw [hde] at D
    have E1 : Hid (umC L n t = 5) := by show umC L n t = 5; rw [EC.out, if_neg h5]
    have E2 := Lib.hid (um_bad E1.out (by omega))
    refine D.out.mono ?_
    rintro e w4 ⟨rfl, hb4⟩
    have B4 := Lib.hid (bnext B3.out hb4)
    clear hb4
    go_wp2
    go_ret2
    rw [E1.out, E2.out]
    first | exact ⟨none, ⟨0, rfl⟩, .inl rfl, B4.out⟩ | exact ⟨none, 0, rfl, .inl rfl, B4.out⟩
end Go.Proofs.YtdandhmallbemaaDoor
/-
  WornMoulds: the model's and the program's answers.
-/
namespace Go.Proofs.YtdandhmallbemaaDoor
open Go.ChangeShapes Go.WideShapes Go.ChangeAt Go.RowKit Go.Joins

theorem wm_bad {L : List Mo} {m q : Int} (h : wmC L m = q) (hq : ¬ q = 0) : wmL L m = [] := by unfold wmL; rw [if_neg (by rw [h]; exact hq)]
theorem wm_good {L : List Mo} {m : Int} (h : wmC L m = 0) : wmL L m = wornTo L m L.length := by unfold wmL; rw [if_pos h]
theorem chk_wm (L : List Mo) (m : Int) : chkM L m 0 100000 = wmC L m := rfl

set_option maxRecDepth 100000 in
set_option maxHeartbeats 1600000 in
theorem worn_spec (L : List Mo) (a : Option Addr) (cap : Nat) (hl : L.length ≤ 1048576) (m : Int) (w : World) (ha : MoArg w a L) : Calls Tryd.prog 16 #[.slice a L.length cap, .int .i64 m] w fun e w' => ∃ a cap, e = .returned (.tuple #[.slice a (wmL L m).length cap, .int .i64 (wmC L m)]) ∧ IntRes w.heap.size (wmL L m) a w' ∧ Below w.heap.size w w' := by
  have C := Lib.hid (okM_spec L a cap hl w ha)
  have I := Lib.hid (in_any m 0 100000)
  cases h1 : okMos L
  · have E1 : Hid (wmC L m = 1) := by show wmC L m = 1; simp [wmC, h1]
    have E2 := Lib.hid (wm_bad E1.out (by omega))
    rw [E1.out, E2.out]
    rw [h1] at C
    clear ha h1
    go_enter Tryd.func16, Tryd.ntmps16
    go_wp2_with fail
    refine C.out.mono ?_
    rintro e w1 ⟨rfl, hb1⟩
    go_wp2
    go_ret2
    first | exact ⟨none, ⟨0, rfl⟩, .inl rfl, hb1⟩ | exact ⟨none, 0, rfl, .inl rfl, hb1⟩
  cases h2 : inB m 0 100000
  · have E1 : Hid (wmC L m = 2) := by show wmC L m = 2; simp [wmC, h1, h2]
    have E2 := Lib.hid (wm_bad E1.out (by omega))
    rw [E1.out, E2.out]
    rw [h1] at C
    rw [h2] at I
    clear ha h1 h2
    go_enter Tryd.func16, Tryd.ntmps16
    go_wp2_with fail
    refine C.out.mono ?_
    rintro e w1 ⟨rfl, hb1⟩
    go_wp2_with fail
    refine (I.out _).mono ?_
    rintro e w2 ⟨rfl, rfl⟩
    go_wp2
    go_ret2
    first | exact ⟨none, ⟨0, rfl⟩, .inl rfl, hb1⟩ | exact ⟨none, 0, rfl, .inl rfl, hb1⟩
  have E1 : Hid (wmC L m = 0) := by show wmC L m = 0; simp [wmC, h1, h2]
  have E2 := Lib.hid (wm_good E1.out)
  rw [E1.out, E2.out]
  rw [h1] at C
  rw [h2] at I
  have HA : Hid (∀ wx, Below w.heap.size w wx → MoArg wx a L) := fun wx h => ha.later h
  clear ha h1 h2
  go_enter Tryd.func16, Tryd.ntmps16
  go_wp2_with fail
  refine C.out.mono ?_
  rintro e w1 ⟨rfl, hb1⟩
  have B1 := Lib.hid hb1
  clear hb1
  go_wp2_with fail
  refine (I.out _).mono ?_
  rintro e w2 ⟨rfl, rfl⟩
  go_wp2
  go_loopw [6, 7] (fun v i wr => ∃ (k g cap : Nat) (ps : List Int), k ≤ L.length ∧ v = .slice (some ⟨g, 0, none⟩) ps.length cap ∧ i = .int .i64 k ∧ Hid (ps = wornTo L m k) ∧ ps.length ≤ k ∧ Hid (NumsAt w1 ps g cap wr)) (fun _ i _ => L.length - (intOf i).toNat)
  case atStart => exact ⟨0, w1.heap.size, 0, [], Nat.zero_le _, rfl, rfl, rfl, by simp, nums_start w1⟩
  case round =>
    obtain ⟨k, g, cap, ps, hk, rfl, rfl, hP, hpl, hD⟩ := hrel
    have HB : Hid (Below w.heap.size w wr) := B1.out.trans (hD.out.2.1.mono B1.out.size)
    by_cases hlt : k < L.length
    · have hlt' : (k : Int) < (L.length : Int) := by omega
      have hk0 : (0 : Int) ≤ (k : Int) := by omega
      obtain ⟨b, o, c, rfl, hc, hat⟩ := (HA.out _ HB.out).at hlt
      obtain ⟨c0, c1, c2, c3⟩ := hat.cells hc
      obtain ⟨u, hu⟩ : ∃ u, c.us = u := ⟨_, rfl⟩
      by_cases hw : m < u
      · have HP1 : Hid (ps ++ [(k : Int)] = wornTo L m (k + 1)) := by show _ = _; rw [hP.out, wornTo_yes hc (by rw [hu]; exact hw)]
        rw [hu] at c3
        clear hc hat c0 c1 c2 hu
        obtain ⟨i0, hi, hz0, hz1, hz2⟩ := info_parts infoInt
        have hbase : w1.heap.size ≤ wr.heap.size := by have := hD.out.2.2; omega
        have c4 : Hid (ps.length + 1 ≤ maxLen) := by show ps.length + 1 ≤ maxLen; unfold maxLen; omega
        go_wp2_with (at_builtin; go_must ((refine wpList_append_own _ rfl _ _ 27 rfl w1.heap.size 2 i0 (.int .i64 0) 1 8 Tryd.underlying27 hi hz0 hz1 hz2 rfl (by decide) (.slice (some ⟨g, 0, none⟩) ps.length cap) ps.length (intVals ps) rfl (hD.out.1.alloc _) ⟨wr.heap.size, 0, none⟩ 1 1 [.int .i64 (k : Int)] rfl rfl ((lit8 w1.heap.size wr _ hbase).cells rfl) (by simp [Value.oneCell']) c4.out (by omega) (by simp; omega) ?_; intro v1 w2 hown1 hgrow1 _; obtain ⟨g', cap', hv, hD'⟩ := nums_step hD.out hown1 hgrow1; subst hv; have D2 := Lib.hid hD'; clear hD' hown1 hgrow1)))
        go_roundw
        case rel => exact ⟨k + 1, g', cap', ps ++ [(k : Int)], by omega, by simp, by go_num, HP1.out, by simp; omega, D2.out⟩
        case measure => simp [intOf]; omega
      · have HP1 : Hid (ps = wornTo L m (k + 1)) := by show _ = _; rw [hP.out, wornTo_no hc (by rw [hu]; exact hw)]
        rw [hu] at c3
        clear hc hat c0 c1 c2 hu
        go_wp2
        go_roundw
        case rel => exact ⟨k + 1, g, cap, ps, by omega, rfl, by go_num, HP1.out, by omega, hD.out⟩
        case measure => simp [intOf]; omega
    · have hge : ¬ (k : Int) < (L.length : Int) := by omega
      have hkn : k = L.length := by omega
      subst hkn
      have HR : Hid (IntRes w.heap.size (wornTo L m L.length) (some ⟨g, 0, none⟩) wr) := by
        have h := hD.out.own
        rw [hP.out] at h
        exact .inr ⟨g, rfl, h.down B1.out.size⟩
      rw [← hP.out] at HR
      go_wp2
      go_ret2
      rw [← hP.out]
      first | exact ⟨some ⟨g, 0, none⟩, ⟨cap, rfl⟩, HR.out, HB.out⟩ | exact ⟨some ⟨g, 0, none⟩, cap, rfl, HR.out, HB.out⟩

set_option maxRecDepth 100000 in
set_option maxHeartbeats 1600000 in
theorem worn_impl (L : List Mo) (a : Option Addr) (cap : Nat) (hl : L.length ≤ 1048576) (m : Int) (w : World) (ha : MoArg w a L) : Calls Tryd.prog 15 #[.slice a L.length cap, .int .i64 m] w fun e w' => ∃ a cap, e = .returned (.tuple #[.slice a (wmL L m).length cap, .int .i64 (wmC L m)]) ∧ IntRes w.heap.size (wmL L m) a w' ∧ Below w.heap.size w w' := by
  have C := Lib.hid (chk_moimpl L a cap hl m 0 100000 w ha)
  rw [chk_wm] at C
  by_cases h0 : wmC L m = 0
  case neg =>
    have E2 := Lib.hid (wm_bad rfl h0)
    obtain ⟨q, hq⟩ : ∃ q, wmC L m = q := ⟨_, rfl⟩
    rw [hq] at C h0 ⊢
    rw [E2.out]
    clear hq ha
    go_enter Tryd.func15, Tryd.ntmps15
    go_wp2_with fail
    refine C.out.mono ?_
    rintro e w1 ⟨rfl, hb1⟩
    go_wp2
    go_ret2
    first | exact ⟨none, ⟨0, rfl⟩, .inl rfl, hb1⟩ | exact ⟨none, 0, rfl, .inl rfl, hb1⟩
  have E2 := Lib.hid (wm_good h0)
  rw [h0] at C ⊢
  rw [E2.out]
  have HA : Hid (∀ wx, Below w.heap.size w wx → MoArg wx a L) := fun wx h => ha.later h
  clear ha h0
  go_enter Tryd.func15, Tryd.ntmps15
  go_wp2_with fail
  refine C.out.mono ?_
  rintro e w1 ⟨rfl, hb1⟩
  have B1 := Lib.hid hb1
  clear hb1
  go_wp2
  go_loopw [7, 18] (fun v i wr => ∃ (k : Nat) (ao : Option Addr) (cp : Nat) (ps : List Int), k ≤ L.length ∧ v = .slice ao ps.length cp ∧ i = .int .i64 k ∧ Hid (ps = wornTo L m k) ∧ ps.length ≤ k ∧ Hid (wr.ownsRow w1.heap.size 2 1 (.slice ao ps.length cp) ps.length (intVals ps)) ∧ Hid (Below w1.heap.size w1 wr)) (fun _ i _ => L.length - (intOf i).toNat)
  case atStart => exact ⟨0, none, 0, [], Nat.zero_le _, rfl, rfl, rfl, by simp, ⟨rfl, .inl ⟨rfl, rfl⟩⟩, Below.refl _ _⟩
  case round =>
    obtain ⟨k, ao, cp, ps, hk, rfl, rfl, hP, hpl, hO, hB⟩ := hrel
    have HB : Hid (Below w.heap.size w wr) := B1.out.trans (hB.out.mono B1.out.size)
    by_cases hlt : k < L.length
    · have hlt' : (k : Int) < (L.length : Int) := by omega
      have hk0 : (0 : Int) ≤ (k : Int) := by omega
      obtain ⟨b, o, c, rfl, hc, hat⟩ := (HA.out _ HB.out).at hlt
      obtain ⟨c0, c1, c2, c3⟩ := hat.cells hc
      by_cases hw : m < c.us
      · have HP1 : Hid (ps ++ [(k : Int)] = wornTo L m (k + 1)) := by show _ = _; rw [hP.out, wornTo_yes hc hw]
        clear hc hat
        obtain ⟨i0, hi, hz0, hz1, hz2⟩ := info_parts infoInt
        have hbase : w1.heap.size ≤ wr.heap.size := hB.out.size
        have c4 : Hid (ps.length + 1 ≤ maxLen) := by show ps.length + 1 ≤ maxLen; unfold maxLen; omega
        have BX := Lib.hid (balloc (w := w1) (w1 := wr) hB.out (.cells #[.int .i64 c.le, .int .i64 c.wi, .int .i64 c.he, .int .i64 c.us] 47))
        have OX := Lib.hid (hO.out.alloc (.cells #[.int .i64 c.le, .int .i64 c.wi, .int .i64 c.he, .int .i64 c.us] 47))
        have hzx : (wr.alloc (.cells #[.int .i64 c.le, .int .i64 c.wi, .int .i64 c.he, .int .i64 c.us] 47)).heap.size = wr.heap.size + 1 := by simp
        have LT := lit8 w1.heap.size (wr.alloc (.cells #[.int .i64 c.le, .int .i64 c.wi, .int .i64 c.he, .int .i64 c.us] 47)) (.int .i64 (k : Int)) (by rw [hzx]; omega)
        rw [hzx] at LT
        have LT := Lib.hid LT
        clear hzx
        go_wp2_with (at_builtin; go_must ((refine wpList_append_own _ rfl _ _ 27 rfl w1.heap.size 2 i0 (.int .i64 0) 1 8 Tryd.underlying27 hi hz0 hz1 hz2 rfl (by decide) (.slice ao ps.length cp) ps.length (intVals ps) rfl (OX.out.alloc _) ⟨wr.heap.size + 1, 0, none⟩ 1 1 [.int .i64 (k : Int)] rfl rfl (LT.out.cells rfl) (by simp [Value.oneCell']) c4.out (by omega) (by simp; omega) ?_; intro v4 w4 hown4 hgrow4 _; obtain ⟨g4, cp4, hv4⟩ := own_form8 hown4 (Nat.succ_ne_zero _); subst hv4; have O4 := Lib.hid hown4; have B4 : Hid (Below w1.heap.size w1 w4) := (balloc BX.out _).grown hgrow4 (by simp; omega) (fun q hq => (OX.out.lt q hq).1); clear hown4 hgrow4)))
        go_roundw
        case rel =>
          refine ⟨k + 1, some ⟨g4, 0, none⟩, cp4, ps ++ [(k : Int)], by omega, by simp, by go_num, HP1.out, by simp; omega, ?_, B4.out⟩
          have h := O4.out
          show World.ownsRow _ _ _ _ _ _ _
          have e : intVals (ps ++ [(k : Int)]) = intVals ps ++ [.int .i64 (k : Int)] := by simp [intVals]
          rw [e, List.length_append]
          exact h
        case measure => simp [intOf]; omega
      · have HP1 : Hid (ps = wornTo L m (k + 1)) := by show _ = _; rw [hP.out, wornTo_no hc hw]
        clear hc hat
        go_wp2
        go_roundw
        case rel => exact ⟨k + 1, ao, cp, ps, by omega, rfl, by go_num, HP1.out, by omega, hO.out.alloc _, balloc hB.out _⟩
        case measure => simp [intOf]; omega
    · have hge : ¬ (k : Int) < (L.length : Int) := by omega
      have hkn : k = L.length := by omega
      subst hkn
      have HR : Hid (IntRes w.heap.size ps ao wr) := int_res (row_down hO.out B1.out.size)
      go_wp2
      go_ret2
      rw [← hP.out]
      first | exact ⟨ao, ⟨cp, rfl⟩, HR.out, HB.out⟩ | exact ⟨ao, cp, rfl, HR.out, HB.out⟩
end Go.Proofs.YtdandhmallbemaaDoor
