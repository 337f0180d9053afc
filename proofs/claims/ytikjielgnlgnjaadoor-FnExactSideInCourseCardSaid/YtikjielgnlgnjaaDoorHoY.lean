/-
  RunsThrough, SideInCourse, CourseAround, QuoinLap: the model's word.
-/
import Derived.Test.YtikjielgnlgnjaaDoorHoX
namespace Go.Proofs.YtikjielgnlgnjaaDoor
open Go.ChangeShapes Go.WideShapes Go.ChangeAt Go.RowKit Go.Joins

set_option maxHeartbeats 1600000 in
theorem runsThrough_spec (P : List Int) (T : ByteArray) (a : Option Addr) (cap : Nat) (hl : P.length ≤ 1048576) (hs : T.size ≤ 1048576) (k c : Int) (w : World) (ha : IntArg w a P) :
    Calls Tryd.prog 22 #[.agg #[.slice a P.length cap, .string T], .int .i64 k, .int .i64 c] w fun e w' => e = .returned (.tuple #[.bool (rtV P T k c), .int .i64 (hoK P T k c)]) ∧ Below w.heap.size w w' := by
  obtain ⟨W0, hW⟩ : ∃ W0, w.alloc (.cells #[.slice a P.length cap, .string T] 27) = W0 := ⟨_, rfl⟩
  have E0 : Hid (Below w.heap.size w W0) := by show Below w.heap.size w W0; rw [← hW]; exact balloc0 _ _
  have HB : Hid (HoBox w.heap.size a cap P T W0) := by show HoBox _ _ _ _ _ _; rw [← hW]; exact HoBox.new w _
  have C := Lib.hid (codeH_spec P T a cap hl hs k c w.heap.size W0 HB.out (ha.later E0.out))
  have HW := Lib.hid hW
  clear hW ha
  by_cases hc : hoK P T k c = 0
  case neg =>
    rw [show rtV P T k c = false from by simp [rtV, hc]]
    obtain ⟨q, hq⟩ : ∃ q, hoK P T k c = q := ⟨_, rfl⟩
    rw [hq] at C hc ⊢
    clear hq
    go_enter Tryd.func22, Tryd.ntmps22
    go_wp2_with fail
    rw [HW.out]
    refine C.out.mono ?_
    rintro e w1 ⟨rfl, hb1⟩
    have B1 := Lib.hid (bnext E0.out hb1)
    clear hb1
    go_wp2
    go_ret2
    exact ⟨rfl, B1.out⟩
  obtain ⟨ho, hk, hcc⟩ := hoK_zero hc
  obtain ⟨_, h12, _, _⟩ := okHo_size ho
  have TH := Lib.hid (thru_spec k c (by omega) (by omega))
  rw [show rtV P T k c = thruB k c from by simp [rtV, hc]]
  rw [hc] at C ⊢
  obtain ⟨b, hb⟩ : ∃ b, thruB k c = b := ⟨_, rfl⟩
  rw [hb] at TH ⊢
  clear hb hc ho
  go_enter Tryd.func22, Tryd.ntmps22
  go_wp2_with fail
  rw [HW.out]
  refine C.out.mono ?_
  rintro e w1 ⟨rfl, hb1⟩
  have B1 := Lib.hid (bnext E0.out hb1)
  clear hb1
  go_wp2_with fail
  refine (TH.out _).mono ?_
  rintro e w2 ⟨rfl, rfl⟩
  go_wp2
  go_ret2
  exact ⟨rfl, B1.out⟩
set_option maxHeartbeats 1600000 in
theorem sideInCourse_spec (P : List Int) (T : ByteArray) (a : Option Addr) (cap : Nat) (hl : P.length ≤ 1048576) (hs : T.size ≤ 1048576) (k c : Int) (w : World) (ha : IntArg w a P) :
    Calls Tryd.prog 24 #[.agg #[.slice a P.length cap, .string T], .int .i64 k, .int .i64 c] w fun e w' => e = .returned (.tuple #[.int .i64 (siV P T k c), .int .i64 (hoK P T k c)]) ∧ Below w.heap.size w w' := by
  obtain ⟨W0, hW⟩ : ∃ W0, w.alloc (.cells #[.slice a P.length cap, .string T] 27) = W0 := ⟨_, rfl⟩
  have E0 : Hid (Below w.heap.size w W0) := by show Below w.heap.size w W0; rw [← hW]; exact balloc0 _ _
  have HB : Hid (HoBox w.heap.size a cap P T W0) := by show HoBox _ _ _ _ _ _; rw [← hW]; exact HoBox.new w _
  have HA := Lib.hid (ha.later E0.out)
  have C := Lib.hid (codeH_spec P T a cap hl hs k c w.heap.size W0 HB.out HA.out)
  have HW := Lib.hid hW
  clear hW ha
  by_cases hc : hoK P T k c = 0
  case neg =>
    rw [show siV P T k c = 0 from by simp [siV, hc]]
    obtain ⟨q, hq⟩ : ∃ q, hoK P T k c = q := ⟨_, rfl⟩
    rw [hq] at C hc ⊢
    clear hq
    go_enter Tryd.func24, Tryd.ntmps24
    go_wp2_with fail
    rw [HW.out]
    refine C.out.mono ?_
    rintro e w1 ⟨rfl, hb1⟩
    have B1 := Lib.hid (bnext E0.out hb1)
    clear hb1
    go_wp2
    go_ret2
    exact ⟨rfl, B1.out⟩
  obtain ⟨ho, hk, hcc⟩ := hoK_zero hc
  obtain ⟨_, h12, _, hr⟩ := okHo_size ho
  have SD := Lib.hid (fun wx hb h => side_spec P T a cap hr h12 k c hk hcc w.heap.size wx hb h)
  rw [show siV P T k c = sideV P k c from by simp [siV, hc]]
  rw [hc] at C ⊢
  obtain ⟨q, hq⟩ : ∃ q, sideV P k c = q := ⟨_, rfl⟩
  rw [hq] at SD ⊢
  clear hq hc ho hr
  go_enter Tryd.func24, Tryd.ntmps24
  go_wp2_with fail
  rw [HW.out]
  refine C.out.mono ?_
  rintro e w1 ⟨rfl, hb1⟩
  have B1 := Lib.hid (bnext E0.out hb1)
  have S1 := Lib.hid (SD.out w1 (HB.out.later hb1) (HA.out.later hb1))
  clear hb1
  go_wp2_with fail
  refine S1.out.mono ?_
  rintro e w2 ⟨rfl, rfl⟩
  go_wp2
  go_ret2
  exact ⟨rfl, B1.out⟩
set_option maxHeartbeats 1600000 in
theorem quoinLap_spec (P : List Int) (T : ByteArray) (a : Option Addr) (cap : Nat) (hl : P.length ≤ 1048576) (hs : T.size ≤ 1048576) (k : Int) (b : Bool) (w : World) (ha : IntArg w a P) :
    Calls Tryd.prog 37 #[.agg #[.slice a P.length cap, .string T], .int .i64 k, .bool b] w fun e w' => e = .returned (.tuple #[.int .i64 (qlV P T k b), .int .i64 (hoK P T k 0)]) ∧ Below w.heap.size w w' := by
  obtain ⟨W0, hW⟩ : ∃ W0, w.alloc (.cells #[.slice a P.length cap, .string T] 27) = W0 := ⟨_, rfl⟩
  have E0 : Hid (Below w.heap.size w W0) := by show Below w.heap.size w W0; rw [← hW]; exact balloc0 _ _
  have HB : Hid (HoBox w.heap.size a cap P T W0) := by show HoBox _ _ _ _ _ _; rw [← hW]; exact HoBox.new w _
  have C := Lib.hid (codeH_spec P T a cap hl hs k 0 w.heap.size W0 HB.out (ha.later E0.out))
  have HW := Lib.hid hW
  clear hW ha
  by_cases hc : hoK P T k 0 = 0
  case neg =>
    rw [show qlV P T k b = 0 from by simp [qlV, hc]]
    obtain ⟨q, hq⟩ : ∃ q, hoK P T k 0 = q := ⟨_, rfl⟩
    rw [hq] at C hc ⊢
    clear hq
    go_enter Tryd.func37, Tryd.ntmps37
    go_wp2_with fail
    rw [HW.out]
    refine C.out.mono ?_
    rintro e w1 ⟨rfl, hb1⟩
    have B1 := Lib.hid (bnext E0.out hb1)
    clear hb1
    go_wp2
    go_ret2
    exact ⟨rfl, B1.out⟩
  cases b
  all_goals
    rw [show qlV P T k _ = _ from by unfold qlV; rw [if_pos hc]]
    rw [hc] at C ⊢
    go_enter Tryd.func37, Tryd.ntmps37
    go_wp2_with fail
    rw [HW.out]
    refine C.out.mono ?_
    rintro e w1 ⟨rfl, hb1⟩
    have B1 := Lib.hid (bnext E0.out hb1)
    clear hb1
    go_wp2
    go_ret2
    exact ⟨rfl, B1.out⟩
/-- Lengths and a code are handed back. -/
def CaAns (w : World) (P : List Int) (T : ByteArray) (c : Int) (e : Ending) (w' : World) : Prop := ∃ a cap, e = .returned (.tuple #[.slice a (caV P T c).length cap, .int .i64 (hoK P T 0 c)]) ∧ IntRes w.heap.size (caV P T c) a w' ∧ Below w.heap.size w w'
set_option maxRecDepth 100000 in
set_option maxHeartbeats 3200000 in
theorem courseAround_spec (P : List Int) (T : ByteArray) (a : Option Addr) (cap : Nat) (hl : P.length ≤ 1048576) (hs : T.size ≤ 1048576) (c : Int) (w : World) (ha : IntArg w a P) :
    Calls Tryd.prog 26 #[.agg #[.slice a P.length cap, .string T], .int .i64 c] w (CaAns w P T c) := by
  unfold CaAns
  obtain ⟨W0, hW⟩ : ∃ W0, w.alloc (.cells #[.slice a P.length cap, .string T] 27) = W0 := ⟨_, rfl⟩
  have E0 : Hid (Below w.heap.size w W0) := by show Below w.heap.size w W0; rw [← hW]; exact balloc0 _ _
  have HB : Hid (HoBox w.heap.size a cap P T W0) := by show HoBox _ _ _ _ _ _; rw [← hW]; exact HoBox.new w _
  have z0 : W0.heap.size = w.heap.size + 1 := by rw [← hW]; simp
  have HA := Lib.hid (ha.later E0.out)
  have C := Lib.hid (codeH_spec P T a cap hl hs 0 c w.heap.size W0 HB.out HA.out)
  have HW := Lib.hid hW
  clear hW ha
  by_cases hc : hoK P T 0 c = 0
  case neg =>
    rw [show caV P T c = [] from by simp [caV, hc]]
    obtain ⟨q, hq⟩ : ∃ q, hoK P T 0 c = q := ⟨_, rfl⟩
    rw [hq] at C hc ⊢
    clear hq
    go_enter Tryd.func26, Tryd.ntmps26
    go_wp2_with fail
    rw [HW.out]
    refine C.out.mono ?_
    rintro e w1 ⟨rfl, hb1⟩
    have B1 := Lib.hid (bnext E0.out hb1)
    clear hb1
    go_wp2
    go_ret2
    exact ⟨none, 0, rfl, .inl rfl, B1.out⟩
  obtain ⟨ho, _, hcc⟩ := hoK_zero hc
  obtain ⟨_, h12, _, hr⟩ := okHo_size ho
  have SD := Lib.hid (fun k hk wx hb h => side_spec P T a cap hr h12 k c hk hcc w.heap.size wx hb h)
  rw [show caV P T c = cour P c P.length from by simp [caV, hc]]
  rw [hc] at C ⊢
  clear hc ho hr
  go_enter Tryd.func26, Tryd.ntmps26
  go_wp2_with fail
  rw [HW.out]
  refine C.out.mono ?_
  rintro e w1 ⟨rfl, hb1⟩
  have B1 := Lib.hid (bnext E0.out hb1)
  have HB1 := Lib.hid (HB.out.later hb1)
  have HA1 := Lib.hid (HA.out.later hb1)
  have hz1 : w.heap.size + 1 ≤ w1.heap.size := by have := hb1.size; omega
  clear hb1
  have S0 := Lib.hid (nums_start w1)
  go_wp2
  go_loopw [7, 8] (fun v i wr => ∃ (k g cap : Nat) (ps : List Int), v = .slice (some ⟨g, 0, none⟩) ps.length cap ∧ i = .int .i64 (k : Int) ∧ k ≤ P.length ∧ Hid (ps.length = k) ∧ Hid (ps = cour P c k) ∧ Hid (NumsAt w1 ps g cap wr)) (fun _ i _ => P.length - (intOf i).toNat)
  case atStart => exact ⟨0, w1.heap.size, 0, [], rfl, rfl, Nat.zero_le _, rfl, rfl, S0.out⟩
  case round =>
    obtain ⟨k, g, cp, ps, rfl, rfl, hk, hpl, hP, hD⟩ := hrel
    have hB := Lib.hid hD.out.2.1
    obtain ⟨d0, d1⟩ := HB1.out.later hB.out
    by_cases hlt : k < P.length
    · have hlt' : (k : Int) < (P.length : Int) := by omega
      have hk0 : (0 : Int) ≤ (k : Int) := by omega
      have S1 := Lib.hid (SD.out (k : Int) (by omega) wr (HB1.out.later hB.out) (HA1.out.later hB.out))
      have hN : Hid (cour P c (k + 1) = cour P c k ++ [sideV P (k : Int) c]) := cour_succ _ _ _
      obtain ⟨q, hq⟩ : ∃ q, sideV P (k : Int) c = q := ⟨_, rfl⟩
      rw [hq] at S1 hN
      clear hq
      have hbase : w1.heap.size ≤ wr.heap.size := by have := hD.out.2.2; omega
      have hps := hpl.out
      have c3 : Hid (ps.length + 1 ≤ maxLen) := by show ps.length + 1 ≤ maxLen; unfold maxLen; omega
      have c4 : ps.length ≤ 250 := by omega
      clear hps
      obtain ⟨i0, hi, hz0, hz1', hz2⟩ := info_parts infoInt
      go_wp2_with fail
      refine S1.out.mono ?_
      rintro e w2 ⟨rfl, rfl⟩
      go_wp2_with (at_builtin; go_must ((refine wpList_append_own _ rfl _ _ 22 rfl w1.heap.size 2 i0 (.int .i64 0) 1 8 Tryd.underlying22 hi hz0 hz1' hz2 rfl (by decide) (.slice (some ⟨g, 0, none⟩) ps.length cp) ps.length (intVals ps) rfl (hD.out.1.alloc _) ⟨wr.heap.size, 0, none⟩ 1 1 [.int .i64 q] rfl rfl ((lit8 w1.heap.size wr _ hbase).cells rfl) (by simp [Value.oneCell']) c3.out (by omega) (by simp; omega) ?_; intro v1 w3 hown1 hgrow1 _; obtain ⟨g', cap', hv, hD'⟩ := nums_step hD.out hown1 hgrow1; subst hv; have D2 := Lib.hid hD'; clear hD' hown1 hgrow1)))
      go_roundw
      case rel => exact ⟨k + 1, g', cap', ps ++ [q], by simp, by go_num, by omega, by have := hpl.out; show (ps ++ [q]).length = k + 1; simp; omega, by show ps ++ [q] = cour P c (k + 1); rw [hN.out, hP.out], D2.out⟩
      case measure => simp [intOf]; omega
    · have hge : ¬ (k : Int) < (P.length : Int) := by omega
      have hkn : k = P.length := by omega
      have HP : Hid (ps = cour P c P.length) := by show ps = _; rw [hP.out, hkn]
      have HO : Hid (IntOwn w.heap.size ps g wr) := ⟨by have := hD.out.own.1; omega, hD.out.own.2⟩
      go_wp2
      go_ret2
      exact ⟨some ⟨g, 0, none⟩, ⟨cp, by rw [← HP.out]; rfl⟩, .inr ⟨g, rfl, by rw [← HP.out]; exact HO.out⟩, bnext B1.out hB.out⟩
end Go.Proofs.YtikjielgnlgnjaaDoor
