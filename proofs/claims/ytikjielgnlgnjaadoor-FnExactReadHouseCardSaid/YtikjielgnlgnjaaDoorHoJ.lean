/-
  Plans by the program: their codes, lengths around, sides that run through, sides in courses.
-/
import Derived.Test.YtikjielgnlgnjaaDoorHoI
import Derived.Test.YtikjielgnlgnjaaDoorHoV
namespace Go.Proofs.YtikjielgnlgnjaaDoor
open Go.ChangeShapes Go.WideShapes Go.ChangeAt Go.RowKit Go.Joins

set_option maxHeartbeats 1600000 in
theorem checkHouse_impl (P : List Int) (T : ByteArray) (a : Option Addr) (cap : Nat) (hl : P.length ≤ 1048576) (hs : T.size ≤ 1048576) (k c : Int) (w : World) (ha : IntArg w a P) (hd : DirAt w) :
    Calls Tryd.prog 59 #[.agg #[.slice a P.length cap, .string T], .int .i64 k, .int .i64 c] w fun e w' => e = .returned (.int .i64 (hoK P T k c)) ∧ Below w.heap.size w w' := by
  have K := house_new w (.slice a P.length cap) T 27
  obtain ⟨W0, hW⟩ : ∃ W0, w.alloc (.cells #[.slice a P.length cap, .string T] 27) = W0 := ⟨_, rfl⟩
  have E0 : Hid (Below w.heap.size w W0) := by show Below w.heap.size w W0; rw [← hW]; exact balloc0 _ _
  rw [hW] at K
  have C := Lib.hid (validHouse_impl P T a cap hl hs W0 (ha.later E0.out) (hd.later E0.out))
  have HW := Lib.hid hW
  have IK := Lib.hid (wa_impl k 0 ((P.length : Int) - 1))
  have IC := Lib.hid (wa_impl c 0 1000)
  obtain ⟨d0, d1⟩ := K.out _ (Below.refl _ _)
  clear hW ha hd
  rcases hoK_cases P T k c with ⟨h1, h4⟩ | ⟨h1, h2, h4⟩ | ⟨h1, h2, h3, h4⟩ | ⟨h1, h2, h3, h4⟩
  · rw [h4]
    rw [h1] at C
    clear h1 h4
    go_enter Tryd.func59, Tryd.ntmps59
    go_wp2_with fail
    rw [HW.out]
    go_wp2_with fail
    refine C.out.mono ?_
    rintro e w1 ⟨rfl, hb1⟩
    have B1 := Lib.hid (bnext E0.out hb1)
    clear hb1
    go_wp2
    go_ret
    exact ⟨rfl, B1.out⟩
  · rw [h4]
    rw [h1] at C
    rw [inB_false.2 h2] at IK
    clear h1 h4 h2
    go_enter Tryd.func59, Tryd.ntmps59
    go_wp2_with fail
    rw [HW.out]
    go_wp2_with fail
    refine C.out.mono ?_
    rintro e w1 ⟨rfl, hb1⟩
    have B1 := Lib.hid (bnext E0.out hb1)
    clear d0 d1
    obtain ⟨d0, d1⟩ := K.out _ hb1
    clear hb1
    go_wp2_with (go_at_call 82; refine (IK.out _).mono ?_; rintro e w2 ⟨rfl, rfl⟩)
    go_ret
    exact ⟨rfl, B1.out⟩
  · rw [h4]
    rw [h1] at C
    rw [inB_true.2 h2] at IK
    rw [inB_false.2 h3] at IC
    clear h1 h4 h2 h3
    go_enter Tryd.func59, Tryd.ntmps59
    go_wp2_with fail
    rw [HW.out]
    go_wp2_with fail
    refine C.out.mono ?_
    rintro e w1 ⟨rfl, hb1⟩
    have B1 := Lib.hid (bnext E0.out hb1)
    clear d0 d1
    obtain ⟨d0, d1⟩ := K.out _ hb1
    clear hb1
    go_wp2_with fail
    refine (IK.out _).mono ?_
    rintro e w2 ⟨rfl, rfl⟩
    go_wp2_with fail
    refine (IC.out _).mono ?_
    rintro e w3 ⟨rfl, rfl⟩
    go_wp2
    go_ret
    exact ⟨rfl, B1.out⟩
  · rw [h4]
    rw [h1] at C
    rw [inB_true.2 h2] at IK
    rw [inB_true.2 h3] at IC
    clear h1 h4 h2 h3
    go_enter Tryd.func59, Tryd.ntmps59
    go_wp2_with fail
    rw [HW.out]
    go_wp2_with fail
    refine C.out.mono ?_
    rintro e w1 ⟨rfl, hb1⟩
    have B1 := Lib.hid (bnext E0.out hb1)
    clear d0 d1
    obtain ⟨d0, d1⟩ := K.out _ hb1
    clear hb1
    go_wp2_with fail
    refine (IK.out _).mono ?_
    rintro e w2 ⟨rfl, rfl⟩
    go_wp2_with fail
    refine (IC.out _).mono ?_
    rintro e w3 ⟨rfl, rfl⟩
    go_wp2
    go_ret
    exact ⟨rfl, B1.out⟩
theorem thru_impl (k c : Int) (hk : 0 ≤ k ∧ k ≤ 1000000) (hc : 0 ≤ c ∧ c ≤ 1000000) (w : World) : Calls Tryd.prog 60 #[.int .i64 k, .int .i64 c] w fun e w' => e = .returned (.bool (thruB k c)) ∧ w = w' := by
  by_cases h : (k + c).tmod 2 = 0
  · go_enter Tryd.func60, Tryd.ntmps60
    go_wp2
    go_ret
    exact ⟨ret_bool (by unfold thruB; rw [decide_eq_true h]), rfl⟩
  · go_enter Tryd.func60, Tryd.ntmps60
    go_wp2
    go_ret
    exact ⟨ret_bool (by unfold thruB; rw [decide_eq_false h]; rw [Int.tmod_eq_emod_of_nonneg (by omega)] at h; simpa using h), rfl⟩
set_option maxHeartbeats 1600000 in
theorem sumAll_impl (P : List Int) (hr : runsB P = true) (h12 : P.length ≤ 12) (a : Option Addr) (cap : Nat) (w : World) (ha : IntArg w a P) :
    Calls Tryd.prog 56 #[.slice a P.length cap] w fun e w' => e = .returned (.int .i64 P.sum) ∧ w = w' := by
  have HA := Lib.hid ha
  have HR := Lib.hid hr
  clear ha hr
  go_enter Tryd.func56, Tryd.ntmps56
  go_wp2
  go_loop [3, 9] (fun t i => ∃ (k : Nat) (q : Int), k ≤ P.length ∧ t = .int .i64 q ∧ i = .int .i64 (k : Int) ∧ Hid (sumT P k = q)) (fun _ i => P.length - (intOf i).toNat)
  case atStart => exact ⟨0, 0, Nat.zero_le _, rfl, rfl, sumT_zero P⟩
  case round =>
    obtain ⟨k, q, hk, rfl, rfl, hq⟩ := hrel
    have hb := sumT_le HR.out k hk
    rw [hq.out] at hb
    by_cases hlt : k < P.length
    · have hlt' : (k : Int) < (P.length : Int) := by omega
      have hk0 : (0 : Int) ≤ (k : Int) := by omega
      obtain ⟨bb, o, z, rfl, hz, hat⟩ := HA.out.at hlt
      have c0 := hat k z hz
      have hzb := runsB_at HR.out hz
      have HS : Hid (sumT P (k + 1) = q + z) := by show _ = _; rw [sumT_succ hz, hq.out]
      clear hat hz
      go_wp2
      go_round
      case rel => exact ⟨k + 1, q + z, by omega, rfl, by go_num, HS.out⟩
      case measure => simp [intOf]; omega
    · have hge : ¬ (k : Int) < (P.length : Int) := by omega
      have HS : Hid (P.sum = q) := by show _ = _; rw [← hq.out, sumT_all (by omega)]
      go_wp2
      go_ret
      exact ⟨by rw [HS.out]; rfl, rfl⟩
set_option maxRecDepth 100000 in
set_option maxHeartbeats 1600000 in
theorem roundHouse_impl (P : List Int) (T : ByteArray) (a : Option Addr) (cap : Nat) (hl : P.length ≤ 1048576) (hs : T.size ≤ 1048576) (w : World) (ha : IntArg w a P) (hd : DirAt w) :
    Calls Tryd.prog 21 #[.agg #[.slice a P.length cap, .string T]] w fun e w' => e = .returned (.tuple #[.int .i64 (rhV P T), .int .i64 (hoC P T)]) ∧ Below w.heap.size w w' := by
  have K := house_new w (.slice a P.length cap) T 27
  obtain ⟨W0, hW⟩ : ∃ W0, w.alloc (.cells #[.slice a P.length cap, .string T] 27) = W0 := ⟨_, rfl⟩
  have E0 : Hid (Below w.heap.size w W0) := by show Below w.heap.size w W0; rw [← hW]; exact balloc0 _ _
  rw [hW] at K
  have HA := Lib.hid (ha.later E0.out)
  have C := Lib.hid (validHouse_impl P T a cap hl hs W0 HA.out (hd.later E0.out))
  have HW := Lib.hid hW
  obtain ⟨d0, d1⟩ := K.out _ (Below.refl _ _)
  clear hW ha hd
  cases h : okHo P T
  · obtain ⟨e1, e2⟩ := rh_bad h
    rw [e1, e2]
    rw [h] at C
    clear e1 e2 h
    go_enter Tryd.func21, Tryd.ntmps21
    go_wp2_with fail
    rw [HW.out]
    go_wp2_with fail
    refine C.out.mono ?_
    rintro e w1 ⟨rfl, hb1⟩
    have B1 := Lib.hid (bnext E0.out hb1)
    clear hb1
    go_wp2
    go_ret2
    exact ⟨rfl, B1.out⟩
  · obtain ⟨e1, e2⟩ := rh_good h
    rw [e1, e2]
    rw [h] at C
    obtain ⟨_, h12, _, hr⟩ := okHo_size h
    have SM := Lib.hid (fun wx hx => sumAll_impl P hr h12 a cap wx hx)
    obtain ⟨q, hq⟩ : ∃ q, P.sum = q := ⟨_, rfl⟩
    rw [hq] at SM ⊢
    clear e1 e2 h hr hq
    go_enter Tryd.func21, Tryd.ntmps21
    go_wp2_with fail
    rw [HW.out]
    go_wp2_with fail
    refine C.out.mono ?_
    rintro e w1 ⟨rfl, hb1⟩
    have B1 := Lib.hid (bnext E0.out hb1)
    have HA1 := Lib.hid (HA.out.later hb1)
    clear d0 d1
    obtain ⟨d0, d1⟩ := K.out _ hb1
    clear hb1
    go_wp2_with fail
    refine (SM.out _ HA1.out).mono ?_
    rintro e w2 ⟨rfl, rfl⟩
    go_wp2
    go_ret2
    exact ⟨rfl, B1.out⟩
set_option maxHeartbeats 1600000 in
theorem side_impl (P : List Int) (T : ByteArray) (a : Option Addr) (cap : Nat) (hr : runsB P = true) (h12 : P.length ≤ 12) (k c : Int) (hk : 0 ≤ k ∧ k ≤ (P.length : Int) - 1) (hc : 0 ≤ c ∧ c ≤ 1000) (w : World) (ha : IntArg w a P) :
    Calls Tryd.prog 62 #[.agg #[.slice a P.length cap, .string T], .int .i64 k, .int .i64 c] w fun e w' => e = .returned (.int .i64 (sideV P k c)) ∧ Below w.heap.size w w' := by
  have ha := ha.later (balloc0 w (.cells #[.slice a P.length cap, .string T] 27))
  obtain ⟨d0, d1⟩ := boxH w (.slice a P.length cap) T 27
  obtain ⟨n, rfl⟩ : ∃ n : Nat, k = (n : Int) := ⟨k.toNat, by omega⟩
  have hn : n < P.length := by omega
  obtain ⟨bb, o, z, rfl, hz, hat⟩ := ha.at hn
  have c0 := hat n z hz
  have hzb := runsB_at hr hz
  have hlt' : (n : Int) < (P.length : Int) := by omega
  have hn0 : (0 : Int) ≤ (n : Int) := by omega
  have hpos : (P.length : Int) ≠ 0 := by omega
  have hj0 : 0 ≤ ((n : Int) + (P.length : Int) - 1).tmod (P.length : Int) := Int.tmod_nonneg _ (by omega)
  have hj1 : ((n : Int) + (P.length : Int) - 1).tmod (P.length : Int) < (P.length : Int) := Int.tmod_lt_of_pos _ (by omega)
  have hv : Hid (sideV P (n : Int) c = z - (if thruB (((n : Int) + (P.length : Int) - 1).tmod (P.length : Int)) c = true then 2 else 0) - (if thruB (n : Int) c = true then 0 else 2)) := by
    show _ = _
    unfold sideV
    rw [List.getD_eq_getElem?_getD, Int.toNat_natCast, hz]
    rfl
  obtain ⟨j, hj⟩ : ∃ j, ((n : Int) + (P.length : Int) - 1).tmod (P.length : Int) = j := ⟨_, rfl⟩
  have hw : IntKind.i64.wrap ((n : Int) + (P.length : Int) - 1) = (n : Int) + (P.length : Int) - 1 := IntWalk.i64_in _ (by omega)
  rw [hj] at hj0 hj1 hv
  have TS := Lib.hid (thru_impl (n : Int) c (by omega) (by omega))
  have TJ := Lib.hid (thru_impl j c (by omega) (by omega))
  clear hat hz hk ha
  cases t1 : thruB (n : Int) c <;> cases t2 : thruB j c
  all_goals
    rw [t1] at TS hv
    rw [t2] at TJ hv
    clear t1 t2
    go_enter Tryd.func62, Tryd.ntmps62
    go_wp2_with fail
    try rw [hj]
    refine (TJ.out _).mono ?_
    rintro e w2 ⟨rfl, rfl⟩
    go_wp2_with fail
    refine (TS.out _).mono ?_
    rintro e w1 ⟨rfl, rfl⟩
    go_wp2
    go_ret
    exact ⟨by rw [hv.out]; simp; try omega, balloc0 _ _⟩
set_option maxHeartbeats 1600000 in
theorem runsThrough_impl (P : List Int) (T : ByteArray) (a : Option Addr) (cap : Nat) (hl : P.length ≤ 1048576) (hs : T.size ≤ 1048576) (k c : Int) (w : World) (ha : IntArg w a P) (hd : DirAt w) :
    Calls Tryd.prog 23 #[.agg #[.slice a P.length cap, .string T], .int .i64 k, .int .i64 c] w fun e w' => e = .returned (.tuple #[.bool (rtV P T k c), .int .i64 (hoK P T k c)]) ∧ Below w.heap.size w w' := by
  have K := house_new w (.slice a P.length cap) T 27
  obtain ⟨W0, hW⟩ : ∃ W0, w.alloc (.cells #[.slice a P.length cap, .string T] 27) = W0 := ⟨_, rfl⟩
  have E0 : Hid (Below w.heap.size w W0) := by show Below w.heap.size w W0; rw [← hW]; exact balloc0 _ _
  rw [hW] at K
  have HA := Lib.hid (ha.later E0.out)
  have HD := Lib.hid (hd.later E0.out)
  have HW := Lib.hid hW
  obtain ⟨d0, d1⟩ := K.out _ (Below.refl _ _)
  have C := Lib.hid (checkHouse_impl P T a cap hl hs k c W0 HA.out HD.out)
  clear hW ha hd
  by_cases hc : hoK P T k c = 0
  case neg =>
    rw [show rtV P T k c = false from by simp [rtV, hc]]
    obtain ⟨q, hq⟩ : ∃ q, hoK P T k c = q := ⟨_, rfl⟩
    rw [hq] at C hc ⊢
    clear hq
    go_enter Tryd.func23, Tryd.ntmps23
    go_wp2_with fail
    rw [HW.out]
    go_wp2_with fail
    refine C.out.mono ?_
    rintro e w1 ⟨rfl, hb1⟩
    have B1 := Lib.hid (bnext E0.out hb1)
    clear hb1
    go_wp2
    go_ret2
    exact ⟨rfl, B1.out⟩
  obtain ⟨ho, hk, hcc⟩ := hoK_zero hc
  obtain ⟨_, h12, _, _⟩ := okHo_size ho
  have TH := Lib.hid (thru_impl k c (by omega) (by omega))
  rw [show rtV P T k c = thruB k c from by simp [rtV, hc]]
  rw [hc] at C ⊢
  obtain ⟨b, hb⟩ : ∃ b, thruB k c = b := ⟨_, rfl⟩
  rw [hb] at TH ⊢
  clear hb hc ho
  go_enter Tryd.func23, Tryd.ntmps23
  go_wp2_with fail
  rw [HW.out]
  go_wp2_with fail
  refine C.out.mono ?_
  rintro e w1 ⟨rfl, hb1⟩
  have B1 := Lib.hid (bnext E0.out hb1)
  have HA1 := Lib.hid (HA.out.later hb1)
  have KL := Lib.hid hb1
  clear d0 d1
  obtain ⟨d0, d1⟩ := K.out _ hb1
  clear hb1
  go_wp2_with fail
  refine (TH.out _).mono ?_
  rintro e w2 ⟨rfl, rfl⟩
  go_wp2
  go_ret2
  exact ⟨rfl, B1.out⟩
set_option maxHeartbeats 1600000 in
theorem sideInCourse_impl (P : List Int) (T : ByteArray) (a : Option Addr) (cap : Nat) (hl : P.length ≤ 1048576) (hs : T.size ≤ 1048576) (k c : Int) (w : World) (ha : IntArg w a P) (hd : DirAt w) :
    Calls Tryd.prog 25 #[.agg #[.slice a P.length cap, .string T], .int .i64 k, .int .i64 c] w fun e w' => e = .returned (.tuple #[.int .i64 (siV P T k c), .int .i64 (hoK P T k c)]) ∧ Below w.heap.size w w' := by
  have K := house_new w (.slice a P.length cap) T 27
  obtain ⟨W0, hW⟩ : ∃ W0, w.alloc (.cells #[.slice a P.length cap, .string T] 27) = W0 := ⟨_, rfl⟩
  have E0 : Hid (Below w.heap.size w W0) := by show Below w.heap.size w W0; rw [← hW]; exact balloc0 _ _
  rw [hW] at K
  have HA := Lib.hid (ha.later E0.out)
  have HD := Lib.hid (hd.later E0.out)
  have HW := Lib.hid hW
  obtain ⟨d0, d1⟩ := K.out _ (Below.refl _ _)
  have C := Lib.hid (checkHouse_impl P T a cap hl hs k c W0 HA.out HD.out)
  clear hW ha hd
  by_cases hc : hoK P T k c = 0
  case neg =>
    rw [show siV P T k c = 0 from by simp [siV, hc]]
    obtain ⟨q, hq⟩ : ∃ q, hoK P T k c = q := ⟨_, rfl⟩
    rw [hq] at C hc ⊢
    clear hq
    go_enter Tryd.func25, Tryd.ntmps25
    go_wp2_with fail
    rw [HW.out]
    go_wp2_with fail
    refine C.out.mono ?_
    rintro e w1 ⟨rfl, hb1⟩
    have B1 := Lib.hid (bnext E0.out hb1)
    clear hb1
    go_wp2
    go_ret2
    exact ⟨rfl, B1.out⟩
  obtain ⟨ho, hk, hcc⟩ := hoK_zero hc
  obtain ⟨_, h12, _, hr⟩ := okHo_size ho
  have SD := Lib.hid (fun wx h => side_impl P T a cap hr h12 k c hk hcc wx h)
  rw [show siV P T k c = sideV P k c from by simp [siV, hc]]
  rw [hc] at C ⊢
  obtain ⟨q, hq⟩ : ∃ q, sideV P k c = q := ⟨_, rfl⟩
  rw [hq] at SD ⊢
  clear hq hc ho hr
  go_enter Tryd.func25, Tryd.ntmps25
  go_wp2_with fail
  rw [HW.out]
  go_wp2_with fail
  refine C.out.mono ?_
  rintro e w1 ⟨rfl, hb1⟩
  have B1 := Lib.hid (bnext E0.out hb1)
  have HA1 := Lib.hid (HA.out.later hb1)
  have KL := Lib.hid hb1
  clear d0 d1
  obtain ⟨d0, d1⟩ := K.out _ hb1
  clear hb1
  go_wp2_with fail
  refine (SD.out _ HA1.out).mono ?_
  rintro e w2 ⟨rfl, hb2⟩
  have B2 := Lib.hid (bnext B1.out hb2)
  clear hb2
  go_wp2
  go_ret2
  exact ⟨rfl, B2.out⟩
end Go.Proofs.YtikjielgnlgnjaaDoor
