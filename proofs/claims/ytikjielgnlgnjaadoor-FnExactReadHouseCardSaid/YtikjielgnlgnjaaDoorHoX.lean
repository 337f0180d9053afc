/-
  Plans by the model: lengths around, sides that run through, sides in courses.
-/
import Derived.Test.YtikjielgnlgnjaaDoorHoT
import Derived.Test.YtikjielgnlgnjaaDoorHoV
import Derived.Deep.RegionWith
namespace Go.Proofs.YtikjielgnlgnjaaDoor
open Go.ChangeShapes Go.WideShapes Go.ChangeAt Go.RowKit Go.Joins

set_option maxRecDepth 100000 in
set_option maxHeartbeats 1600000 in
theorem roundHouse_spec (P : List Int) (T : ByteArray) (a : Option Addr) (cap : Nat) (hl : P.length ≤ 1048576) (hs : T.size ≤ 1048576) (w : World) (ha : IntArg w a P) :
    Calls Tryd.prog 20 #[.agg #[.slice a P.length cap, .string T]] w fun e w' => e = .returned (.tuple #[.int .i64 (rhV P T), .int .i64 (hoC P T)]) ∧ Below w.heap.size w w' := by
  obtain ⟨W0, hW⟩ : ∃ W0, w.alloc (.cells #[.slice a P.length cap, .string T] 27) = W0 := ⟨_, rfl⟩
  have E0 : Hid (Below w.heap.size w W0) := by show Below w.heap.size w W0; rw [← hW]; exact balloc0 _ _
  have HB : Hid (HoBox w.heap.size a cap P T W0) := by show HoBox _ _ _ _ _ _; rw [← hW]; exact HoBox.new w _
  have C := Lib.hid (okH_spec P T a cap hl hs w.heap.size W0 HB.out (ha.later E0.out))
  have HW := Lib.hid hW
  have HA := Lib.hid (ha.later E0.out)
  clear hW ha
  cases h : okHo P T
  · obtain ⟨e1, e2⟩ := rh_bad h
    rw [e1, e2]
    rw [h] at C
    clear e1 e2 h
    go_enter Tryd.func20, Tryd.ntmps20
    go_wp2_with fail
    rw [HW.out]
    refine C.out.mono ?_
    rintro e w1 ⟨rfl, hb1⟩
    have B1 := Lib.hid (bnext E0.out hb1)
    clear hb1
    go_wp2
    go_ret2
    exact ⟨rfl, B1.out⟩
  · obtain ⟨e1, e2⟩ := rh_good h
    rw [e1, e2]
    rw [h] at C
    obtain ⟨_, h12, _, hr⟩ := okHo_size h
    have HR := Lib.hid hr
    clear e1 e2 h hr
    go_enter Tryd.func20, Tryd.ntmps20
    go_wp2_with fail
    rw [HW.out]
    refine C.out.mono ?_
    rintro e w1 ⟨rfl, hb1⟩
    have B1 := Lib.hid (bnext E0.out hb1)
    have HB1 := Lib.hid (HB.out.later hb1)
    have HA1 := Lib.hid (HA.out.later hb1)
    clear hb1
    obtain ⟨d0, d1⟩ := HB1.out
    go_wp2
    go_loop [4, 5] (fun t i => ∃ (k : Nat) (q : Int), k ≤ P.length ∧ t = .int .i64 q ∧ i = .int .i64 (k : Int) ∧ Hid (sumT P k = q)) (fun _ i => P.length - (intOf i).toNat)
    case atStart => exact ⟨0, 0, Nat.zero_le _, rfl, rfl, sumT_zero P⟩
    case round =>
      obtain ⟨k, q, hk, rfl, rfl, hq⟩ := hrel
      have hb := sumT_le HR.out k hk
      rw [hq.out] at hb
      by_cases hlt : k < P.length
      · have hlt' : (k : Int) < (P.length : Int) := by omega
        have hk0 : (0 : Int) ≤ (k : Int) := by omega
        obtain ⟨bb, o, z, rfl, hz, hat⟩ := HA1.out.at hlt
        have c0 := hat k z hz
        have hzb := runsB_at HR.out hz
        have HS : Hid (sumT P (k + 1) = q + z) := by show _ = _; rw [sumT_succ hz, hq.out]
        clear hat hz
        go_wp2
        go_round
        case rel => exact ⟨k + 1, q + z, by omega, rfl, by go_num, HS.out⟩
        case measure => simp [intOf]; omega
      · have hge : ¬ (k : Int) < (P.length : Int) := by omega
        have HS : Hid (P.sum = q) := by show _ = _; rw [← hq.out, sumT_all (by omega)]
        go_wp2
        go_ret2
        exact ⟨by rw [HS.out]; rfl, B1.out⟩
theorem thru_spec (k c : Int) (hk : 0 ≤ k ∧ k ≤ 1000000) (hc : 0 ≤ c ∧ c ≤ 1000000) (w : World) : Calls Tryd.prog 58 #[.int .i64 k, .int .i64 c] w fun e w' => e = .returned (.bool (thruB k c)) ∧ w = w' := by
  by_cases h : (k + c).tmod 2 = 0
  · go_enter Tryd.func58, Tryd.ntmps58
    go_wp2
    go_ret
    exact ⟨ret_bool (by unfold thruB; rw [decide_eq_true h]), rfl⟩
  · go_enter Tryd.func58, Tryd.ntmps58
    go_wp2
    go_ret
    exact ⟨ret_bool (by unfold thruB; rw [decide_eq_false h]; rw [Int.tmod_eq_emod_of_nonneg (by omega)] at h; simpa using h), rfl⟩
set_option maxHeartbeats 1600000 in
theorem codeH_spec (P : List Int) (T : ByteArray) (a : Option Addr) (cap : Nat) (hl : P.length ≤ 1048576) (hs : T.size ≤ 1048576) (k c : Int) (b : Nat) (w : World) (hb : HoBox b a cap P T w) (ha : IntArg w a P) :
    Calls Tryd.prog 57 #[.pointer (some ⟨b, 0, none⟩), .int .i64 k, .int .i64 c] w fun e w' => e = .returned (.int .i64 (hoK P T k c)) ∧ Below w.heap.size w w' := by
  have C := Lib.hid (okH_spec P T a cap hl hs b w hb ha)
  have HB := Lib.hid hb
  have IK := Lib.hid (in_any k 0 ((P.length : Int) - 1))
  have IC := Lib.hid (in_any c 0 1000)
  clear hb ha
  rcases hoK_cases P T k c with ⟨h1, h4⟩ | ⟨h1, h2, h4⟩ | ⟨h1, h2, h3, h4⟩ | ⟨h1, h2, h3, h4⟩
  · rw [h4]
    rw [h1] at C
    clear h1 h4
    go_enter Tryd.func57, Tryd.ntmps57
    go_wp2_with fail
    refine C.out.mono ?_
    rintro e w1 ⟨rfl, hb1⟩
    have B1 := Lib.hid hb1
    clear hb1
    go_wp2
    go_ret
    exact ⟨rfl, B1.out⟩
  · rw [h4]
    rw [h1] at C
    rw [inB_false.2 h2] at IK
    clear h1 h4 h2
    go_enter Tryd.func57, Tryd.ntmps57
    go_wp2_with fail
    refine C.out.mono ?_
    rintro e w1 ⟨rfl, hb1⟩
    have B1 := Lib.hid hb1
    obtain ⟨d0, d1⟩ := HB.out.later hb1
    clear hb1
    go_wp2_with (go_at_call 69; refine (IK.out _).mono ?_; rintro e w2 ⟨rfl, rfl⟩)
    go_ret
    exact ⟨rfl, B1.out⟩
  · rw [h4]
    rw [h1] at C
    rw [inB_true.2 h2] at IK
    rw [inB_false.2 h3] at IC
    have hne : ¬ k = c ∨ k = c := by omega
    clear h1 h4 h2 h3
    go_enter Tryd.func57, Tryd.ntmps57
    go_wp2_with fail
    refine C.out.mono ?_
    rintro e w1 ⟨rfl, hb1⟩
    have B1 := Lib.hid hb1
    obtain ⟨d0, d1⟩ := HB.out.later hb1
    clear hb1
    go_wp2_with fail
    refine (IK.out _).mono ?_
    rintro e w2 ⟨rfl, rfl⟩
    go_wp2_with fail
    refine (IC.out _).mono ?_
    rintro e w3 ⟨rfl, rfl⟩
    go_wp2
    go_ret
    exact ⟨rfl, B1.out⟩
  · rw [h4]
    rw [h1] at C
    rw [inB_true.2 h2] at IK
    rw [inB_true.2 h3] at IC
    clear h1 h4 h2 h3
    go_enter Tryd.func57, Tryd.ntmps57
    go_wp2_with fail
    refine C.out.mono ?_
    rintro e w1 ⟨rfl, hb1⟩
    have B1 := Lib.hid hb1
    obtain ⟨d0, d1⟩ := HB.out.later hb1
    clear hb1
    go_wp2_with fail
    refine (IK.out _).mono ?_
    rintro e w2 ⟨rfl, rfl⟩
    go_wp2_with fail
    refine (IC.out _).mono ?_
    rintro e w3 ⟨rfl, rfl⟩
    go_wp2
    go_ret
    exact ⟨rfl, B1.out⟩
set_option maxHeartbeats 1600000 in
theorem side_spec (P : List Int) (T : ByteArray) (a : Option Addr) (cap : Nat) (hr : runsB P = true) (h12 : P.length ≤ 12) (k c : Int) (hk : 0 ≤ k ∧ k ≤ (P.length : Int) - 1) (hc : 0 ≤ c ∧ c ≤ 1000) (b : Nat) (w : World) (hb : HoBox b a cap P T w) (ha : IntArg w a P) :
    Calls Tryd.prog 61 #[.pointer (some ⟨b, 0, none⟩), .int .i64 k, .int .i64 c] w fun e w' => e = .returned (.int .i64 (sideV P k c)) ∧ w = w' := by
  obtain ⟨d0, d1⟩ := hb
  obtain ⟨n, rfl⟩ : ∃ n : Nat, k = (n : Int) := ⟨k.toNat, by omega⟩
  have hn : n < P.length := by omega
  obtain ⟨bb, o, z, rfl, hz, hat⟩ := ha.at hn
  have c0 := hat n z hz
  have hzb := runsB_at hr hz
  have hlt' : (n : Int) < (P.length : Int) := by omega
  have hn0 : (0 : Int) ≤ (n : Int) := by omega
  have hpos : (P.length : Int) ≠ 0 := by omega
  have hj0 : 0 ≤ ((n : Int) + (P.length : Int) - 1).tmod (P.length : Int) := Int.tmod_nonneg _ (by omega)
  have hj1 : ((n : Int) + (P.length : Int) - 1).tmod (P.length : Int) < (P.length : Int) := Int.tmod_lt_of_pos _ (by omega)
  have hv : Hid (sideV P (n : Int) c = z - (if thruB (((n : Int) + (P.length : Int) - 1).tmod (P.length : Int)) c = true then 2 else 0) - (if thruB (n : Int) c = true then 0 else 2)) := by
    show _ = _
    unfold sideV
    rw [List.getD_eq_getElem?_getD, Int.toNat_natCast, hz]
    rfl
  obtain ⟨j, hj⟩ : ∃ j, ((n : Int) + (P.length : Int) - 1).tmod (P.length : Int) = j := ⟨_, rfl⟩
  have hw : IntKind.i64.wrap ((n : Int) + (P.length : Int) - 1) = (n : Int) + (P.length : Int) - 1 := IntWalk.i64_in _ (by omega)
  rw [hj] at hj0 hj1 hv
  have TS := Lib.hid (thru_spec (n : Int) c (by omega) (by omega))
  have TJ := Lib.hid (thru_spec j c (by omega) (by omega))
  clear hat hz hk
  cases t1 : thruB (n : Int) c <;> cases t2 : thruB j c
  all_goals
    rw [t1] at TS hv
    rw [t2] at TJ hv
    clear t1 t2
    go_enter Tryd.func61, Tryd.ntmps61
    go_wp2_with fail
    refine (TS.out _).mono ?_
    rintro e w1 ⟨rfl, rfl⟩
    go_wp2_with fail
    try rw [hj]
    refine (TJ.out _).mono ?_
    rintro e w2 ⟨rfl, rfl⟩
    go_wp2
    go_ret
    exact ⟨by rw [hv.out]; simp; try omega, rfl⟩
end Go.Proofs.YtikjielgnlgnjaaDoor
