/-
  The walk of the law on LevelsOff.
-/
import Derived.Test.YtmbmbkagmkmhlaaGo
import Derived.Test.YtmbmbkagmkmhlaaHoLP
import Derived.Test.YtmbmbkagmkmhlaaIntX
import Derived.Deep.RegionWith
namespace Go.Proofs.Ytmbmbkagmkmhlaa
open Go.ChangeShapes Go.WideShapes Go.ChangeAt Go.RowKit Go.Joins

set_option maxRecDepth 100000 in
set_option maxHeartbeats 12800000 in
theorem walk_FnExactLevelsOff (x0 : Int) (_wx0 : (Lit.int .i64 x0).wf = true) (x1 : Int) (_wx1 : (Lit.int .i64 x1).wf = true) (P2 : List Int) (s2 : Option Addr) (t2 : Nat) (_hl2 : P2.length ≤ maxLen) (w : World) (ha2 : IntArg w s2 P2) :
    Calls Try.prog 10 #[.int .i64 x0, .int .i64 x1, .slice s2 P2.length t2] w fun e w' => e = .returned (.bool true) ∧ Below w.heap.size w w' := by
  by_cases hp2 : (1048576 : Int) < (P2.length : Int)
  · clear ha2
    go_enter Try.func10, Try.ntmps10
    go_wp2
    go_ret
    exact ⟨rfl, Below.refl _ _⟩
  have hl2 : P2.length ≤ 1048576 := by omega
  have HA2 := Lib.hid ha2
  clear ha2
  go_enter Try.func10, Try.ntmps10
  have S := Lib.hid (fun (g2 : Option Addr) (q2 : Nat) (wx : World) (h2 : IntArg wx g2 P2) => loff_spec x0 x1 P2 g2 q2 hl2 wx h2)
  have I := Lib.hid (fun (g2 : Option Addr) (q2 : Nat) (wx : World) (h2 : IntArg wx g2 P2) => loff_impl x0 x1 P2 g2 q2 hl2 wx h2)
  have hQ : (loL x0 x1 P2).length ≤ 1048576 := loL_len x0 x1 P2
  obtain ⟨Q, hQe⟩ : ∃ Q : List Int, loL x0 x1 P2 = Q := ⟨_, rfl⟩
  rw [hQe] at S I hQ
  clear hQe
  obtain ⟨v1, hv⟩ : ∃ v : Int, loC x0 x1 P2 = v := ⟨_, rfl⟩
  rw [hv] at S I
  clear hv
  go_wp2_with fail
  refine (to_ints P2 s2 t2 hl2 _ HA2.out).mono ?_
  rintro e w1 ⟨g1, rfl, o1, hb1⟩
  have B1 := Lib.hid hb1
  have z1 : w.heap.size ≤ w1.heap.size := hb1.size
  clear hb1
  have X2 := Lib.hid o1
  clear o1
  go_wp2_with fail
  refine (S.out _ _ _ X2.out.arg).mono ?_
  rintro e w2 ⟨r2, m2, rfl, O2, hb2⟩
  have B2 := Lib.hid (bnext B1.out hb2)
  have z2 : w1.heap.size ≤ w2.heap.size := hb2.size
  have X2 := Lib.hid (X2.out.later hb2)
  clear hb2
  have WL := Lib.hid O2.lt
  have W0 := Lib.hid O2.arg
  clear O2
  go_wp2_with fail
  refine (to_ints P2 s2 t2 hl2 _ (HA2.out.later B2.out)).mono ?_
  rintro e w3 ⟨g3, rfl, o3, hb3⟩
  have B3 := Lib.hid (bnext B2.out hb3)
  have z3 : w2.heap.size ≤ w3.heap.size := hb3.size
  have W0 := Lib.hid (W0.out.later hb3)
  clear hb3
  have Y2 := Lib.hid o3
  clear o3
  have y2lt : g3 < w3.heap.size := Y2.out.2.2.2
  have y2ge : w2.heap.size ≤ g3 := Y2.out.1
  go_wp2_with fail
  refine (I.out _ _ _ Y2.out.arg).mono ?_
  rintro e w4 ⟨r4, m4, rfl, O4, hb4⟩
  have B4 := Lib.hid (bnext B3.out hb4)
  have z4 : w3.heap.size ≤ w4.heap.size := hb4.size
  have W0 := Lib.hid (W0.out.later hb4)
  have Y2 := Lib.hid (Y2.out.later hb4)
  clear hb4
  have G0 := Lib.hid O4
  clear O4
  go_wp2_with fail
  refine (eq_ints Q r4 r2 m4 m2 (by omega) _ G0.out.arg W0.out).mono ?_
  rintro e w5 ⟨rfl, hb5⟩
  have B5 := Lib.hid (bnext B4.out hb5)
  have z5 : w4.heap.size ≤ w5.heap.size := hb5.size
  have W0 := Lib.hid (W0.out.later hb5)
  have Y2 := Lib.hid (Y2.out.later hb5)
  have G0 := Lib.hid (G0.out.later hb5)
  clear hb5
  go_wp2_with fail
  refine (to_ints P2 s2 t2 hl2 _ (HA2.out.later B5.out)).mono ?_
  rintro e w6 ⟨g6, rfl, o6, hb6⟩
  have B6 := Lib.hid (bnext B5.out hb6)
  have z6 : w5.heap.size ≤ w6.heap.size := hb6.size
  have W0 := Lib.hid (W0.out.later hb6)
  have Y2 := Lib.hid (Y2.out.later hb6)
  have G0 := Lib.hid (G0.out.later hb6)
  clear hb6
  have T2 := Lib.hid o6
  clear o6
  go_wp2_with fail
  refine (eq_ints P2 _ _ _ _ (by omega) _ Y2.out.arg T2.out.arg).mono ?_
  rintro e w7 ⟨rfl, hb7⟩
  have B7 := Lib.hid (bnext B6.out hb7)
  have z7 : w6.heap.size ≤ w7.heap.size := hb7.size
  have W0 := Lib.hid (W0.out.later hb7)
  have Y2 := Lib.hid (Y2.out.later hb7)
  have G0 := Lib.hid (G0.out.later hb7)
  have T2 := Lib.hid (T2.out.later hb7)
  clear hb7
  go_wp2_with fail
  refine (mark_ints P2 (by omega) 1 (by omega) _ g3 _ _ Y2.out).mono ?_
  rintro e w8 ⟨rfl, hO8, _⟩
  have sw8 : w.heap.size ≤ w2.heap.size := B2.out.size
  have B8 := Lib.hid (B7.out.trans (hO8.base (by omega) B7.out.size))
  have z8 : w7.heap.size ≤ w8.heap.size := hO8.size
  have G0 := Lib.hid (G0.out.only hO8 (by omega))
  have W0 := Lib.hid (W0.out.only hO8 (fun g o h1 h2 => by have := WL.out g o h1 h2; omega))
  clear hO8
  obtain ⟨KK8, hK8⟩ : ∃ KK : Nat, 1 + P2.length = KK := ⟨_, rfl⟩
  have hK81 : ¬ (KK8 : Int) < 0 := by omega
  have hK82 : KK8 ≤ 10000000 := by omega
  rw [hK8]
  clear hK8
  go_wp2_with fail
  refine (eq_ints Q r4 r2 m4 m2 (by omega) _ G0.out.arg W0.out).mono ?_
  rintro e w9 ⟨rfl, hb9⟩
  have B9 := Lib.hid (bnext B8.out hb9)
  have z9 : w8.heap.size ≤ w9.heap.size := hb9.size
  have W0 := Lib.hid (W0.out.later hb9)
  have G0 := Lib.hid (G0.out.later hb9)
  clear hb9
  have bg : w3.heap.size ≤ w9.heap.size := by omega
  go_wp2_with fail
  refine (mark_res Q (by omega) 1 (by omega) w3.heap.size m4 r4 _ bg G0.out).mono ?_
  rintro e w10 ⟨rfl, hb10, M0⟩
  have sv10 : w.heap.size ≤ w3.heap.size := B3.out.size
  have B10 := Lib.hid (B9.out.trans (hb10.mono (by omega)))
  have z10 : w9.heap.size ≤ w10.heap.size := hb10.size
  have W0 := Lib.hid (W0.out.base hb10 (fun g o h1 h2 => by have := WL.out g o h1 h2; omega))
  have G0 := Lib.hid M0
  clear hb10 M0
  obtain ⟨q, hq⟩ : ∃ q : Int, ((1 + Q.length : Nat) : Int) = q := ⟨_, rfl⟩
  have hq0 : ¬ q < 0 := by omega
  have HQ := Lib.hid hq
  rw [hq]
  clear hq
  go_wp2_with fail
  refine (held_res Q.length (by omega) 1 (by omega) m4 r4 _ _ G0.out).mono ?_
  rintro e w11 ⟨rfl, hb11⟩
  have B11 := Lib.hid (bnext B10.out hb11)
  have z11 : w10.heap.size ≤ w11.heap.size := hb11.size
  have W0 := Lib.hid (W0.out.later hb11)
  have G0 := Lib.hid (G0.out.later hb11)
  rw [HQ.out]
  clear hb11
  go_wp2_with fail
  refine (to_ints P2 s2 t2 hl2 _ (HA2.out.later B11.out)).mono ?_
  rintro e w12 ⟨g12, rfl, o12, hb12⟩
  have B12 := Lib.hid (bnext B11.out hb12)
  have z12 : w11.heap.size ≤ w12.heap.size := hb12.size
  have W0 := Lib.hid (W0.out.later hb12)
  have G0 := Lib.hid (G0.out.later hb12)
  clear hb12
  have Z2 := Lib.hid o12
  clear o12
  go_wp2_with fail
  refine (I.out _ _ _ Z2.out.arg).mono ?_
  rintro e w13 ⟨r13, m13, rfl, O13, hb13⟩
  have B13 := Lib.hid (bnext B12.out hb13)
  have z13 : w12.heap.size ≤ w13.heap.size := hb13.size
  have W0 := Lib.hid (W0.out.later hb13)
  have G0 := Lib.hid (G0.out.later hb13)
  have Z2 := Lib.hid (Z2.out.later hb13)
  clear hb13
  have H0 := Lib.hid O13
  clear O13
  go_wp2_with fail
  refine (eq_ints Q r13 r2 m13 m2 (by omega) _ H0.out.arg W0.out).mono ?_
  rintro e w14 ⟨rfl, hb14⟩
  have B14 := Lib.hid (bnext B13.out hb14)
  have z14 : w13.heap.size ≤ w14.heap.size := hb14.size
  have W0 := Lib.hid (W0.out.later hb14)
  have G0 := Lib.hid (G0.out.later hb14)
  have H0 := Lib.hid (H0.out.later hb14)
  clear hb14
  go_wp2_with fail
  refine (held_res Q.length (by omega) 1 (by omega) m4 r4 _ _ G0.out).mono ?_
  rintro e w15 ⟨rfl, hb15⟩
  have B15 := Lib.hid (bnext B14.out hb15)
  have z15 : w14.heap.size ≤ w15.heap.size := hb15.size
  have W0 := Lib.hid (W0.out.later hb15)
  have G0 := Lib.hid (G0.out.later hb15)
  have H0 := Lib.hid (H0.out.later hb15)
  rw [HQ.out]
  clear hb15
  go_wp2
  go_ret
  exact ⟨rfl, B15.out⟩
end Go.Proofs.Ytmbmbkagmkmhlaa
