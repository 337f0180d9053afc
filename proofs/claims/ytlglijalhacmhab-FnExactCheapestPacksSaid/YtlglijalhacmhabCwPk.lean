/-
  The walk of the law on CheapestPacks.
-/
import Derived.Test.YtlglijalhacmhabPkK
import Derived.Test.YtlglijalhacmhabHoLP
import Derived.Test.YtlglijalhacmhabIntX
import Derived.Deep.RegionWith
namespace Go.Proofs.Ytlglijalhacmhab
open Go.ChangeShapes Go.WideShapes Go.ChangeAt Go.RowKit Go.Joins

set_option maxRecDepth 100000 in
set_option maxHeartbeats 12800000 in
theorem walk_FnExactCheapestPacks (P0 : List Int) (s0 : Option Addr) (t0 : Nat) (_hl0 : P0.length ≤ maxLen) (P1 : List Int) (s1 : Option Addr) (t1 : Nat) (_hl1 : P1.length ≤ maxLen) (x2 : Int) (_wx2 : (Lit.int .i64 x2).wf = true) (w : World) (ha0 : IntArg w s0 P0) (ha1 : IntArg w s1 P1) :
    Calls Try.prog 9 #[.slice s0 P0.length t0, .slice s1 P1.length t1, .int .i64 x2] w fun e w' => e = .returned (.bool true) ∧ Below w.heap.size w w' := by
  by_cases hp0 : (1048576 : Int) < (P0.length : Int)
  · clear ha0 ha1
    go_enter Try.func9, Try.ntmps9
    go_wp2
    go_ret
    exact ⟨rfl, Below.refl _ _⟩
  have hl0 : P0.length ≤ 1048576 := by omega
  by_cases hp1 : (1048576 : Int) < (P1.length : Int)
  · clear ha0 ha1
    go_enter Try.func9, Try.ntmps9
    go_wp2
    go_ret
    exact ⟨rfl, Below.refl _ _⟩
  have hl1 : P1.length ≤ 1048576 := by omega
  have HA0 := Lib.hid ha0
  have HA1 := Lib.hid ha1
  clear ha0 ha1
  go_enter Try.func9, Try.ntmps9
  have S := Lib.hid (fun (g0 : Option Addr) (q0 : Nat) (g1 : Option Addr) (q1 : Nat) (wx : World) (h0 : IntArg wx g0 P0) (h1 : IntArg wx g1 P1) => packs_spec P0 P1 x2 g0 q0 hl0 g1 q1 hl1 wx h0 h1)
  have I := Lib.hid (fun (g0 : Option Addr) (q0 : Nat) (g1 : Option Addr) (q1 : Nat) (wx : World) (h0 : IntArg wx g0 P0) (h1 : IntArg wx g1 P1) => packs_impl P0 P1 x2 g0 q0 hl0 g1 q1 hl1 wx h0 h1)
  have hQ : (pkL P0 P1 x2).length ≤ 1048576 := pkL_len
  obtain ⟨Q, hQe⟩ : ∃ Q : List Int, pkL P0 P1 x2 = Q := ⟨_, rfl⟩
  rw [hQe] at S I hQ
  clear hQe
  obtain ⟨v1, hv⟩ : ∃ v : Int, pkC P0 P1 x2 = v := ⟨_, rfl⟩
  rw [hv] at S I
  clear hv
  go_wp2_with fail
  refine (to_ints P0 s0 t0 hl0 _ HA0.out).mono ?_
  rintro e w1 ⟨g1, rfl, o1, hb1⟩
  have B1 := Lib.hid hb1
  have z1 : w.heap.size ≤ w1.heap.size := hb1.size
  clear hb1
  have X0 := Lib.hid o1
  clear o1
  go_wp2_with fail
  refine (to_ints P1 s1 t1 hl1 _ (HA1.out.later B1.out)).mono ?_
  rintro e w2 ⟨g2, rfl, o2, hb2⟩
  have B2 := Lib.hid (bnext B1.out hb2)
  have z2 : w1.heap.size ≤ w2.heap.size := hb2.size
  have X0 := Lib.hid (X0.out.later hb2)
  clear hb2
  have X1 := Lib.hid o2
  clear o2
  go_wp2_with fail
  refine (S.out _ _ _ _ _ X0.out.arg X1.out.arg).mono ?_
  rintro e w3 ⟨r3, m3, rfl, O3, hb3⟩
  have B3 := Lib.hid (bnext B2.out hb3)
  have z3 : w2.heap.size ≤ w3.heap.size := hb3.size
  have X0 := Lib.hid (X0.out.later hb3)
  have X1 := Lib.hid (X1.out.later hb3)
  clear hb3
  have WL := Lib.hid O3.lt
  have W0 := Lib.hid O3.arg
  clear O3
  go_wp2_with fail
  refine (to_ints P0 s0 t0 hl0 _ (HA0.out.later B3.out)).mono ?_
  rintro e w4 ⟨g4, rfl, o4, hb4⟩
  have B4 := Lib.hid (bnext B3.out hb4)
  have z4 : w3.heap.size ≤ w4.heap.size := hb4.size
  have W0 := Lib.hid (W0.out.later hb4)
  clear hb4
  have Y0 := Lib.hid o4
  clear o4
  have y0lt : g4 < w4.heap.size := Y0.out.2.2.2
  have y0ge : w3.heap.size ≤ g4 := Y0.out.1
  go_wp2_with fail
  refine (to_ints P1 s1 t1 hl1 _ (HA1.out.later B4.out)).mono ?_
  rintro e w5 ⟨g5, rfl, o5, hb5⟩
  have B5 := Lib.hid (bnext B4.out hb5)
  have z5 : w4.heap.size ≤ w5.heap.size := hb5.size
  have W0 := Lib.hid (W0.out.later hb5)
  have Y0 := Lib.hid (Y0.out.later hb5)
  clear hb5
  have Y1 := Lib.hid o5
  clear o5
  have y1lt : g5 < w5.heap.size := Y1.out.2.2.2
  have y1ge : w4.heap.size ≤ g5 := Y1.out.1
  go_wp2_with fail
  refine (I.out _ _ _ _ _ Y0.out.arg Y1.out.arg).mono ?_
  rintro e w6 ⟨r6, m6, rfl, O6, hb6⟩
  have B6 := Lib.hid (bnext B5.out hb6)
  have z6 : w5.heap.size ≤ w6.heap.size := hb6.size
  have W0 := Lib.hid (W0.out.later hb6)
  have Y0 := Lib.hid (Y0.out.later hb6)
  have Y1 := Lib.hid (Y1.out.later hb6)
  clear hb6
  have G0 := Lib.hid O6
  clear O6
  go_wp2_with fail
  refine (eq_ints Q r6 r3 m6 m3 (by omega) _ G0.out.arg W0.out).mono ?_
  rintro e w7 ⟨rfl, hb7⟩
  have B7 := Lib.hid (bnext B6.out hb7)
  have z7 : w6.heap.size ≤ w7.heap.size := hb7.size
  have W0 := Lib.hid (W0.out.later hb7)
  have Y0 := Lib.hid (Y0.out.later hb7)
  have Y1 := Lib.hid (Y1.out.later hb7)
  have G0 := Lib.hid (G0.out.later hb7)
  clear hb7
  go_wp2_with fail
  refine (to_ints P0 s0 t0 hl0 _ (HA0.out.later B7.out)).mono ?_
  rintro e w8 ⟨g8, rfl, o8, hb8⟩
  have B8 := Lib.hid (bnext B7.out hb8)
  have z8 : w7.heap.size ≤ w8.heap.size := hb8.size
  have W0 := Lib.hid (W0.out.later hb8)
  have Y0 := Lib.hid (Y0.out.later hb8)
  have Y1 := Lib.hid (Y1.out.later hb8)
  have G0 := Lib.hid (G0.out.later hb8)
  clear hb8
  have T0 := Lib.hid o8
  clear o8
  go_wp2_with fail
  refine (eq_ints P0 _ _ _ _ (by omega) _ Y0.out.arg T0.out.arg).mono ?_
  rintro e w9 ⟨rfl, hb9⟩
  have B9 := Lib.hid (bnext B8.out hb9)
  have z9 : w8.heap.size ≤ w9.heap.size := hb9.size
  have W0 := Lib.hid (W0.out.later hb9)
  have Y0 := Lib.hid (Y0.out.later hb9)
  have Y1 := Lib.hid (Y1.out.later hb9)
  have G0 := Lib.hid (G0.out.later hb9)
  have T0 := Lib.hid (T0.out.later hb9)
  clear hb9
  go_wp2_with fail
  refine (to_ints P1 s1 t1 hl1 _ (HA1.out.later B9.out)).mono ?_
  rintro e w10 ⟨g10, rfl, o10, hb10⟩
  have B10 := Lib.hid (bnext B9.out hb10)
  have z10 : w9.heap.size ≤ w10.heap.size := hb10.size
  have W0 := Lib.hid (W0.out.later hb10)
  have Y0 := Lib.hid (Y0.out.later hb10)
  have Y1 := Lib.hid (Y1.out.later hb10)
  have G0 := Lib.hid (G0.out.later hb10)
  clear hb10
  have T1 := Lib.hid o10
  clear o10
  go_wp2_with fail
  refine (eq_ints P1 _ _ _ _ (by omega) _ Y1.out.arg T1.out.arg).mono ?_
  rintro e w11 ⟨rfl, hb11⟩
  have B11 := Lib.hid (bnext B10.out hb11)
  have z11 : w10.heap.size ≤ w11.heap.size := hb11.size
  have W0 := Lib.hid (W0.out.later hb11)
  have Y0 := Lib.hid (Y0.out.later hb11)
  have Y1 := Lib.hid (Y1.out.later hb11)
  have G0 := Lib.hid (G0.out.later hb11)
  have T1 := Lib.hid (T1.out.later hb11)
  clear hb11
  go_wp2_with fail
  refine (mark_ints P0 (by omega) 1 (by omega) _ g4 _ _ Y0.out).mono ?_
  rintro e w12 ⟨rfl, hO12, _⟩
  have sw12 : w.heap.size ≤ w3.heap.size := B3.out.size
  have B12 := Lib.hid (B11.out.trans (hO12.base (by omega) B11.out.size))
  have z12 : w11.heap.size ≤ w12.heap.size := hO12.size
  have G0 := Lib.hid (G0.out.only hO12 (by omega))
  have Y1 := Lib.hid (Y1.out.only hO12 (by omega))
  have W0 := Lib.hid (W0.out.only hO12 (fun g o h1 h2 => by have := WL.out g o h1 h2; omega))
  clear hO12
  obtain ⟨KK12, hK12⟩ : ∃ KK : Nat, 1 + P0.length = KK := ⟨_, rfl⟩
  have hK121 : ¬ (KK12 : Int) < 0 := by omega
  have hK122 : KK12 ≤ 10000000 := by omega
  rw [hK12]
  clear hK12
  go_wp2_with fail
  refine (mark_ints P1 (by omega) KK12 (by omega) _ g5 _ _ Y1.out).mono ?_
  rintro e w13 ⟨rfl, hO13, _⟩
  have sw13 : w.heap.size ≤ w3.heap.size := B3.out.size
  have B13 := Lib.hid (B12.out.trans (hO13.base (by omega) B12.out.size))
  have z13 : w12.heap.size ≤ w13.heap.size := hO13.size
  have G0 := Lib.hid (G0.out.only hO13 (by omega))
  have W0 := Lib.hid (W0.out.only hO13 (fun g o h1 h2 => by have := WL.out g o h1 h2; omega))
  clear hO13
  obtain ⟨KK13, hK13⟩ : ∃ KK : Nat, KK12 + P1.length = KK := ⟨_, rfl⟩
  have hK131 : ¬ (KK13 : Int) < 0 := by omega
  have hK132 : KK13 ≤ 20000000 := by omega
  rw [hK13]
  clear hK13
  go_wp2_with fail
  refine (eq_ints Q r6 r3 m6 m3 (by omega) _ G0.out.arg W0.out).mono ?_
  rintro e w14 ⟨rfl, hb14⟩
  have B14 := Lib.hid (bnext B13.out hb14)
  have z14 : w13.heap.size ≤ w14.heap.size := hb14.size
  have W0 := Lib.hid (W0.out.later hb14)
  have G0 := Lib.hid (G0.out.later hb14)
  clear hb14
  have bg : w5.heap.size ≤ w14.heap.size := by omega
  go_wp2_with fail
  refine (mark_res Q (by omega) 1 (by omega) w5.heap.size m6 r6 _ bg G0.out).mono ?_
  rintro e w15 ⟨rfl, hb15, M0⟩
  have sv15 : w.heap.size ≤ w5.heap.size := B5.out.size
  have B15 := Lib.hid (B14.out.trans (hb15.mono (by omega)))
  have z15 : w14.heap.size ≤ w15.heap.size := hb15.size
  have W0 := Lib.hid (W0.out.base hb15 (fun g o h1 h2 => by have := WL.out g o h1 h2; omega))
  have G0 := Lib.hid M0
  clear hb15 M0
  obtain ⟨q, hq⟩ : ∃ q : Int, ((1 + Q.length : Nat) : Int) = q := ⟨_, rfl⟩
  have hq0 : ¬ q < 0 := by omega
  have HQ := Lib.hid hq
  rw [hq]
  clear hq
  go_wp2_with fail
  refine (held_res Q.length (by omega) 1 (by omega) m6 r6 _ _ G0.out).mono ?_
  rintro e w16 ⟨rfl, hb16⟩
  have B16 := Lib.hid (bnext B15.out hb16)
  have z16 : w15.heap.size ≤ w16.heap.size := hb16.size
  have W0 := Lib.hid (W0.out.later hb16)
  have G0 := Lib.hid (G0.out.later hb16)
  rw [HQ.out]
  clear hb16
  go_wp2_with fail
  refine (to_ints P0 s0 t0 hl0 _ (HA0.out.later B16.out)).mono ?_
  rintro e w17 ⟨g17, rfl, o17, hb17⟩
  have B17 := Lib.hid (bnext B16.out hb17)
  have z17 : w16.heap.size ≤ w17.heap.size := hb17.size
  have W0 := Lib.hid (W0.out.later hb17)
  have G0 := Lib.hid (G0.out.later hb17)
  clear hb17
  have Z0 := Lib.hid o17
  clear o17
  go_wp2_with fail
  refine (to_ints P1 s1 t1 hl1 _ (HA1.out.later B17.out)).mono ?_
  rintro e w18 ⟨g18, rfl, o18, hb18⟩
  have B18 := Lib.hid (bnext B17.out hb18)
  have z18 : w17.heap.size ≤ w18.heap.size := hb18.size
  have W0 := Lib.hid (W0.out.later hb18)
  have G0 := Lib.hid (G0.out.later hb18)
  have Z0 := Lib.hid (Z0.out.later hb18)
  clear hb18
  have Z1 := Lib.hid o18
  clear o18
  go_wp2_with fail
  refine (I.out _ _ _ _ _ Z0.out.arg Z1.out.arg).mono ?_
  rintro e w19 ⟨r19, m19, rfl, O19, hb19⟩
  have B19 := Lib.hid (bnext B18.out hb19)
  have z19 : w18.heap.size ≤ w19.heap.size := hb19.size
  have W0 := Lib.hid (W0.out.later hb19)
  have G0 := Lib.hid (G0.out.later hb19)
  have Z0 := Lib.hid (Z0.out.later hb19)
  have Z1 := Lib.hid (Z1.out.later hb19)
  clear hb19
  have H0 := Lib.hid O19
  clear O19
  go_wp2_with fail
  refine (eq_ints Q r19 r3 m19 m3 (by omega) _ H0.out.arg W0.out).mono ?_
  rintro e w20 ⟨rfl, hb20⟩
  have B20 := Lib.hid (bnext B19.out hb20)
  have z20 : w19.heap.size ≤ w20.heap.size := hb20.size
  have W0 := Lib.hid (W0.out.later hb20)
  have G0 := Lib.hid (G0.out.later hb20)
  have H0 := Lib.hid (H0.out.later hb20)
  clear hb20
  go_wp2_with fail
  refine (held_res Q.length (by omega) 1 (by omega) m6 r6 _ _ G0.out).mono ?_
  rintro e w21 ⟨rfl, hb21⟩
  have B21 := Lib.hid (bnext B20.out hb21)
  have z21 : w20.heap.size ≤ w21.heap.size := hb21.size
  have W0 := Lib.hid (W0.out.later hb21)
  have G0 := Lib.hid (G0.out.later hb21)
  have H0 := Lib.hid (H0.out.later hb21)
  rw [HQ.out]
  clear hb21
  go_wp2
  go_ret
  exact ⟨rfl, B21.out⟩
end Go.Proofs.Ytlglijalhacmhab
