/-
  The walk of the law on ShareBricks.
-/
import Derived.Test.YtmbmbkagmkmhlabSh
import Derived.Test.YtmbmbkagmkmhlabPcL
import Derived.Test.YtmbmbkagmkmhlabPcK
import Derived.Test.YtmbmbkagmkmhlabIntX
import Derived.Deep.RegionWith
namespace Go.Proofs.Ytmbmbkagmkmhlab
open Go.ChangeShapes Go.WideShapes Go.ChangeAt Go.RowKit Go.Joins

set_option maxRecDepth 100000 in
set_option maxHeartbeats 12800000 in
theorem walk_FnExactShareBricks (a0 b0 c0 d0 : Int) (L1 : List Pc) (s1 : Option Addr) (t1 : Nat) (hl1 : L1.length ≤ maxLen) (x2 : Int) (_wx2 : (Lit.int .i64 x2).wf = true) (w : World) (ha1 : PcArg w s1 L1) :
    Calls Try.prog 11 #[.agg #[.int .i64 a0, .int .i64 b0, .int .i64 c0, .int .i64 d0], .slice s1 L1.length t1, .int .i64 x2] w fun e w' => e = .returned (.bool true) ∧ Below w.heap.size w w' := by
  have kx0 := range_new w #[.int .i64 a0, .int .i64 b0, .int .i64 c0, .int .i64 d0] 30
  have E0 := Lib.hid (balloc (Below.refl w.heap.size w) (.cells #[.int .i64 a0, .int .i64 b0, .int .i64 c0, .int .i64 d0] 30))
  obtain ⟨U0, hU0⟩ : ∃ U0, World.alloc w (.cells #[.int .i64 a0, .int .i64 b0, .int .i64 c0, .int .i64 d0] 30) = U0 := ⟨_, rfl⟩
  rw [hU0] at kx0 E0
  have E0 : Hid (Below w.heap.size w U0) := E0.out
  have HU0 := Lib.hid hU0
  clear hU0
  have kb0 : w.heap.size < U0.heap.size := by have := World.block_lt_of_cell? U0 _ (kx0 0 _ rfl); exact this
  have K0 : Hid (∀ wx, Below U0.heap.size U0 wx → wx.cell? ⟨w.heap.size, 0, none⟩ = some (.int .i64 a0) ∧ wx.cell? ⟨w.heap.size, 1, none⟩ = some (.int .i64 b0) ∧ wx.cell? ⟨w.heap.size, 2, none⟩ = some (.int .i64 c0) ∧ wx.cell? ⟨w.heap.size, 3, none⟩ = some (.int .i64 d0)) := fun wx hx => by
    have h := range_below kx0 hx
    exact ⟨h 0 _ rfl, h 1 _ rfl, h 2 _ rfl, h 3 _ rfl⟩
  clear kx0 kb0
  have Z := Lib.hid (sz_pcs L1.length s1 t1 1048576 (by omega) (by omega) (by unfold maxLen at hl1; omega) U0)
  have HA1 := Lib.hid (ha1.later E0.out)
  clear ha1
  go_enter Try.func11, Try.ntmps11
  go_wp2_with fail
  try rw [HU0.out]
  try go_wp2_with fail
  refine Z.out.mono ?_
  rintro e w1 ⟨r, rfl, r0, r1, r2, hw1⟩
  have hb1 : Below U0.heap.size U0 w1 := by rw [← hw1]; exact Below.refl _ _
  have B1 := Lib.hid hb1
  have R2 := Lib.hid r2
  have z1 : U0.heap.size ≤ w1.heap.size := hb1.size
  clear hb1 r2 hw1
  by_cases hr : r < 0
  · go_wp2
    go_ret
    exact ⟨rfl, bnext E0.out B1.out⟩
  have hl1 := R2.out (by omega)
  have S := Lib.hid (fun (g1 : Option Addr) (q1 : Nat) (wx : World) (h1 : PcArg wx g1 L1) => share_spec a0 b0 c0 d0 L1 x2 g1 q1 hl1 wx h1)
  have I := Lib.hid (fun (g1 : Option Addr) (q1 : Nat) (wx : World) (h1 : PcArg wx g1 L1) => share_impl a0 b0 c0 d0 L1 x2 g1 q1 hl1 wx h1)
  have hQ : (shL a0 b0 c0 d0 L1 x2).length ≤ 1048576 := shL_len a0 b0 c0 d0 L1 x2
  obtain ⟨Q, hQe⟩ : ∃ Q : List Int, shL a0 b0 c0 d0 L1 x2 = Q := ⟨_, rfl⟩
  rw [hQe] at S I hQ
  clear hQe
  obtain ⟨v1, hv⟩ : ∃ v : Int, shC a0 b0 c0 d0 L1 x2 = v := ⟨_, rfl⟩
  rw [hv] at S I
  clear hv
  obtain ⟨k00, k01, k02, k03⟩ := K0.out _ B1.out
  go_wp2_with fail
  refine (to_format a0 b0 c0 d0 _).mono ?_
  rintro e w2 ⟨rfl, hb2⟩
  have B2 := Lib.hid (bnext B1.out hb2)
  have z2 : w1.heap.size ≤ w2.heap.size := hb2.size
  clear hb2 k00 k01 k02 k03
  go_wp2_with fail
  refine (to_pcs L1 s1 t1 hl1 _ (HA1.out.later B2.out)).mono ?_
  rintro e w3 ⟨g3, rfl, o3, hb3⟩
  have B3 := Lib.hid (bnext B2.out hb3)
  have z3 : w2.heap.size ≤ w3.heap.size := hb3.size
  clear hb3
  have X1 := Lib.hid o3
  clear o3
  go_wp2_with fail
  refine (S.out _ _ _ X1.out.arg).mono ?_
  rintro e w4 ⟨r4, m4, rfl, O4, hb4⟩
  have B4 := Lib.hid (bnext B3.out hb4)
  have z4 : w3.heap.size ≤ w4.heap.size := hb4.size
  have X1 := Lib.hid (X1.out.later hb4)
  clear hb4
  have WL := Lib.hid O4.lt
  have W0 := Lib.hid O4.arg
  clear O4
  go_wp2_with fail
  refine (to_pcs L1 s1 t1 hl1 _ (HA1.out.later B4.out)).mono ?_
  rintro e w5 ⟨g5, rfl, o5, hb5⟩
  have B5 := Lib.hid (bnext B4.out hb5)
  have z5 : w4.heap.size ≤ w5.heap.size := hb5.size
  have W0 := Lib.hid (W0.out.later hb5)
  clear hb5
  have Y1 := Lib.hid o5
  clear o5
  have y1lt : g5 < w5.heap.size := Y1.out.2.2.2
  have y1ge : w4.heap.size ≤ g5 := Y1.out.1
  obtain ⟨k00, k01, k02, k03⟩ := K0.out _ B5.out
  go_wp2_with fail
  refine (to_format a0 b0 c0 d0 _).mono ?_
  rintro e w6 ⟨rfl, hb6⟩
  have B6 := Lib.hid (bnext B5.out hb6)
  have z6 : w5.heap.size ≤ w6.heap.size := hb6.size
  have W0 := Lib.hid (W0.out.later hb6)
  have Y1 := Lib.hid (Y1.out.later hb6)
  clear hb6 k00 k01 k02 k03
  go_wp2_with fail
  refine (I.out _ _ _ Y1.out.arg).mono ?_
  rintro e w7 ⟨r7, m7, rfl, O7, hb7⟩
  have B7 := Lib.hid (bnext B6.out hb7)
  have z7 : w6.heap.size ≤ w7.heap.size := hb7.size
  have W0 := Lib.hid (W0.out.later hb7)
  have Y1 := Lib.hid (Y1.out.later hb7)
  clear hb7
  have G0 := Lib.hid O7
  clear O7
  go_wp2_with fail
  refine (eq_ints Q r7 r4 m7 m4 (by omega) _ G0.out.arg W0.out).mono ?_
  rintro e w8 ⟨rfl, hb8⟩
  have B8 := Lib.hid (bnext B7.out hb8)
  have z8 : w7.heap.size ≤ w8.heap.size := hb8.size
  have W0 := Lib.hid (W0.out.later hb8)
  have Y1 := Lib.hid (Y1.out.later hb8)
  have G0 := Lib.hid (G0.out.later hb8)
  clear hb8
  go_wp2_with fail
  refine (to_pcs L1 s1 t1 hl1 _ (HA1.out.later B8.out)).mono ?_
  rintro e w9 ⟨g9, rfl, o9, hb9⟩
  have B9 := Lib.hid (bnext B8.out hb9)
  have z9 : w8.heap.size ≤ w9.heap.size := hb9.size
  have W0 := Lib.hid (W0.out.later hb9)
  have Y1 := Lib.hid (Y1.out.later hb9)
  have G0 := Lib.hid (G0.out.later hb9)
  clear hb9
  have T1 := Lib.hid o9
  clear o9
  go_wp2_with fail
  refine (eq_pcs L1 _ _ _ _ (by omega) _ Y1.out.arg T1.out.arg).mono ?_
  rintro e w10 ⟨rfl, hb10⟩
  have B10 := Lib.hid (bnext B9.out hb10)
  have z10 : w9.heap.size ≤ w10.heap.size := hb10.size
  have W0 := Lib.hid (W0.out.later hb10)
  have Y1 := Lib.hid (Y1.out.later hb10)
  have G0 := Lib.hid (G0.out.later hb10)
  have T1 := Lib.hid (T1.out.later hb10)
  clear hb10
  go_wp2_with fail
  refine (mark_pcs L1.length (by omega) 1 (by omega) g5 _ _ Y1.out.2.2.1).mono ?_
  rintro e w11 ⟨rfl, hO11, _, _⟩
  have sw11 : U0.heap.size ≤ w4.heap.size := B4.out.size
  have B11 := Lib.hid (B10.out.trans (hO11.base (by omega) B10.out.size))
  have z11 : w10.heap.size ≤ w11.heap.size := hO11.size
  have G0 := Lib.hid (G0.out.only hO11 (by omega))
  have W0 := Lib.hid (W0.out.only hO11 (fun g o h1 h2 => by have := WL.out g o h1 h2; omega))
  clear hO11
  obtain ⟨KK11, hK11⟩ : ∃ KK : Nat, 1 + 3 * L1.length = KK := ⟨_, rfl⟩
  have hK111 : ¬ (KK11 : Int) < 0 := by omega
  have hK112 : KK11 ≤ 10000000 := by omega
  rw [hK11]
  clear hK11
  go_wp2_with fail
  refine (eq_ints Q r7 r4 m7 m4 (by omega) _ G0.out.arg W0.out).mono ?_
  rintro e w12 ⟨rfl, hb12⟩
  have B12 := Lib.hid (bnext B11.out hb12)
  have z12 : w11.heap.size ≤ w12.heap.size := hb12.size
  have W0 := Lib.hid (W0.out.later hb12)
  have G0 := Lib.hid (G0.out.later hb12)
  clear hb12
  have bg : w6.heap.size ≤ w12.heap.size := by omega
  go_wp2_with fail
  refine (mark_res Q (by omega) 1 (by omega) w6.heap.size m7 r7 _ bg G0.out).mono ?_
  rintro e w13 ⟨rfl, hb13, M0⟩
  have sv13 : U0.heap.size ≤ w6.heap.size := B6.out.size
  have B13 := Lib.hid (B12.out.trans (hb13.mono (by omega)))
  have z13 : w12.heap.size ≤ w13.heap.size := hb13.size
  have W0 := Lib.hid (W0.out.base hb13 (fun g o h1 h2 => by have := WL.out g o h1 h2; omega))
  have G0 := Lib.hid M0
  clear hb13 M0
  obtain ⟨q, hq⟩ : ∃ q : Int, ((1 + Q.length : Nat) : Int) = q := ⟨_, rfl⟩
  have hq0 : ¬ q < 0 := by omega
  have HQ := Lib.hid hq
  rw [hq]
  clear hq
  go_wp2_with fail
  refine (held_res Q.length (by omega) 1 (by omega) m7 r7 _ _ G0.out).mono ?_
  rintro e w14 ⟨rfl, hb14⟩
  have B14 := Lib.hid (bnext B13.out hb14)
  have z14 : w13.heap.size ≤ w14.heap.size := hb14.size
  have W0 := Lib.hid (W0.out.later hb14)
  have G0 := Lib.hid (G0.out.later hb14)
  rw [HQ.out]
  clear hb14
  obtain ⟨k00, k01, k02, k03⟩ := K0.out _ B14.out
  go_wp2_with fail
  refine (to_format a0 b0 c0 d0 _).mono ?_
  rintro e w15 ⟨rfl, hb15⟩
  have B15 := Lib.hid (bnext B14.out hb15)
  have z15 : w14.heap.size ≤ w15.heap.size := hb15.size
  have W0 := Lib.hid (W0.out.later hb15)
  have G0 := Lib.hid (G0.out.later hb15)
  clear hb15 k00 k01 k02 k03
  go_wp2_with fail
  refine (to_pcs L1 s1 t1 hl1 _ (HA1.out.later B15.out)).mono ?_
  rintro e w16 ⟨g16, rfl, o16, hb16⟩
  have B16 := Lib.hid (bnext B15.out hb16)
  have z16 : w15.heap.size ≤ w16.heap.size := hb16.size
  have W0 := Lib.hid (W0.out.later hb16)
  have G0 := Lib.hid (G0.out.later hb16)
  clear hb16
  have Z1 := Lib.hid o16
  clear o16
  go_wp2_with fail
  refine (I.out _ _ _ Z1.out.arg).mono ?_
  rintro e w17 ⟨r17, m17, rfl, O17, hb17⟩
  have B17 := Lib.hid (bnext B16.out hb17)
  have z17 : w16.heap.size ≤ w17.heap.size := hb17.size
  have W0 := Lib.hid (W0.out.later hb17)
  have G0 := Lib.hid (G0.out.later hb17)
  have Z1 := Lib.hid (Z1.out.later hb17)
  clear hb17
  have H0 := Lib.hid O17
  clear O17
  go_wp2_with fail
  refine (eq_ints Q r17 r4 m17 m4 (by omega) _ H0.out.arg W0.out).mono ?_
  rintro e w18 ⟨rfl, hb18⟩
  have B18 := Lib.hid (bnext B17.out hb18)
  have z18 : w17.heap.size ≤ w18.heap.size := hb18.size
  have W0 := Lib.hid (W0.out.later hb18)
  have G0 := Lib.hid (G0.out.later hb18)
  have H0 := Lib.hid (H0.out.later hb18)
  clear hb18
  go_wp2_with fail
  refine (held_res Q.length (by omega) 1 (by omega) m7 r7 _ _ G0.out).mono ?_
  rintro e w19 ⟨rfl, hb19⟩
  have B19 := Lib.hid (bnext B18.out hb19)
  have z19 : w18.heap.size ≤ w19.heap.size := hb19.size
  have W0 := Lib.hid (W0.out.later hb19)
  have G0 := Lib.hid (G0.out.later hb19)
  have H0 := Lib.hid (H0.out.later hb19)
  rw [HQ.out]
  clear hb19
  go_wp2
  go_ret
  exact ⟨rfl, bnext E0.out B19.out⟩
end Go.Proofs.Ytmbmbkagmkmhlab
