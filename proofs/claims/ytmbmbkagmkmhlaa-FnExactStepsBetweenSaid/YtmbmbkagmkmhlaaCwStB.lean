/-
  The walk of the law on StepsBetween.
-/
import Derived.Test.YtmbmbkagmkmhlaaSb
import Derived.Test.YtmbmbkagmkmhlaaHoLP
import Derived.Test.YtmbmbkagmkmhlaaIntX
import Derived.Deep.RegionWith
namespace Go.Proofs.Ytmbmbkagmkmhlaa
open Go.ChangeShapes Go.WideShapes Go.ChangeAt Go.RowKit Go.Joins

set_option maxRecDepth 100000 in
set_option maxHeartbeats 12800000 in
theorem walk_FnExactStepsBetween (a0 b0 c0 d0 : Int) (x1 : Int) (_wx1 : (Lit.int .i64 x1).wf = true) (P2 : List Int) (s2 : Option Addr) (t2 : Nat) (_hl2 : P2.length ≤ maxLen) (w : World) (ha2 : IntArg w s2 P2) :
    Calls Try.prog 12 #[.agg #[.int .i64 a0, .int .i64 b0, .int .i64 c0, .int .i64 d0], .int .i64 x1, .slice s2 P2.length t2] w fun e w' => e = .returned (.bool true) ∧ Below w.heap.size w w' := by
  have kx0 := range_new w #[.int .i64 a0, .int .i64 b0, .int .i64 c0, .int .i64 d0] 33
  have E0 := Lib.hid (balloc (Below.refl w.heap.size w) (.cells #[.int .i64 a0, .int .i64 b0, .int .i64 c0, .int .i64 d0] 33))
  obtain ⟨U0, hU0⟩ : ∃ U0, World.alloc w (.cells #[.int .i64 a0, .int .i64 b0, .int .i64 c0, .int .i64 d0] 33) = U0 := ⟨_, rfl⟩
  rw [hU0] at kx0 E0
  have E0 : Hid (Below w.heap.size w U0) := E0.out
  have HU0 := Lib.hid hU0
  clear hU0
  have kb0 : w.heap.size < U0.heap.size := by have := World.block_lt_of_cell? U0 _ (kx0 0 _ rfl); exact this
  have K0 : Hid (∀ wx, Below U0.heap.size U0 wx → wx.cell? ⟨w.heap.size, 0, none⟩ = some (.int .i64 a0) ∧ wx.cell? ⟨w.heap.size, 1, none⟩ = some (.int .i64 b0) ∧ wx.cell? ⟨w.heap.size, 2, none⟩ = some (.int .i64 c0) ∧ wx.cell? ⟨w.heap.size, 3, none⟩ = some (.int .i64 d0)) := fun wx hx => by
    have h := range_below kx0 hx
    exact ⟨h 0 _ rfl, h 1 _ rfl, h 2 _ rfl, h 3 _ rfl⟩
  clear kx0 kb0
  by_cases hp2 : (1048576 : Int) < (P2.length : Int)
  · clear ha2
    go_enter Try.func12, Try.ntmps12
    go_wp2_with fail
    try rw [HU0.out]
    try go_wp2
    go_ret
    exact ⟨rfl, E0.out⟩
  have hl2 : P2.length ≤ 1048576 := by omega
  have HA2 := Lib.hid (ha2.later E0.out)
  clear ha2
  go_enter Try.func12, Try.ntmps12
  have S := Lib.hid (fun (g2 : Option Addr) (q2 : Nat) (wx : World) (h2 : IntSome wx g2 P2) => steps_spec a0 b0 c0 d0 x1 P2 g2 q2 hl2 wx h2)
  have I := Lib.hid (fun (g2 : Option Addr) (q2 : Nat) (wx : World) (h2 : IntSome wx g2 P2) => steps_impl a0 b0 c0 d0 x1 P2 g2 q2 hl2 wx h2)
  have hQ : (stR a0 b0 c0 d0 x1 P2).length ≤ 1048576 := stR_len a0 b0 c0 d0 x1 P2
  obtain ⟨Q, hQe⟩ : ∃ Q : List Int, stR a0 b0 c0 d0 x1 P2 = Q := ⟨_, rfl⟩
  rw [hQe] at S I hQ
  clear hQe
  obtain ⟨v1, hv⟩ : ∃ v : Int, stC a0 b0 c0 d0 x1 P2 = v := ⟨_, rfl⟩
  rw [hv] at S I
  clear hv
  obtain ⟨k00, k01, k02, k03⟩ := K0.out _ (Below.refl _ _)
  go_wp2_with fail
  try rw [HU0.out]
  try go_wp2_with fail
  refine (to_format a0 b0 c0 d0 _).mono ?_
  rintro e w1 ⟨rfl, hb1⟩
  have B1 := Lib.hid hb1
  have z1 : U0.heap.size ≤ w1.heap.size := hb1.size
  clear hb1 k00 k01 k02 k03
  go_wp2_with fail
  refine (to_ints P2 s2 t2 hl2 _ (HA2.out.later B1.out)).mono ?_
  rintro e w2 ⟨g2, rfl, o2, hb2⟩
  have B2 := Lib.hid (bnext B1.out hb2)
  have z2 : w1.heap.size ≤ w2.heap.size := hb2.size
  clear hb2
  have X2 := Lib.hid o2
  clear o2
  go_wp2_with fail
  refine (S.out _ _ _ X2.out.some).mono ?_
  rintro e w3 ⟨r3, m3, rfl, O3, hb3⟩
  have B3 := Lib.hid (bnext B2.out hb3)
  have z3 : w2.heap.size ≤ w3.heap.size := hb3.size
  have X2 := Lib.hid (X2.out.later hb3)
  clear hb3
  have WL := Lib.hid O3.lt
  have W0 := Lib.hid O3.arg
  clear O3
  go_wp2_with fail
  refine (to_ints P2 s2 t2 hl2 _ (HA2.out.later B3.out)).mono ?_
  rintro e w4 ⟨g4, rfl, o4, hb4⟩
  have B4 := Lib.hid (bnext B3.out hb4)
  have z4 : w3.heap.size ≤ w4.heap.size := hb4.size
  have W0 := Lib.hid (W0.out.later hb4)
  clear hb4
  have Y2 := Lib.hid o4
  clear o4
  have y2lt : g4 < w4.heap.size := Y2.out.2.2.2
  have y2ge : w3.heap.size ≤ g4 := Y2.out.1
  obtain ⟨k00, k01, k02, k03⟩ := K0.out _ B4.out
  go_wp2_with fail
  refine (to_format a0 b0 c0 d0 _).mono ?_
  rintro e w5 ⟨rfl, hb5⟩
  have B5 := Lib.hid (bnext B4.out hb5)
  have z5 : w4.heap.size ≤ w5.heap.size := hb5.size
  have W0 := Lib.hid (W0.out.later hb5)
  have Y2 := Lib.hid (Y2.out.later hb5)
  clear hb5 k00 k01 k02 k03
  go_wp2_with fail
  refine (I.out _ _ _ Y2.out.some).mono ?_
  rintro e w6 ⟨r6, m6, rfl, O6, hb6⟩
  have B6 := Lib.hid (bnext B5.out hb6)
  have z6 : w5.heap.size ≤ w6.heap.size := hb6.size
  have W0 := Lib.hid (W0.out.later hb6)
  have Y2 := Lib.hid (Y2.out.later hb6)
  clear hb6
  have G0 := Lib.hid O6
  clear O6
  go_wp2_with fail
  refine (eq_ints Q r6 r3 m6 m3 (by omega) _ G0.out.arg W0.out).mono ?_
  rintro e w7 ⟨rfl, hb7⟩
  have B7 := Lib.hid (bnext B6.out hb7)
  have z7 : w6.heap.size ≤ w7.heap.size := hb7.size
  have W0 := Lib.hid (W0.out.later hb7)
  have Y2 := Lib.hid (Y2.out.later hb7)
  have G0 := Lib.hid (G0.out.later hb7)
  clear hb7
  go_wp2_with fail
  refine (to_ints P2 s2 t2 hl2 _ (HA2.out.later B7.out)).mono ?_
  rintro e w8 ⟨g8, rfl, o8, hb8⟩
  have B8 := Lib.hid (bnext B7.out hb8)
  have z8 : w7.heap.size ≤ w8.heap.size := hb8.size
  have W0 := Lib.hid (W0.out.later hb8)
  have Y2 := Lib.hid (Y2.out.later hb8)
  have G0 := Lib.hid (G0.out.later hb8)
  clear hb8
  have T2 := Lib.hid o8
  clear o8
  go_wp2_with fail
  refine (eq_ints P2 _ _ _ _ (by omega) _ Y2.out.arg T2.out.arg).mono ?_
  rintro e w9 ⟨rfl, hb9⟩
  have B9 := Lib.hid (bnext B8.out hb9)
  have z9 : w8.heap.size ≤ w9.heap.size := hb9.size
  have W0 := Lib.hid (W0.out.later hb9)
  have Y2 := Lib.hid (Y2.out.later hb9)
  have G0 := Lib.hid (G0.out.later hb9)
  have T2 := Lib.hid (T2.out.later hb9)
  clear hb9
  go_wp2_with fail
  refine (mark_ints P2 (by omega) 1 (by omega) _ g4 _ _ Y2.out).mono ?_
  rintro e w10 ⟨rfl, hO10, _⟩
  have sw10 : U0.heap.size ≤ w3.heap.size := B3.out.size
  have B10 := Lib.hid (B9.out.trans (hO10.base (by omega) B9.out.size))
  have z10 : w9.heap.size ≤ w10.heap.size := hO10.size
  have G0 := Lib.hid (G0.out.only hO10 (by omega))
  have W0 := Lib.hid (W0.out.only hO10 (fun g o h1 h2 => by have := WL.out g o h1 h2; omega))
  clear hO10
  obtain ⟨KK10, hK10⟩ : ∃ KK : Nat, 1 + P2.length = KK := ⟨_, rfl⟩
  have hK101 : ¬ (KK10 : Int) < 0 := by omega
  have hK102 : KK10 ≤ 10000000 := by omega
  rw [hK10]
  clear hK10
  go_wp2_with fail
  refine (eq_ints Q r6 r3 m6 m3 (by omega) _ G0.out.arg W0.out).mono ?_
  rintro e w11 ⟨rfl, hb11⟩
  have B11 := Lib.hid (bnext B10.out hb11)
  have z11 : w10.heap.size ≤ w11.heap.size := hb11.size
  have W0 := Lib.hid (W0.out.later hb11)
  have G0 := Lib.hid (G0.out.later hb11)
  clear hb11
  have bg : w5.heap.size ≤ w11.heap.size := by omega
  go_wp2_with fail
  refine (mark_res Q (by omega) 1 (by omega) w5.heap.size m6 r6 _ bg G0.out).mono ?_
  rintro e w12 ⟨rfl, hb12, M0⟩
  have sv12 : U0.heap.size ≤ w5.heap.size := B5.out.size
  have B12 := Lib.hid (B11.out.trans (hb12.mono (by omega)))
  have z12 : w11.heap.size ≤ w12.heap.size := hb12.size
  have W0 := Lib.hid (W0.out.base hb12 (fun g o h1 h2 => by have := WL.out g o h1 h2; omega))
  have G0 := Lib.hid M0
  clear hb12 M0
  obtain ⟨q, hq⟩ : ∃ q : Int, ((1 + Q.length : Nat) : Int) = q := ⟨_, rfl⟩
  have hq0 : ¬ q < 0 := by omega
  have HQ := Lib.hid hq
  rw [hq]
  clear hq
  go_wp2_with fail
  refine (held_res Q.length (by omega) 1 (by omega) m6 r6 _ _ G0.out).mono ?_
  rintro e w13 ⟨rfl, hb13⟩
  have B13 := Lib.hid (bnext B12.out hb13)
  have z13 : w12.heap.size ≤ w13.heap.size := hb13.size
  have W0 := Lib.hid (W0.out.later hb13)
  have G0 := Lib.hid (G0.out.later hb13)
  rw [HQ.out]
  clear hb13
  obtain ⟨k00, k01, k02, k03⟩ := K0.out _ B13.out
  go_wp2_with fail
  refine (to_format a0 b0 c0 d0 _).mono ?_
  rintro e w14 ⟨rfl, hb14⟩
  have B14 := Lib.hid (bnext B13.out hb14)
  have z14 : w13.heap.size ≤ w14.heap.size := hb14.size
  have W0 := Lib.hid (W0.out.later hb14)
  have G0 := Lib.hid (G0.out.later hb14)
  clear hb14 k00 k01 k02 k03
  go_wp2_with fail
  refine (to_ints P2 s2 t2 hl2 _ (HA2.out.later B14.out)).mono ?_
  rintro e w15 ⟨g15, rfl, o15, hb15⟩
  have B15 := Lib.hid (bnext B14.out hb15)
  have z15 : w14.heap.size ≤ w15.heap.size := hb15.size
  have W0 := Lib.hid (W0.out.later hb15)
  have G0 := Lib.hid (G0.out.later hb15)
  clear hb15
  have Z2 := Lib.hid o15
  clear o15
  go_wp2_with fail
  refine (I.out _ _ _ Z2.out.some).mono ?_
  rintro e w16 ⟨r16, m16, rfl, O16, hb16⟩
  have B16 := Lib.hid (bnext B15.out hb16)
  have z16 : w15.heap.size ≤ w16.heap.size := hb16.size
  have W0 := Lib.hid (W0.out.later hb16)
  have G0 := Lib.hid (G0.out.later hb16)
  have Z2 := Lib.hid (Z2.out.later hb16)
  clear hb16
  have H0 := Lib.hid O16
  clear O16
  go_wp2_with fail
  refine (eq_ints Q r16 r3 m16 m3 (by omega) _ H0.out.arg W0.out).mono ?_
  rintro e w17 ⟨rfl, hb17⟩
  have B17 := Lib.hid (bnext B16.out hb17)
  have z17 : w16.heap.size ≤ w17.heap.size := hb17.size
  have W0 := Lib.hid (W0.out.later hb17)
  have G0 := Lib.hid (G0.out.later hb17)
  have H0 := Lib.hid (H0.out.later hb17)
  clear hb17
  go_wp2_with fail
  refine (held_res Q.length (by omega) 1 (by omega) m6 r6 _ _ G0.out).mono ?_
  rintro e w18 ⟨rfl, hb18⟩
  have B18 := Lib.hid (bnext B17.out hb18)
  have z18 : w17.heap.size ≤ w18.heap.size := hb18.size
  have W0 := Lib.hid (W0.out.later hb18)
  have G0 := Lib.hid (G0.out.later hb18)
  have H0 := Lib.hid (H0.out.later hb18)
  rw [HQ.out]
  clear hb18
  go_wp2
  go_ret
  exact ⟨rfl, bnext E0.out B18.out⟩
end Go.Proofs.Ytmbmbkagmkmhlaa
