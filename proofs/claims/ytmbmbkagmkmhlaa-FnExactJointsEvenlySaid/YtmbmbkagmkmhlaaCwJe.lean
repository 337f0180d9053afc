/-
  The walk of the law on JointsEvenly.
-/
import Derived.Test.YtmbmbkagmkmhlaaJe
import Derived.Test.YtmbmbkagmkmhlaaIntX
import Derived.Deep.RegionWith
namespace Go.Proofs.Ytmbmbkagmkmhlaa
open Go.ChangeShapes Go.WideShapes Go.ChangeAt Go.RowKit Go.Joins

set_option maxRecDepth 100000 in
set_option maxHeartbeats 12800000 in
theorem walk_FnExactJointsEvenly (a0 b0 c0 d0 : Int) (x1 : Int) (_wx1 : (Lit.int .i64 x1).wf = true) (x2 : Int) (_wx2 : (Lit.int .i64 x2).wf = true) (w : World)  :
    Calls Try.prog 8 #[.agg #[.int .i64 a0, .int .i64 b0, .int .i64 c0, .int .i64 d0], .int .i64 x1, .int .i64 x2] w fun e w' => e = .returned (.bool true) ∧ Below w.heap.size w w' := by
  have kx0 := range_new w #[.int .i64 a0, .int .i64 b0, .int .i64 c0, .int .i64 d0] 33
  have E0 := Lib.hid (balloc (Below.refl w.heap.size w) (.cells #[.int .i64 a0, .int .i64 b0, .int .i64 c0, .int .i64 d0] 33))
  obtain ⟨U0, hU0⟩ : ∃ U0, World.alloc w (.cells #[.int .i64 a0, .int .i64 b0, .int .i64 c0, .int .i64 d0] 33) = U0 := ⟨_, rfl⟩
  rw [hU0] at kx0 E0
  have E0 : Hid (Below w.heap.size w U0) := E0.out
  have HU0 := Lib.hid hU0
  clear hU0
  have kb0 : w.heap.size < U0.heap.size := by have := World.block_lt_of_cell? U0 _ (kx0 0 _ rfl); exact this
  have K0 : Hid (∀ wx, Below U0.heap.size U0 wx → wx.cell? ⟨w.heap.size, 0, none⟩ = some (.int .i64 a0) ∧ wx.cell? ⟨w.heap.size, 1, none⟩ = some (.int .i64 b0) ∧ wx.cell? ⟨w.heap.size, 2, none⟩ = some (.int .i64 c0) ∧ wx.cell? ⟨w.heap.size, 3, none⟩ = some (.int .i64 d0)) := fun wx hx => by
    have h := range_below kx0 hx
    exact ⟨h 0 _ rfl, h 1 _ rfl, h 2 _ rfl, h 3 _ rfl⟩
  clear kx0 kb0
  skip
  go_enter Try.func8, Try.ntmps8
  have S := Lib.hid (fun (wx : World) => joins_spec a0 b0 c0 d0 x1 x2  wx )
  have I := Lib.hid (fun (wx : World) => joins_impl a0 b0 c0 d0 x1 x2  wx )
  have hQ : (joinsQ a0 b0 c0 d0 x1 x2).length ≤ 1048576 := joinsQ_len a0 b0 c0 d0 x1 x2
  obtain ⟨Q, hQe⟩ : ∃ Q : List Int, joinsQ a0 b0 c0 d0 x1 x2 = Q := ⟨_, rfl⟩
  rw [hQe] at S I hQ
  clear hQe
  obtain ⟨v1, hv⟩ : ∃ v : Int, bedC a0 b0 c0 d0 x1 x2 = v := ⟨_, rfl⟩
  rw [hv] at S I
  clear hv
  obtain ⟨k00, k01, k02, k03⟩ := K0.out _ (Below.refl _ _)
  go_wp2_with fail
  try rw [HU0.out]
  try go_wp2_with fail
  refine (to_format a0 b0 c0 d0 _).mono ?_
  rintro e w1 ⟨rfl, hb1⟩
  have B1 := Lib.hid hb1
  have z1 : U0.heap.size ≤ w1.heap.size := hb1.size
  clear hb1 k00 k01 k02 k03
  go_wp2_with fail
  refine (S.out _).mono ?_
  rintro e w2 ⟨r2, m2, rfl, O2, hb2⟩
  have B2 := Lib.hid (bnext B1.out hb2)
  have z2 : w1.heap.size ≤ w2.heap.size := hb2.size
  clear hb2
  have WL := Lib.hid O2.lt
  have W0 := Lib.hid O2.arg
  clear O2
  obtain ⟨k00, k01, k02, k03⟩ := K0.out _ B2.out
  go_wp2_with fail
  refine (to_format a0 b0 c0 d0 _).mono ?_
  rintro e w3 ⟨rfl, hb3⟩
  have B3 := Lib.hid (bnext B2.out hb3)
  have z3 : w2.heap.size ≤ w3.heap.size := hb3.size
  have W0 := Lib.hid (W0.out.later hb3)
  clear hb3 k00 k01 k02 k03
  go_wp2_with fail
  refine (I.out _).mono ?_
  rintro e w4 ⟨r4, m4, rfl, O4, hb4⟩
  have B4 := Lib.hid (bnext B3.out hb4)
  have z4 : w3.heap.size ≤ w4.heap.size := hb4.size
  have W0 := Lib.hid (W0.out.later hb4)
  clear hb4
  have G0 := Lib.hid O4
  clear O4
  go_wp2_with fail
  refine (eq_ints Q r4 r2 m4 m2 (by omega) _ G0.out.arg W0.out).mono ?_
  rintro e w5 ⟨rfl, hb5⟩
  have B5 := Lib.hid (bnext B4.out hb5)
  have z5 : w4.heap.size ≤ w5.heap.size := hb5.size
  have W0 := Lib.hid (W0.out.later hb5)
  have G0 := Lib.hid (G0.out.later hb5)
  clear hb5
  have bg : w3.heap.size ≤ w5.heap.size := by omega
  go_wp2_with fail
  refine (mark_res Q (by omega) 1 (by omega) w3.heap.size m4 r4 _ bg G0.out).mono ?_
  rintro e w6 ⟨rfl, hb6, M0⟩
  have sv6 : U0.heap.size ≤ w3.heap.size := B3.out.size
  have B6 := Lib.hid (B5.out.trans (hb6.mono (by omega)))
  have z6 : w5.heap.size ≤ w6.heap.size := hb6.size
  have W0 := Lib.hid (W0.out.base hb6 (fun g o h1 h2 => by have := WL.out g o h1 h2; omega))
  have G0 := Lib.hid M0
  clear hb6 M0
  obtain ⟨q, hq⟩ : ∃ q : Int, ((1 + Q.length : Nat) : Int) = q := ⟨_, rfl⟩
  have hq0 : ¬ q < 0 := by omega
  have HQ := Lib.hid hq
  rw [hq]
  clear hq
  go_wp2_with fail
  refine (held_res Q.length (by omega) 1 (by omega) m4 r4 _ _ G0.out).mono ?_
  rintro e w7 ⟨rfl, hb7⟩
  have B7 := Lib.hid (bnext B6.out hb7)
  have z7 : w6.heap.size ≤ w7.heap.size := hb7.size
  have W0 := Lib.hid (W0.out.later hb7)
  have G0 := Lib.hid (G0.out.later hb7)
  rw [HQ.out]
  clear hb7
  obtain ⟨k00, k01, k02, k03⟩ := K0.out _ B7.out
  go_wp2_with fail
  refine (to_format a0 b0 c0 d0 _).mono ?_
  rintro e w8 ⟨rfl, hb8⟩
  have B8 := Lib.hid (bnext B7.out hb8)
  have z8 : w7.heap.size ≤ w8.heap.size := hb8.size
  have W0 := Lib.hid (W0.out.later hb8)
  have G0 := Lib.hid (G0.out.later hb8)
  clear hb8 k00 k01 k02 k03
  go_wp2_with fail
  refine (I.out _).mono ?_
  rintro e w9 ⟨r9, m9, rfl, O9, hb9⟩
  have B9 := Lib.hid (bnext B8.out hb9)
  have z9 : w8.heap.size ≤ w9.heap.size := hb9.size
  have W0 := Lib.hid (W0.out.later hb9)
  have G0 := Lib.hid (G0.out.later hb9)
  clear hb9
  have H0 := Lib.hid O9
  clear O9
  go_wp2_with fail
  refine (eq_ints Q r9 r2 m9 m2 (by omega) _ H0.out.arg W0.out).mono ?_
  rintro e w10 ⟨rfl, hb10⟩
  have B10 := Lib.hid (bnext B9.out hb10)
  have z10 : w9.heap.size ≤ w10.heap.size := hb10.size
  have W0 := Lib.hid (W0.out.later hb10)
  have G0 := Lib.hid (G0.out.later hb10)
  have H0 := Lib.hid (H0.out.later hb10)
  clear hb10
  go_wp2_with fail
  refine (held_res Q.length (by omega) 1 (by omega) m4 r4 _ _ G0.out).mono ?_
  rintro e w11 ⟨rfl, hb11⟩
  have B11 := Lib.hid (bnext B10.out hb11)
  have z11 : w10.heap.size ≤ w11.heap.size := hb11.size
  have W0 := Lib.hid (W0.out.later hb11)
  have G0 := Lib.hid (G0.out.later hb11)
  have H0 := Lib.hid (H0.out.later hb11)
  rw [HQ.out]
  clear hb11
  go_wp2
  go_ret
  exact ⟨rfl, bnext E0.out B11.out⟩
end Go.Proofs.Ytmbmbkagmkmhlaa
