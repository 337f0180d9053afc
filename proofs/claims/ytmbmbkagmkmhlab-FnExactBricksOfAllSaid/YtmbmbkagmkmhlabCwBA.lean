/-
  The walk of the law on BricksOfAll.
-/
import Derived.Test.YtmbmbkagmkmhlabQc
import Derived.Test.YtmbmbkagmkmhlabPcL
import Derived.Test.YtmbmbkagmkmhlabIntX
import Derived.Deep.RegionWith
namespace Go.Proofs.Ytmbmbkagmkmhlab
open Go.ChangeShapes Go.WideShapes Go.ChangeAt Go.RowKit Go.Joins

set_option maxRecDepth 100000 in
set_option maxHeartbeats 12800000 in
theorem walk_FnExactBricksOfAll (a0 b0 c0 d0 : Int) (L1 : List Pc) (s1 : Option Addr) (t1 : Nat) (hl1 : L1.length ≤ maxLen) (w : World) (ha1 : PcArg w s1 L1) :
    Calls Try.prog 5 #[.agg #[.int .i64 a0, .int .i64 b0, .int .i64 c0, .int .i64 d0], .slice s1 L1.length t1] w fun e w' => e = .returned (.bool true) ∧ Below w.heap.size w w' := by
  have kx0 := range_new w #[.int .i64 a0, .int .i64 b0, .int .i64 c0, .int .i64 d0] 30
  have E0 := Lib.hid (balloc (Below.refl w.heap.size w) (.cells #[.int .i64 a0, .int .i64 b0, .int .i64 c0, .int .i64 d0] 30))
  obtain ⟨U0, hU0⟩ : ∃ U0, World.alloc w (.cells #[.int .i64 a0, .int .i64 b0, .int .i64 c0, .int .i64 d0] 30) = U0 := ⟨_, rfl⟩
  rw [hU0] at kx0 E0
  have E0 : Hid (Below w.heap.size w U0) := E0.out
  have HU0 := Lib.hid hU0
  clear hU0
  have kb0 : w.heap.size < U0.heap.size := by have := World.block_lt_of_cell? U0 _ (kx0 0 _ rfl); exact this
  have K0 : Hid (∀ wx, Below U0.heap.size U0 wx → wx.cell? ⟨w.heap.size, 0, none⟩ = some (.int .i64 a0) ∧ wx.cell? ⟨w.heap.size, 1, none⟩ = some (.int .i64 b0) ∧ wx.cell? ⟨w.heap.size, 2, none⟩ = some (.int .i64 c0) ∧ wx.cell? ⟨w.heap.size, 3, none⟩ = some (.int .i64 d0)) := fun wx hx => by
    have h := range_below kx0 hx
    exact ⟨h 0 _ rfl, h 1 _ rfl, h 2 _ rfl, h 3 _ rfl⟩
  clear kx0 kb0
  have Z := Lib.hid (sz_pcs L1.length s1 t1 1048576 (by omega) (by omega) (by unfold maxLen at hl1; omega) U0)
  have HA1 := Lib.hid (ha1.later E0.out)
  clear ha1
  go_enter Try.func5, Try.ntmps5
  go_wp2_with fail
  try rw [HU0.out]
  try go_wp2_with fail
  refine Z.out.mono ?_
  rintro e w1 ⟨r, rfl, r0, r1, r2, hw1⟩
  have hb1 : Below U0.heap.size U0 w1 := by rw [← hw1]; exact Below.refl _ _
  have B1 := Lib.hid hb1
  have R2 := Lib.hid r2
  have z1 : U0.heap.size ≤ w1.heap.size := hb1.size
  clear hb1 r2 hw1
  by_cases hr : r < 0
  · go_wp2
    go_ret
    exact ⟨rfl, bnext E0.out B1.out⟩
  have hl1 := R2.out (by omega)
  have S := Lib.hid (fun (g1 : Option Addr) (q1 : Nat) (wx : World) (h1 : PcArg wx g1 L1) => bricksAll_spec a0 b0 c0 d0 L1 g1 q1 hl1 wx h1)
  have I := Lib.hid (fun (g1 : Option Addr) (q1 : Nat) (wx : World) (h1 : PcArg wx g1 L1) => bricksAll_impl a0 b0 c0 d0 L1 g1 q1 hl1 wx h1)
  obtain ⟨v0, hv⟩ : ∃ v : Int, allQ a0 b0 c0 d0 L1 = v := ⟨_, rfl⟩
  rw [hv] at S I
  clear hv
  obtain ⟨v1, hv⟩ : ∃ v : Int, allC a0 b0 c0 d0 L1 = v := ⟨_, rfl⟩
  rw [hv] at S I
  clear hv
  obtain ⟨k00, k01, k02, k03⟩ := K0.out _ B1.out
  go_wp2_with fail
  refine (to_format a0 b0 c0 d0 _).mono ?_
  rintro e w2 ⟨rfl, hb2⟩
  have B2 := Lib.hid (bnext B1.out hb2)
  have z2 : w1.heap.size ≤ w2.heap.size := hb2.size
  clear hb2 k00 k01 k02 k03
  go_wp2_with fail
  refine (to_pcs L1 s1 t1 hl1 _ (HA1.out.later B2.out)).mono ?_
  rintro e w3 ⟨g3, rfl, o3, hb3⟩
  have B3 := Lib.hid (bnext B2.out hb3)
  have z3 : w2.heap.size ≤ w3.heap.size := hb3.size
  clear hb3
  have X1 := Lib.hid o3
  clear o3
  go_wp2_with fail
  refine (S.out _ _ _ X1.out.arg).mono ?_
  rintro e w4 ⟨rfl, hb4⟩
  have B4 := Lib.hid (bnext B3.out hb4)
  have z4 : w3.heap.size ≤ w4.heap.size := hb4.size
  have X1 := Lib.hid (X1.out.later hb4)
  clear hb4
  go_wp2_with fail
  refine (to_pcs L1 s1 t1 hl1 _ (HA1.out.later B4.out)).mono ?_
  rintro e w5 ⟨g5, rfl, o5, hb5⟩
  have B5 := Lib.hid (bnext B4.out hb5)
  have z5 : w4.heap.size ≤ w5.heap.size := hb5.size
  clear hb5
  have Y1 := Lib.hid o5
  clear o5
  have y1lt : g5 < w5.heap.size := Y1.out.2.2.2
  have y1ge : w4.heap.size ≤ g5 := Y1.out.1
  obtain ⟨k00, k01, k02, k03⟩ := K0.out _ B5.out
  go_wp2_with fail
  refine (to_format a0 b0 c0 d0 _).mono ?_
  rintro e w6 ⟨rfl, hb6⟩
  have B6 := Lib.hid (bnext B5.out hb6)
  have z6 : w5.heap.size ≤ w6.heap.size := hb6.size
  have Y1 := Lib.hid (Y1.out.later hb6)
  clear hb6 k00 k01 k02 k03
  go_wp2_with fail
  refine (I.out _ _ _ Y1.out.arg).mono ?_
  rintro e w7 ⟨rfl, hb7⟩
  have B7 := Lib.hid (bnext B6.out hb7)
  have z7 : w6.heap.size ≤ w7.heap.size := hb7.size
  have Y1 := Lib.hid (Y1.out.later hb7)
  clear hb7
  go_wp2_with fail
  refine (to_pcs L1 s1 t1 hl1 _ (HA1.out.later B7.out)).mono ?_
  rintro e w8 ⟨g8, rfl, o8, hb8⟩
  have B8 := Lib.hid (bnext B7.out hb8)
  have z8 : w7.heap.size ≤ w8.heap.size := hb8.size
  have Y1 := Lib.hid (Y1.out.later hb8)
  clear hb8
  have T1 := Lib.hid o8
  clear o8
  go_wp2_with fail
  refine (eq_pcs L1 _ _ _ _ (by omega) _ Y1.out.arg T1.out.arg).mono ?_
  rintro e w9 ⟨rfl, hb9⟩
  have B9 := Lib.hid (bnext B8.out hb9)
  have z9 : w8.heap.size ≤ w9.heap.size := hb9.size
  have Y1 := Lib.hid (Y1.out.later hb9)
  have T1 := Lib.hid (T1.out.later hb9)
  clear hb9
  go_wp2
  go_ret
  exact ⟨rfl, bnext E0.out B9.out⟩
end Go.Proofs.Ytmbmbkagmkmhlab
