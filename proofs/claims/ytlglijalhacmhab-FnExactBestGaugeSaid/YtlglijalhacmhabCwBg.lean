/-
  The walk of the law on BestGauge.
-/
import Derived.Test.YtlglijalhacmhabBgS
import Derived.Test.YtlglijalhacmhabBgC
import Derived.Test.YtlglijalhacmhabHoLP
import Derived.Test.YtlglijalhacmhabC2b
import Derived.Deep.RegionWith
namespace Go.Proofs.Ytlglijalhacmhab
open Go.ChangeShapes Go.WideShapes Go.ChangeAt Go.RowKit Go.Joins

set_option maxRecDepth 100000 in
set_option maxHeartbeats 12800000 in
theorem walk_FnExactBestGauge (a0 b0 c0 d0 : Int) (x1 : Int) (_wx1 : (Lit.int .i64 x1).wf = true) (x2 : Int) (_wx2 : (Lit.int .i64 x2).wf = true) (x3 : Int) (_wx3 : (Lit.int .i64 x3).wf = true) (P4 : List Int) (s4 : Option Addr) (t4 : Nat) (_hl4 : P4.length ≤ maxLen) (w : World) (ha4 : IntArg w s4 P4) :
    Calls Try.prog 8 #[.agg #[.int .i64 a0, .int .i64 b0, .int .i64 c0, .int .i64 d0], .int .i64 x1, .int .i64 x2, .int .i64 x3, .slice s4 P4.length t4] w fun e w' => e = .returned (.bool true) ∧ Below w.heap.size w w' := by
  have kx0 := range_new w #[.int .i64 a0, .int .i64 b0, .int .i64 c0, .int .i64 d0] 48
  have E0 := Lib.hid (balloc (Below.refl w.heap.size w) (.cells #[.int .i64 a0, .int .i64 b0, .int .i64 c0, .int .i64 d0] 48))
  obtain ⟨U0, hU0⟩ : ∃ U0, World.alloc w (.cells #[.int .i64 a0, .int .i64 b0, .int .i64 c0, .int .i64 d0] 48) = U0 := ⟨_, rfl⟩
  rw [hU0] at kx0 E0
  have E0 : Hid (Below w.heap.size w U0) := E0.out
  have HU0 := Lib.hid hU0
  clear hU0
  have kb0 : w.heap.size < U0.heap.size := by have := World.block_lt_of_cell? U0 _ (kx0 0 _ rfl); exact this
  have K0 : Hid (∀ wx, Below U0.heap.size U0 wx → wx.cell? ⟨w.heap.size, 0, none⟩ = some (.int .i64 a0) ∧ wx.cell? ⟨w.heap.size, 1, none⟩ = some (.int .i64 b0) ∧ wx.cell? ⟨w.heap.size, 2, none⟩ = some (.int .i64 c0) ∧ wx.cell? ⟨w.heap.size, 3, none⟩ = some (.int .i64 d0)) := fun wx hx => by
    have h := range_below kx0 hx
    exact ⟨h 0 _ rfl, h 1 _ rfl, h 2 _ rfl, h 3 _ rfl⟩
  clear kx0 kb0
  by_cases hp4 : (1048576 : Int) < (P4.length : Int)
  · clear ha4
    go_enter Try.func8, Try.ntmps8
    go_wp2_with fail
    try rw [HU0.out]
    try go_wp2
    go_ret
    exact ⟨rfl, E0.out⟩
  have hl4 : P4.length ≤ 1048576 := by omega
  have HA4 := Lib.hid (ha4.later E0.out)
  clear ha4
  go_enter Try.func8, Try.ntmps8
  have S := Lib.hid (fun (g4 : Option Addr) (q4 : Nat) (wx : World) (h4 : IntArg wx g4 P4) => bestGauge_spec a0 b0 c0 d0 x1 x2 x3 P4 g4 q4 hl4 wx h4)
  have I := Lib.hid (fun (g4 : Option Addr) (q4 : Nat) (wx : World) (h4 : IntArg wx g4 P4) => bestGauge_impl a0 b0 c0 d0 x1 x2 x3 P4 g4 q4 hl4 wx h4)
  obtain ⟨v0, hv⟩ : ∃ v : Int, bgN a0 b0 c0 d0 x1 x2 x3 P4 = v := ⟨_, rfl⟩
  rw [hv] at S I
  clear hv
  obtain ⟨v1, hv⟩ : ∃ v : Int, bgC a0 b0 c0 d0 x1 x2 x3 P4 = v := ⟨_, rfl⟩
  rw [hv] at S I
  clear hv
  obtain ⟨k00, k01, k02, k03⟩ := K0.out _ (Below.refl _ _)
  go_wp2_with fail
  try rw [HU0.out]
  try go_wp2_with fail
  refine (to_format a0 b0 c0 d0 _).mono ?_
  rintro e w1 ⟨rfl, hb1⟩
  have B1 := Lib.hid hb1
  have z1 : U0.heap.size ≤ w1.heap.size := hb1.size
  clear hb1 k00 k01 k02 k03
  go_wp2_with fail
  refine (to_ints P4 s4 t4 hl4 _ (HA4.out.later B1.out)).mono ?_
  rintro e w2 ⟨g2, rfl, o2, hb2⟩
  have B2 := Lib.hid (bnext B1.out hb2)
  have z2 : w1.heap.size ≤ w2.heap.size := hb2.size
  clear hb2
  have X4 := Lib.hid o2
  clear o2
  go_wp2_with fail
  refine (S.out _ _ _ X4.out.arg).mono ?_
  rintro e w3 ⟨rfl, hb3⟩
  have B3 := Lib.hid (bnext B2.out hb3)
  have z3 : w2.heap.size ≤ w3.heap.size := hb3.size
  have X4 := Lib.hid (X4.out.later hb3)
  clear hb3
  go_wp2_with fail
  refine (to_ints P4 s4 t4 hl4 _ (HA4.out.later B3.out)).mono ?_
  rintro e w4 ⟨g4, rfl, o4, hb4⟩
  have B4 := Lib.hid (bnext B3.out hb4)
  have z4 : w3.heap.size ≤ w4.heap.size := hb4.size
  clear hb4
  have Y4 := Lib.hid o4
  clear o4
  have y4lt : g4 < w4.heap.size := Y4.out.2.2.2
  have y4ge : w3.heap.size ≤ g4 := Y4.out.1
  obtain ⟨k00, k01, k02, k03⟩ := K0.out _ B4.out
  go_wp2_with fail
  refine (to_format a0 b0 c0 d0 _).mono ?_
  rintro e w5 ⟨rfl, hb5⟩
  have B5 := Lib.hid (bnext B4.out hb5)
  have z5 : w4.heap.size ≤ w5.heap.size := hb5.size
  have Y4 := Lib.hid (Y4.out.later hb5)
  clear hb5 k00 k01 k02 k03
  go_wp2_with fail
  refine (I.out _ _ _ Y4.out.arg).mono ?_
  rintro e w6 ⟨rfl, hb6⟩
  have B6 := Lib.hid (bnext B5.out hb6)
  have z6 : w5.heap.size ≤ w6.heap.size := hb6.size
  have Y4 := Lib.hid (Y4.out.later hb6)
  clear hb6
  go_wp2_with fail
  refine (to_ints P4 s4 t4 hl4 _ (HA4.out.later B6.out)).mono ?_
  rintro e w7 ⟨g7, rfl, o7, hb7⟩
  have B7 := Lib.hid (bnext B6.out hb7)
  have z7 : w6.heap.size ≤ w7.heap.size := hb7.size
  have Y4 := Lib.hid (Y4.out.later hb7)
  clear hb7
  have T4 := Lib.hid o7
  clear o7
  go_wp2_with fail
  refine (eq_ints P4 _ _ _ _ (by omega) _ Y4.out.arg T4.out.arg).mono ?_
  rintro e w8 ⟨rfl, hb8⟩
  have B8 := Lib.hid (bnext B7.out hb8)
  have z8 : w7.heap.size ≤ w8.heap.size := hb8.size
  have Y4 := Lib.hid (Y4.out.later hb8)
  have T4 := Lib.hid (T4.out.later hb8)
  clear hb8
  go_wp2
  go_ret
  exact ⟨rfl, bnext E0.out B8.out⟩
end Go.Proofs.Ytlglijalhacmhab
