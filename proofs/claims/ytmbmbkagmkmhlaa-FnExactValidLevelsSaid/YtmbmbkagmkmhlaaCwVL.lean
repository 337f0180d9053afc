/-
  The walk of the law on ValidLevels.
-/
import Derived.Test.YtmbmbkagmkmhlaaGm
import Derived.Test.YtmbmbkagmkmhlaaHoLP
import Derived.Test.YtmbmbkagmkmhlaaIntX
import Derived.Deep.RegionWith
namespace Go.Proofs.Ytmbmbkagmkmhlaa
open Go.ChangeShapes Go.WideShapes Go.ChangeAt Go.RowKit Go.Joins

set_option maxRecDepth 100000 in
set_option maxHeartbeats 12800000 in
theorem walk_FnExactValidLevels (P0 : List Int) (s0 : Option Addr) (t0 : Nat) (_hl0 : P0.length ≤ maxLen) (x1 : Int) (_wx1 : (Lit.int .i64 x1).wf = true) (w : World) (ha0 : IntArg w s0 P0) :
    Calls Try.prog 3 #[.slice s0 P0.length t0, .int .i64 x1] w fun e w' => e = .returned (.bool true) ∧ Below w.heap.size w w' := by
  by_cases hp0 : (1048576 : Int) < (P0.length : Int)
  · clear ha0
    go_enter Try.func3, Try.ntmps3
    go_wp2
    go_ret
    exact ⟨rfl, Below.refl _ _⟩
  have hl0 : P0.length ≤ 1048576 := by omega
  have HA0 := Lib.hid ha0
  clear ha0
  go_enter Try.func3, Try.ntmps3
  have S := Lib.hid (fun (g0 : Option Addr) (q0 : Nat) (wx : World) (h0 : IntArg wx g0 P0) => validLevels_spec P0 x1 g0 q0 hl0 wx h0)
  have I := Lib.hid (fun (g0 : Option Addr) (q0 : Nat) (wx : World) (h0 : IntArg wx g0 P0) => levels_impl P0 x1 g0 q0 hl0 wx h0)
  obtain ⟨v0, hv⟩ : ∃ v : Bool, lvB P0 x1 = v := ⟨_, rfl⟩
  rw [hv] at S I
  clear hv
  go_wp2_with fail
  refine (to_ints P0 s0 t0 hl0 _ HA0.out).mono ?_
  rintro e w1 ⟨g1, rfl, o1, hb1⟩
  have B1 := Lib.hid hb1
  have z1 : w.heap.size ≤ w1.heap.size := hb1.size
  clear hb1
  have X0 := Lib.hid o1
  clear o1
  go_wp2_with fail
  refine (S.out _ _ _ X0.out.arg).mono ?_
  rintro e w2 ⟨rfl, hb2⟩
  have B2 := Lib.hid (bnext B1.out hb2)
  have z2 : w1.heap.size ≤ w2.heap.size := hb2.size
  have X0 := Lib.hid (X0.out.later hb2)
  clear hb2
  go_wp2_with fail
  refine (to_ints P0 s0 t0 hl0 _ (HA0.out.later B2.out)).mono ?_
  rintro e w3 ⟨g3, rfl, o3, hb3⟩
  have B3 := Lib.hid (bnext B2.out hb3)
  have z3 : w2.heap.size ≤ w3.heap.size := hb3.size
  clear hb3
  have Y0 := Lib.hid o3
  clear o3
  have y0lt : g3 < w3.heap.size := Y0.out.2.2.2
  have y0ge : w2.heap.size ≤ g3 := Y0.out.1
  go_wp2_with fail
  refine (I.out _ _ _ Y0.out.arg).mono ?_
  rintro e w4 ⟨rfl, hb4⟩
  have B4 := Lib.hid (bnext B3.out hb4)
  have z4 : w3.heap.size ≤ w4.heap.size := hb4.size
  have Y0 := Lib.hid (Y0.out.later hb4)
  clear hb4
  go_wp2_with fail
  refine (to_ints P0 s0 t0 hl0 _ (HA0.out.later B4.out)).mono ?_
  rintro e w5 ⟨g5, rfl, o5, hb5⟩
  have B5 := Lib.hid (bnext B4.out hb5)
  have z5 : w4.heap.size ≤ w5.heap.size := hb5.size
  have Y0 := Lib.hid (Y0.out.later hb5)
  clear hb5
  have T0 := Lib.hid o5
  clear o5
  go_wp2_with fail
  refine (eq_ints P0 _ _ _ _ (by omega) _ Y0.out.arg T0.out.arg).mono ?_
  rintro e w6 ⟨rfl, hb6⟩
  have B6 := Lib.hid (bnext B5.out hb6)
  have z6 : w5.heap.size ≤ w6.heap.size := hb6.size
  have Y0 := Lib.hid (Y0.out.later hb6)
  have T0 := Lib.hid (T0.out.later hb6)
  clear hb6
  go_wp2
  go_ret
  exact ⟨rfl, B6.out⟩
end Go.Proofs.Ytmbmbkagmkmhlaa
