/-
  The walk of the law on ValidMoulds.
-/
import Derived.Test.YtgffgcobgjngnaaMoI
import Derived.Test.YtgffgcobgjngnaaMoL
namespace Go.Proofs.Ytgffgcobgjngnaa
open Go.ChangeShapes Go.WideShapes Go.ChangeAt Go.RowKit Go.Joins

set_option maxRecDepth 100000 in
set_option maxHeartbeats 12800000 in
theorem walk_FnExactValidMoulds (L0 : List Mo) (a0 : Option Addr) (cap0 : Nat) (hl0 : L0.length ≤ maxLen) (w : World) (ha0 : MoArg w a0 L0) :
    Calls Try.prog 3 #[.slice a0 L0.length cap0] w fun e w' => e = .returned (.bool true) ∧ Below w.heap.size w w' := by
  have B0 : Hid (Below w.heap.size w w) := Below.refl _ _
  have HA0 := Lib.hid ha0
  clear ha0
  have H0 : Hid (Below w.heap.size w w) := Below.refl _ _
  have hb0sz : w.heap.size ≤ w.heap.size := B0.out.size
  go_enter Try.func3, Try.ntmps3
  go_wp2_with fail
  refine (sz_moulds L0.length a0 cap0 1048576 (by omega) (by omega) hl0 w).mono ?_
  rintro e wz0 ⟨r0, rfl, r00, r01, r02, rfl⟩
  by_cases hr0 : r0 < 0
  · go_wp2
    go_ret
    exact ⟨rfl, B0.out.trans (H0.out.mono B0.out.size)⟩
  have hL0 := r02 (by omega)
  clear r02 hl0
  have S := Lib.hid (fun g0 cp0 wx (h0 : MoArg wx g0 L0) => valid_mospec L0 g0 cp0 hL0 wx h0)
  have I := Lib.hid (fun g0 cp0 wx (h0 : MoArg wx g0 L0) => valid_moimpl L0 g0 cp0 hL0 wx h0)
  obtain ⟨y0, hv0⟩ : ∃ y0, okMos L0 = y0 := ⟨_, rfl⟩
  rw [hv0] at S I
  clear hv0
  go_wp2_with fail
  refine (to_moulds L0 a0 cap0 hL0 _ (HA0.out.later H0.out)).mono ?_
  rintro e w1 ⟨gX0, rfl, o1, hb1⟩
  have z1 : w.heap.size ≤ w1.heap.size := hb1.size
  have H1 := Lib.hid (bnext H0.out hb1)
  have X0 := Lib.hid o1
  clear hb1
  clear o1
  go_wp2_with fail
  refine (S.out _ _ _ X0.out.arg).mono ?_
  rintro e w2 ⟨rfl, hb2⟩
  have z2 : w1.heap.size ≤ w2.heap.size := hb2.size
  have H2 := Lib.hid (bnext H1.out hb2)
  have X0 := Lib.hid (X0.out.later hb2)
  clear hb2
  go_wp2_with fail
  refine (to_moulds L0 a0 cap0 hL0 _ (HA0.out.later H2.out)).mono ?_
  rintro e w3 ⟨gY0, rfl, o3, hb3⟩
  have z3 : w2.heap.size ≤ w3.heap.size := hb3.size
  have H3 := Lib.hid (bnext H2.out hb3)
  have Y0 := Lib.hid o3
  have YLT0 := Lib.hid o3.2.2.2
  clear hb3
  clear o3
  go_wp2_with fail
  refine (I.out _ _ _ Y0.out.arg).mono ?_
  rintro e w4 ⟨rfl, hb4⟩
  have z4 : w3.heap.size ≤ w4.heap.size := hb4.size
  have H4 := Lib.hid (bnext H3.out hb4)
  have Y0 := Lib.hid (Y0.out.later hb4)
  clear hb4
  go_wp2_with fail
  refine (to_moulds L0 a0 cap0 hL0 _ (HA0.out.later H4.out)).mono ?_
  rintro e w5 ⟨gT0, rfl, o5, hb5⟩
  have z5 : w4.heap.size ≤ w5.heap.size := hb5.size
  have H5 := Lib.hid (bnext H4.out hb5)
  have Y0 := Lib.hid (Y0.out.later hb5)
  have T0 := Lib.hid o5
  clear hb5
  clear o5
  go_wp2_with fail
  refine (eq_moulds L0 _ _ _ _ (by omega) _ Y0.out.arg T0.out.arg).mono ?_
  rintro e w6 ⟨rfl, hb6⟩
  have z6 : w5.heap.size ≤ w6.heap.size := hb6.size
  have H6 := Lib.hid (bnext H5.out hb6)
  have Y0 := Lib.hid (Y0.out.later hb6)
  have T0 := Lib.hid (T0.out.later hb6)
  clear hb6
  go_wp2
  go_ret
  exact ⟨rfl, B0.out.trans (H6.out.mono B0.out.size)⟩
end Go.Proofs.Ytgffgcobgjngnaa
