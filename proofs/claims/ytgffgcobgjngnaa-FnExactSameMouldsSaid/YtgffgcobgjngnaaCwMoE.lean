/-
  The walk of the law on SameMoulds.
-/
import Derived.Test.YtgffgcobgjngnaaMoE
import Derived.Test.YtgffgcobgjngnaaMoL
namespace Go.Proofs.Ytgffgcobgjngnaa
open Go.ChangeShapes Go.WideShapes Go.ChangeAt Go.RowKit Go.Joins

set_option maxRecDepth 100000 in
set_option maxHeartbeats 12800000 in
theorem walk_FnExactSameMoulds (L0 : List Mo) (a0 : Option Addr) (cap0 : Nat) (hl0 : L0.length ≤ maxLen) (L1 : List Mo) (a1 : Option Addr) (cap1 : Nat) (hl1 : L1.length ≤ maxLen) (w : World) (ha0 : MoArg w a0 L0) (ha1 : MoArg w a1 L1) :
    Calls Try.prog 9 #[.slice a0 L0.length cap0, .slice a1 L1.length cap1] w fun e w' => e = .returned (.bool true) ∧ Below w.heap.size w w' := by
  have B0 : Hid (Below w.heap.size w w) := Below.refl _ _
  have HA0 := Lib.hid ha0
  have HA1 := Lib.hid ha1
  clear ha0 ha1
  have H0 : Hid (Below w.heap.size w w) := Below.refl _ _
  have hb0sz : w.heap.size ≤ w.heap.size := B0.out.size
  go_enter Try.func9, Try.ntmps9
  go_wp2_with fail
  refine (sz_moulds L0.length a0 cap0 1048576 (by omega) (by omega) hl0 w).mono ?_
  rintro e wz0 ⟨r0, rfl, r00, r01, r02, rfl⟩
  by_cases hr0 : r0 < 0
  · go_wp2
    go_ret
    exact ⟨rfl, B0.out.trans (H0.out.mono B0.out.size)⟩
  have hL0 := r02 (by omega)
  clear r02 hl0
  go_wp2_with fail
  refine (sz_moulds L1.length a1 cap1 r0 (by omega) (by omega) hl1 w).mono ?_
  rintro e wz1 ⟨r1, rfl, r10, r11, r12, rfl⟩
  by_cases hr1 : r1 < 0
  · go_wp2
    go_ret
    exact ⟨rfl, B0.out.trans (H0.out.mono B0.out.size)⟩
  have hL1 := r12 (by omega)
  clear r12 hl1
  have S := Lib.hid (fun g0 cp0 g1 cp1 wx (h0 : MoArg wx g0 L0) (h1 : MoArg wx g1 L1) => same_mould_spec L0 g0 cp0 hL0 L1 g1 cp1 hL1 wx h0 h1)
  have I := Lib.hid (fun g0 cp0 g1 cp1 wx (h0 : MoArg wx g0 L0) (h1 : MoArg wx g1 L1) => same_mould_impl L0 g0 cp0 hL0 L1 g1 cp1 hL1 wx h0 h1)
  obtain ⟨y0, hv0⟩ : ∃ y0, sameMoB L0 L1 = y0 := ⟨_, rfl⟩
  rw [hv0] at S I
  clear hv0
  go_wp2_with fail
  refine (to_moulds L0 a0 cap0 hL0 _ (HA0.out.later H0.out)).mono ?_
  rintro e w1 ⟨gX0, rfl, o1, hb1⟩
  have z1 : w.heap.size ≤ w1.heap.size := hb1.size
  have H1 := Lib.hid (bnext H0.out hb1)
  have X0 := Lib.hid o1
  clear hb1
  clear o1
  go_wp2_with fail
  refine (to_moulds L1 a1 cap1 hL1 _ (HA1.out.later H1.out)).mono ?_
  rintro e w2 ⟨gX1, rfl, o2, hb2⟩
  have z2 : w1.heap.size ≤ w2.heap.size := hb2.size
  have H2 := Lib.hid (bnext H1.out hb2)
  have X0 := Lib.hid (X0.out.later hb2)
  have X1 := Lib.hid o2
  clear hb2
  clear o2
  go_wp2_with fail
  refine (S.out _ _ _ _ _ X0.out.arg X1.out.arg).mono ?_
  rintro e w3 ⟨rfl, hb3⟩
  have z3 : w2.heap.size ≤ w3.heap.size := hb3.size
  have H3 := Lib.hid (bnext H2.out hb3)
  have X0 := Lib.hid (X0.out.later hb3)
  have X1 := Lib.hid (X1.out.later hb3)
  clear hb3
  go_wp2_with fail
  refine (to_moulds L0 a0 cap0 hL0 _ (HA0.out.later H3.out)).mono ?_
  rintro e w4 ⟨gY0, rfl, o4, hb4⟩
  have z4 : w3.heap.size ≤ w4.heap.size := hb4.size
  have H4 := Lib.hid (bnext H3.out hb4)
  have Y0 := Lib.hid o4
  have YLT0 := Lib.hid o4.2.2.2
  clear hb4
  clear o4
  go_wp2_with fail
  refine (to_moulds L1 a1 cap1 hL1 _ (HA1.out.later H4.out)).mono ?_
  rintro e w5 ⟨gY1, rfl, o5, hb5⟩
  have z5 : w4.heap.size ≤ w5.heap.size := hb5.size
  have H5 := Lib.hid (bnext H4.out hb5)
  have Y0 := Lib.hid (Y0.out.later hb5)
  have Y1 := Lib.hid o5
  have YLT1 := Lib.hid o5.2.2.2
  clear hb5
  clear o5
  go_wp2_with fail
  refine (I.out _ _ _ _ _ Y0.out.arg Y1.out.arg).mono ?_
  rintro e w6 ⟨rfl, hb6⟩
  have z6 : w5.heap.size ≤ w6.heap.size := hb6.size
  have H6 := Lib.hid (bnext H5.out hb6)
  have Y0 := Lib.hid (Y0.out.later hb6)
  have Y1 := Lib.hid (Y1.out.later hb6)
  clear hb6
  go_wp2_with fail
  refine (to_moulds L0 a0 cap0 hL0 _ (HA0.out.later H6.out)).mono ?_
  rintro e w7 ⟨gT0, rfl, o7, hb7⟩
  have z7 : w6.heap.size ≤ w7.heap.size := hb7.size
  have H7 := Lib.hid (bnext H6.out hb7)
  have Y0 := Lib.hid (Y0.out.later hb7)
  have Y1 := Lib.hid (Y1.out.later hb7)
  have T0 := Lib.hid o7
  clear hb7
  clear o7
  go_wp2_with fail
  refine (eq_moulds L0 _ _ _ _ (by omega) _ Y0.out.arg T0.out.arg).mono ?_
  rintro e w8 ⟨rfl, hb8⟩
  have z8 : w7.heap.size ≤ w8.heap.size := hb8.size
  have H8 := Lib.hid (bnext H7.out hb8)
  have Y0 := Lib.hid (Y0.out.later hb8)
  have Y1 := Lib.hid (Y1.out.later hb8)
  have T0 := Lib.hid (T0.out.later hb8)
  clear hb8
  go_wp2_with fail
  refine (to_moulds L1 a1 cap1 hL1 _ (HA1.out.later H8.out)).mono ?_
  rintro e w9 ⟨gT1, rfl, o9, hb9⟩
  have z9 : w8.heap.size ≤ w9.heap.size := hb9.size
  have H9 := Lib.hid (bnext H8.out hb9)
  have Y0 := Lib.hid (Y0.out.later hb9)
  have Y1 := Lib.hid (Y1.out.later hb9)
  have T1 := Lib.hid o9
  clear hb9
  clear o9
  go_wp2_with fail
  refine (eq_moulds L1 _ _ _ _ (by omega) _ Y1.out.arg T1.out.arg).mono ?_
  rintro e w10 ⟨rfl, hb10⟩
  have z10 : w9.heap.size ≤ w10.heap.size := hb10.size
  have H10 := Lib.hid (bnext H9.out hb10)
  have Y0 := Lib.hid (Y0.out.later hb10)
  have Y1 := Lib.hid (Y1.out.later hb10)
  have T1 := Lib.hid (T1.out.later hb10)
  clear hb10
  go_wp2
  go_ret
  exact ⟨rfl, B0.out.trans (H10.out.mono B0.out.size)⟩
end Go.Proofs.Ytgffgcobgjngnaa
