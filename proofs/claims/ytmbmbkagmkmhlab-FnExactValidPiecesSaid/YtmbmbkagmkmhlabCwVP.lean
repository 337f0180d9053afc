/-
  The walk of the law on ValidPieces.
-/
import Derived.Test.YtmbmbkagmkmhlabQp
import Derived.Test.YtmbmbkagmkmhlabPcL
import Derived.Test.YtmbmbkagmkmhlabIntX
import Derived.Deep.RegionWith
namespace Go.Proofs.Ytmbmbkagmkmhlab
open Go.ChangeShapes Go.WideShapes Go.ChangeAt Go.RowKit Go.Joins

set_option maxRecDepth 100000 in
set_option maxHeartbeats 12800000 in
theorem walk_FnExactValidPieces (L0 : List Pc) (s0 : Option Addr) (t0 : Nat) (hl0 : L0.length ≤ maxLen) (w : World) (ha0 : PcArg w s0 L0) :
    Calls Try.prog 3 #[.slice s0 L0.length t0] w fun e w' => e = .returned (.bool true) ∧ Below w.heap.size w w' := by
  have Z := Lib.hid (sz_pcs L0.length s0 t0 1048576 (by omega) (by omega) (by unfold maxLen at hl0; omega) w)
  have HA0 := Lib.hid ha0
  clear ha0
  go_enter Try.func3, Try.ntmps3
  go_wp2_with fail
  refine Z.out.mono ?_
  rintro e w1 ⟨r, rfl, r0, r1, r2, hw1⟩
  have hb1 : Below w.heap.size w w1 := by rw [← hw1]; exact Below.refl _ _
  have B1 := Lib.hid hb1
  have R2 := Lib.hid r2
  have z1 : w.heap.size ≤ w1.heap.size := hb1.size
  clear hb1 r2 hw1
  by_cases hr : r < 0
  · go_wp2
    go_ret
    exact ⟨rfl, B1.out⟩
  have hl0 := R2.out (by omega)
  have S := Lib.hid (fun (g0 : Option Addr) (q0 : Nat) (wx : World) (h0 : PcArg wx g0 L0) => validPcs_spec L0 g0 q0 hl0 wx h0)
  have I := Lib.hid (fun (g0 : Option Addr) (q0 : Nat) (wx : World) (h0 : PcArg wx g0 L0) => validPcs_impl L0 g0 q0 hl0 wx h0)
  obtain ⟨v0, hv⟩ : ∃ v : Bool, pcsB L0 = v := ⟨_, rfl⟩
  rw [hv] at S I
  clear hv
  go_wp2_with fail
  refine (to_pcs L0 s0 t0 hl0 _ (HA0.out.later B1.out)).mono ?_
  rintro e w2 ⟨g2, rfl, o2, hb2⟩
  have B2 := Lib.hid (bnext B1.out hb2)
  have z2 : w1.heap.size ≤ w2.heap.size := hb2.size
  clear hb2
  have X0 := Lib.hid o2
  clear o2
  go_wp2_with fail
  refine (S.out _ _ _ X0.out.arg).mono ?_
  rintro e w3 ⟨rfl, hb3⟩
  have B3 := Lib.hid (bnext B2.out hb3)
  have z3 : w2.heap.size ≤ w3.heap.size := hb3.size
  have X0 := Lib.hid (X0.out.later hb3)
  clear hb3
  go_wp2_with fail
  refine (to_pcs L0 s0 t0 hl0 _ (HA0.out.later B3.out)).mono ?_
  rintro e w4 ⟨g4, rfl, o4, hb4⟩
  have B4 := Lib.hid (bnext B3.out hb4)
  have z4 : w3.heap.size ≤ w4.heap.size := hb4.size
  clear hb4
  have Y0 := Lib.hid o4
  clear o4
  have y0lt : g4 < w4.heap.size := Y0.out.2.2.2
  have y0ge : w3.heap.size ≤ g4 := Y0.out.1
  go_wp2_with fail
  refine (I.out _ _ _ Y0.out.arg).mono ?_
  rintro e w5 ⟨rfl, hb5⟩
  have B5 := Lib.hid (bnext B4.out hb5)
  have z5 : w4.heap.size ≤ w5.heap.size := hb5.size
  have Y0 := Lib.hid (Y0.out.later hb5)
  clear hb5
  go_wp2_with fail
  refine (to_pcs L0 s0 t0 hl0 _ (HA0.out.later B5.out)).mono ?_
  rintro e w6 ⟨g6, rfl, o6, hb6⟩
  have B6 := Lib.hid (bnext B5.out hb6)
  have z6 : w5.heap.size ≤ w6.heap.size := hb6.size
  have Y0 := Lib.hid (Y0.out.later hb6)
  clear hb6
  have T0 := Lib.hid o6
  clear o6
  go_wp2_with fail
  refine (eq_pcs L0 _ _ _ _ (by omega) _ Y0.out.arg T0.out.arg).mono ?_
  rintro e w7 ⟨rfl, hb7⟩
  have B7 := Lib.hid (bnext B6.out hb7)
  have z7 : w6.heap.size ≤ w7.heap.size := hb7.size
  have Y0 := Lib.hid (Y0.out.later hb7)
  have T0 := Lib.hid (T0.out.later hb7)
  clear hb7
  go_wp2
  go_ret
  exact ⟨rfl, B7.out⟩
end Go.Proofs.Ytmbmbkagmkmhlab
