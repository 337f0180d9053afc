/-
  The walk of the law on ValidWall.
-/
import Derived.Test.YtbhjdhkabhafmaaDoorWaV
import Derived.Test.YtbhjdhkabhafmaaDoorOpenS
namespace Go.Proofs.YtbhjdhkabhafmaaDoor
open Go.ChangeShapes Go.WideShapes Go.ChangeAt Go.RowKit Go.Joins

set_option maxRecDepth 100000 in
set_option maxHeartbeats 3200000 in
theorem walk_FnExactValidWall (L : List ByteArray) (a : Option Addr) (cap : Nat) (hl : L.length ≤ maxLen) (hs : StrLe maxLen L) (w : World) (ha : StrArg w a L) :
    Calls Tryd.prog 10 #[.slice a L.length cap] w fun e w' => e = .returned (.bool true) ∧ Below w.heap.size w w' := by
  have Z := Lib.hid (sz_strs L a cap 1048576 (by omega) (by omega) hl hs w ha)
  have HA := Lib.hid ha
  clear hs ha hl
  go_enter Tryd.func10, Tryd.ntmps10
  go_wp2_with fail
  refine Z.out.mono ?_
  rintro e w1 ⟨r, rfl, r0, r1, r2, hb1⟩
  have B1 := Lib.hid hb1
  have R2 := Lib.hid r2
  clear hb1 r2
  by_cases hr : r < 0
  · go_wp2
    go_ret
    exact ⟨rfl, B1.out⟩
  obtain ⟨hL, hS⟩ := R2.out (by omega)
  have S := Lib.hid (fun g cp wx (h : StrArg wx g L) => validWall_spec L g cp hL hS wx h)
  have I := Lib.hid (fun g cp wx (h : StrArg wx g L) => validWall_impl L g cp hL hS wx h)
  obtain ⟨x0, hx0⟩ : ∃ x, okW L = x := ⟨_, rfl⟩
  rw [hx0] at S I
  clear hx0
  clear hS
  go_wp2_with fail
  refine (to_strs L a cap hL _ (HA.out.later B1.out)).mono ?_
  rintro e w2 ⟨g2, rfl, o2, hb2⟩
  have B2 := Lib.hid (bnext B1.out hb2)
  have O2 := Lib.hid o2.arg
  clear hb2 o2
  go_wp2_with fail
  refine (S.out _ _ _ O2.out).mono ?_
  rintro e w3 ⟨rfl, hb3⟩
  have B3 := Lib.hid (bnext B2.out hb3)
  clear hb3
  go_wp2_with fail
  refine (to_strs L a cap hL _ (HA.out.later B3.out)).mono ?_
  rintro e w4 ⟨g4, rfl, o4, hb4⟩
  have B4 := Lib.hid (bnext B3.out hb4)
  have O4 := Lib.hid o4.arg
  clear hb4 o4
  go_wp2_with fail
  refine (I.out _ _ _ O4.out).mono ?_
  rintro e w5 ⟨rfl, hb5⟩
  have B5 := Lib.hid (bnext B4.out hb5)
  have O5 := Lib.hid (O4.out.later hb5)
  clear hb5
  go_wp2_with fail
  refine (to_strs L a cap hL _ (HA.out.later B5.out)).mono ?_
  rintro e w6 ⟨g6, rfl, o6, hb6⟩
  have B6 := Lib.hid (bnext B5.out hb6)
  have O6 := Lib.hid (O5.out.later hb6)
  have P6 := Lib.hid o6.arg
  clear hb6 o6
  go_wp2_with fail
  refine (eq_strs L _ _ _ _ (by omega) _ O6.out P6.out).mono ?_
  rintro e w7 ⟨rfl, hb7⟩
  have B7 := Lib.hid (bnext B6.out hb7)
  clear hb7
  go_wp2
  go_ret
  exact ⟨rfl, B7.out⟩
end Go.Proofs.YtbhjdhkabhafmaaDoor
