/-
  The walk of the law on SameClays.
-/
import Derived.Test.YtpmklnldgafkjaaSame
import Derived.Test.YtpmklnldgafkjaaCwV
namespace Go.Proofs.Ytpmklnldgafkjaa
open Go.ChangeShapes Go.WideShapes Go.ChangeAt Go.RowKit Go.Joins

set_option maxRecDepth 100000 in
set_option maxHeartbeats 3200000 in
theorem walk_FnExactSameClays (L : List Cl) (a : Option Addr) (cap : Nat) (hl : L.length ≤ maxLen) (hs : NamesLe maxLen L) (M : List Cl) (a' : Option Addr) (cap' : Nat) (hm : M.length ≤ maxLen) (hs' : NamesLe maxLen M) (w : World) (ha : ClArg w a L) (ha' : ClArg w a' M) :
    Calls Try.prog 4 #[.slice a L.length cap, .slice a' M.length cap'] w fun e w' => e = .returned (.bool true) ∧ Below w.heap.size w w' := by
  have Z := Lib.hid (sz_clays L a cap 1048576 (by omega) (by omega) hl hs w ha)
  have Z' := Lib.hid (fun left h0 h1 wx (h : Below w.heap.size w wx) => sz_clays M a' cap' left h0 h1 hm hs' wx (ha'.later h))
  have HA := Lib.hid ha
  have HA' := Lib.hid ha'
  clear hs hs' ha ha' hl hm
  go_enter Try.func4, Try.ntmps4
  go_wp2_with fail
  refine Z.out.mono ?_
  rintro e w1 ⟨r, rfl, r0, r1, r2, hb1⟩
  have B1 := Lib.hid hb1
  have R2 := Lib.hid r2
  clear hb1 r2
  by_cases hr : r < 0
  · go_wp2
    go_ret
    exact ⟨rfl, B1.out⟩
  have hL := (R2.out (by omega)).1
  go_wp2_with fail
  refine (Z'.out r (by omega) (by omega) _ B1.out).mono ?_
  rintro e w2 ⟨q, rfl, q0, q1, q2, hb2⟩
  have B2 := Lib.hid (bnext B1.out hb2)
  have Q2 := Lib.hid q2
  clear hb2 q2
  by_cases hq : q < 0
  · go_wp2
    go_ret
    exact ⟨rfl, B2.out⟩
  have hM := (Q2.out (by omega)).1
  have S := Lib.hid (fun g cp g' cp' wx (h : ClArg wx g L) (h' : ClArg wx g' M) => same_spec L M g g' cp cp' hL hM wx h h')
  have I := Lib.hid (fun g cp g' cp' wx (h : ClArg wx g L) (h' : ClArg wx g' M) => same_impl L M g g' cp cp' hL hM wx h h')
  obtain ⟨b, hb⟩ : ∃ b, sameB L M = b := ⟨_, rfl⟩
  rw [hb] at S I
  clear hb
  go_wp2_with fail
  refine (to_clays L a cap hL _ (HA.out.later B2.out)).mono ?_
  rintro e w3 ⟨g3, rfl, o3, hb3⟩
  have B3 := Lib.hid (bnext B2.out hb3)
  have O3 := Lib.hid o3.arg
  clear hb3 o3
  go_wp2_with fail
  refine (to_clays M a' cap' hM _ (HA'.out.later B3.out)).mono ?_
  rintro e w4 ⟨g4, rfl, o4, hb4⟩
  have B4 := Lib.hid (bnext B3.out hb4)
  have O3 := Lib.hid (O3.out.later hb4)
  have O4 := Lib.hid o4.arg
  clear hb4 o4
  go_wp2_with fail
  refine (S.out _ _ _ _ _ O3.out O4.out).mono ?_
  rintro e w5 ⟨rfl, hb5⟩
  have B5 := Lib.hid (bnext B4.out hb5)
  clear hb5
  go_wp2_with fail
  refine (to_clays L a cap hL _ (HA.out.later B5.out)).mono ?_
  rintro e w6 ⟨g6, rfl, o6, hb6⟩
  have B6 := Lib.hid (bnext B5.out hb6)
  have O6 := Lib.hid o6.arg
  clear hb6 o6
  go_wp2_with fail
  refine (to_clays M a' cap' hM _ (HA'.out.later B6.out)).mono ?_
  rintro e w7 ⟨g7, rfl, o7, hb7⟩
  have B7 := Lib.hid (bnext B6.out hb7)
  have O6 := Lib.hid (O6.out.later hb7)
  have O7 := Lib.hid o7.arg
  clear hb7 o7
  go_wp2_with fail
  refine (I.out _ _ _ _ _ O6.out O7.out).mono ?_
  rintro e w8 ⟨rfl, hb8⟩
  have B8 := Lib.hid (bnext B7.out hb8)
  have O6 := Lib.hid (O6.out.later hb8)
  have O7 := Lib.hid (O7.out.later hb8)
  clear hb8
  go_wp2_with fail
  refine (to_clays L a cap hL _ (HA.out.later B8.out)).mono ?_
  rintro e w9 ⟨g9, rfl, o9, hb9⟩
  have B9 := Lib.hid (bnext B8.out hb9)
  have O6 := Lib.hid (O6.out.later hb9)
  have O7 := Lib.hid (O7.out.later hb9)
  have O9 := Lib.hid o9.arg
  clear hb9 o9
  go_wp2_with fail
  refine (eq_clays L _ _ _ _ (by omega) _ O6.out O9.out).mono ?_
  rintro e w10 ⟨rfl, hb10⟩
  have B10 := Lib.hid (bnext B9.out hb10)
  have O7 := Lib.hid (O7.out.later hb10)
  clear hb10
  go_wp2_with fail
  refine (to_clays M a' cap' hM _ (HA'.out.later B10.out)).mono ?_
  rintro e w11 ⟨g11, rfl, o11, hb11⟩
  have B11 := Lib.hid (bnext B10.out hb11)
  have O7 := Lib.hid (O7.out.later hb11)
  have O11 := Lib.hid o11.arg
  clear hb11 o11
  go_wp2_with fail
  refine (eq_clays M _ _ _ _ (by omega) _ O7.out O11.out).mono ?_
  rintro e w12 ⟨rfl, hb12⟩
  have B12 := Lib.hid (bnext B11.out hb12)
  clear hb12
  go_wp2
  go_ret
  exact ⟨rfl, B12.out⟩
end Go.Proofs.Ytpmklnldgafkjaa
