/-
  The walk of the law on ValidClays.
-/
import Derived.Test.YtpmklnldgafkjaaClayA
import Derived.Test.YtpmklnldgafkjaaClayB
import Derived.Test.YtpmklnldgafkjaaClayC
import Derived.Test.YtpmklnldgafkjaaClayE
import Derived.Test.YtpmklnldgafkjaaClayV
namespace Go.Proofs.Ytpmklnldgafkjaa
open Go.ChangeShapes Go.WideShapes Go.ChangeAt Go.RowKit Go.Joins

theorem ClOwn.arg {B : Nat} {L : List Cl} {g : Nat} {w : World} (h : ClOwn B L g w) : ClArg w (some ⟨g, 0, none⟩) L := .inr ⟨g, 0, rfl, h.2.1⟩
theorem valid_spec (L : List Cl) (a : Option Addr) (cap : Nat) (hl : L.length ≤ 1048576) (w : World) (ha : ClArg w a L) : Calls Try.prog 16 #[.slice a L.length cap] w fun e w' => e = .returned (.bool (okCls L)) ∧ Below w.heap.size w w' := by
  have C := Lib.hid (okC_spec L a cap hl w ha)
  go_enter Try.func16, Try.ntmps16
  go_wp2_with fail
  refine C.out.mono ?_
  rintro e w1 ⟨rfl, hb1⟩
  go_wp2_with fail
  go_ret
  exact ⟨rfl, hb1⟩

set_option maxHeartbeats 1600000 in
theorem walk_FnExactValidClays (L : List Cl) (a : Option Addr) (cap : Nat) (hl : L.length ≤ maxLen) (hs : NamesLe maxLen L) (w : World) (ha : ClArg w a L) :
    Calls Try.prog 3 #[.slice a L.length cap] w fun e w' => e = .returned (.bool true) ∧ Below w.heap.size w w' := by
  have Z := Lib.hid (sz_clays L a cap 1048576 (by omega) (by omega) hl hs w ha)
  have HA := Lib.hid ha
  clear hs ha hl
  go_enter Try.func3, Try.ntmps3
  go_wp2_with fail
  refine Z.out.mono ?_
  rintro e w1 ⟨r, rfl, r0, r1, r2, hb1⟩
  have B1 := Lib.hid hb1
  have R2 := Lib.hid r2
  clear hb1 r2
  by_cases hr : r < 0
  · go_wp2
    go_ret
    exact ⟨rfl, B1.out⟩
  have hL := (R2.out (by omega)).1
  obtain ⟨b, hb⟩ : ∃ b : Bool, okCls L = b := ⟨_, rfl⟩
  have A1 := Lib.hid (HA.out.later B1.out)
  go_wp2_with fail
  refine (to_clays L a cap hL _ A1.out).mono ?_
  rintro e w2 ⟨g2, rfl, o2, hb2⟩
  have B2 := Lib.hid (bnext B1.out hb2)
  have O2 := Lib.hid o2
  clear hb2 o2
  go_wp2_with fail
  refine (valid_spec L _ _ hL _ O2.out.arg).mono ?_
  rintro e w3 ⟨rfl, hb3⟩
  rw [hb]
  have B3 := Lib.hid (bnext B2.out hb3)
  clear hb3
  have A3 := Lib.hid (HA.out.later B3.out)
  go_wp2_with fail
  refine (to_clays L a cap hL _ A3.out).mono ?_
  rintro e w4 ⟨g4, rfl, o4, hb4⟩
  have B4 := Lib.hid (bnext B3.out hb4)
  have O4 := Lib.hid o4
  clear hb4 o4
  go_wp2_with fail
  refine (valid_impl L _ _ hL _ O4.out.arg).mono ?_
  rintro e w5 ⟨rfl, hb5⟩
  rw [hb]
  have B5 := Lib.hid (bnext B4.out hb5)
  have A5 := Lib.hid (O4.out.arg.later hb5)
  clear hb5
  have A5' := Lib.hid (HA.out.later B5.out)
  go_wp2_with fail
  refine (to_clays L a cap hL _ A5'.out).mono ?_
  rintro e w6 ⟨g6, rfl, o6, hb6⟩
  have B6 := Lib.hid (bnext B5.out hb6)
  have A6 := Lib.hid (A5.out.later hb6)
  have O6 := Lib.hid o6
  clear hb6 o6
  go_wp2_with fail
  refine (eq_clays L _ _ _ _ (by omega) _ A6.out O6.out.arg).mono ?_
  rintro e w7 ⟨rfl, hb7⟩
  have B7 := Lib.hid (bnext B6.out hb7)
  clear hb7
  go_wp2
  go_ret
  exact ⟨rfl, B7.out⟩
end Go.Proofs.Ytpmklnldgafkjaa
