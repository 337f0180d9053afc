/-
  The walk of the law on CutsIn.
-/
import Derived.Test.YtbhjdhkabhafmaaDoorWaK
namespace Go.Proofs.YtbhjdhkabhafmaaDoor
open Go.ChangeShapes Go.WideShapes Go.ChangeAt Go.RowKit Go.Joins

set_option maxRecDepth 100000 in
theorem walk_FnExactCutsIn (s : ByteArray) (_ws : s.size ≤ maxLen) (w : World) : Calls Tryd.prog 6 #[.string s] w fun e w' => e = .returned (.bool true) ∧ Below w.heap.size w w' := by
  by_cases hl : (1048576 : Int) < (s.size : Int)
  · go_enter Tryd.func6, Tryd.ntmps6
    go_wp2_with fail
    go_ret
    exact ⟨rfl, Below.refl _ _⟩
  · have HS := Lib.hid (cutsIn_spec s (by omega))
    have HI := Lib.hid (cutsIn_impl s (by omega))
    obtain ⟨x0, hx0⟩ : ∃ x, uN s = x := ⟨_, rfl⟩
    rw [hx0] at HS HI
    clear hx0
    obtain ⟨x1, hx1⟩ : ∃ x, cC s = x := ⟨_, rfl⟩
    rw [hx1] at HS HI
    clear hx1
    go_enter Tryd.func6, Tryd.ntmps6
    go_wp2_with fail
    refine (HS.out _).mono ?_
    rintro e w1 ⟨rfl, rfl⟩
    have B1 : Hid (Below w.heap.size w w) := Below.refl _ _
    go_wp2_with fail
    refine (HI.out _).mono ?_
    rintro e w2 ⟨rfl, hb⟩
    have B2 := Lib.hid (bnext B1.out hb)
    clear hb
    go_wp2
    go_ret
    exact ⟨rfl, B2.out⟩
end Go.Proofs.YtbhjdhkabhafmaaDoor
