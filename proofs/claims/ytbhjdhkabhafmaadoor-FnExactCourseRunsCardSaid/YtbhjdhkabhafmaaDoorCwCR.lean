/-
  The walk of the law on CourseRuns.
-/
import Derived.Test.YtbhjdhkabhafmaaDoorRnI
namespace Go.Proofs.YtbhjdhkabhafmaaDoor
open Go.ChangeShapes Go.WideShapes Go.ChangeAt Go.RowKit Go.Joins

set_option maxRecDepth 100000 in
theorem walk_FnExactCourseRuns (s : ByteArray) (_ws : s.size ≤ maxLen) (w : World) (hp : Pow10 w) : Calls Tryd.prog 14 #[.string s] w fun e w' => e = .returned (.bool true) ∧ Below w.heap.size w w' := by
  by_cases hl : (1048576 : Int) < (s.size : Int)
  · go_enter Tryd.func14, Tryd.ntmps14
    go_wp2_with fail
    go_ret
    exact ⟨rfl, Below.refl _ _⟩
  · have HS := Lib.hid (courseRuns_spec s (by omega))
    have HI := Lib.hid (courseRuns_impl s (by omega))
    have HP := Lib.hid hp
    obtain ⟨x0, hx0⟩ : ∃ x, shortS s = x := ⟨_, rfl⟩
    rw [hx0] at HS HI
    clear hx0 hp
    go_enter Tryd.func14, Tryd.ntmps14
    go_wp2_with fail
    refine (HS.out _).mono ?_
    rintro e w1 ⟨rfl, hb1⟩
    have B1 := Lib.hid hb1
    clear hb1
    go_wp2_with fail
    refine (HI.out _ (HP.out.later B1.out)).mono ?_
    rintro e w2 ⟨rfl, hb⟩
    have B2 := Lib.hid (bnext B1.out hb)
    clear hb
    go_wp2
    go_ret
    exact ⟨rfl, B2.out⟩
end Go.Proofs.YtbhjdhkabhafmaaDoor
