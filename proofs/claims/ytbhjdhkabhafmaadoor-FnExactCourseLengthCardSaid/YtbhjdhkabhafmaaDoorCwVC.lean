/-
  The walks of the laws on ValidCourse and CourseLength.
-/
import Derived.Test.YtbhjdhkabhafmaaDoorWaVc
namespace Go.Proofs.YtbhjdhkabhafmaaDoor
open Go.ChangeShapes Go.WideShapes Go.ChangeAt Go.RowKit Go.Joins

set_option maxRecDepth 100000 in
theorem walk_FnExactValidCourse (s : ByteArray) (_ws : s.size ≤ maxLen) (w : World) : Calls Tryd.prog 3 #[.string s] w fun e w' => e = .returned (.bool true) ∧ Below w.heap.size w w' := by
  by_cases hl : (1048576 : Int) < (s.size : Int)
  · go_enter Tryd.func3, Tryd.ntmps3
    go_wp2_with fail
    go_ret
    exact ⟨rfl, Below.refl _ _⟩
  · have HS := Lib.hid (validCourse_spec s (by omega))
    have HI := Lib.hid (validCourse_impl s (by omega))
    obtain ⟨x0, hx0⟩ : ∃ x, okCr s = x := ⟨_, rfl⟩
    rw [hx0] at HS HI
    clear hx0
    go_enter Tryd.func3, Tryd.ntmps3
    go_wp2_with fail
    refine (HS.out _).mono ?_
    rintro e w1 ⟨rfl, rfl⟩
    have B1 : Hid (Below w.heap.size w w) := Below.refl _ _
    go_wp2_with fail
    refine (HI.out _).mono ?_
    rintro e w2 ⟨rfl, hb⟩
    have B2 := Lib.hid (bnext B1.out hb)
    clear hb
    go_wp2
    go_ret
    exact ⟨rfl, B2.out⟩
set_option maxRecDepth 100000 in
theorem walk_FnExactCourseLength (s : ByteArray) (_ws : s.size ≤ maxLen) (w : World) : Calls Tryd.prog 4 #[.string s] w fun e w' => e = .returned (.bool true) ∧ Below w.heap.size w w' := by
  by_cases hl : (1048576 : Int) < (s.size : Int)
  · go_enter Tryd.func4, Tryd.ntmps4
    go_wp2_with fail
    go_ret
    exact ⟨rfl, Below.refl _ _⟩
  · have HS := Lib.hid (courseLength_spec s (by omega))
    have HI := Lib.hid (courseLength_impl s (by omega))
    obtain ⟨x0, hx0⟩ : ∃ x, cN s = x := ⟨_, rfl⟩
    rw [hx0] at HS HI
    clear hx0
    obtain ⟨x1, hx1⟩ : ∃ x, cC s = x := ⟨_, rfl⟩
    rw [hx1] at HS HI
    clear hx1
    go_enter Tryd.func4, Tryd.ntmps4
    go_wp2_with fail
    refine (HS.out _).mono ?_
    rintro e w1 ⟨rfl, rfl⟩
    have B1 : Hid (Below w.heap.size w w) := Below.refl _ _
    go_wp2_with fail
    refine (HI.out _).mono ?_
    rintro e w2 ⟨rfl, hb⟩
    have B2 := Lib.hid (bnext B1.out hb)
    clear hb
    go_wp2
    go_ret
    exact ⟨rfl, B2.out⟩
end Go.Proofs.YtbhjdhkabhafmaaDoor
