/-
  The walk of the law on RodText.
-/
import Derived.Test.YtmbmbkagmkmhlabDoorRt
namespace Go.Proofs.YtmbmbkagmkmhlabDoor
open Go.ChangeShapes Go.WideShapes Go.ChangeAt Go.RowKit Go.Joins

set_option maxRecDepth 100000 in
set_option maxHeartbeats 3200000 in
theorem walk_FnExactRodText (x0 : Int) (_w0 : (Lit.int .i64 x0).wf = true) (x1 : Int) (_w1 : (Lit.int .i64 x1).wf = true) (w : World) (hp : Pow10 w) :
    Calls Tryd.prog 3 #[.int .i64 x0, .int .i64 x1] w fun e w' => e = .returned (.bool true) ∧ Below w.heap.size w w' := by
  have S := Lib.hid (fun wx => rodText_spec x0 x1 wx)
  have I := Lib.hid (fun wx (h : Below w.heap.size w wx) => rodText_impl x0 x1 wx (hp.later h))
  obtain ⟨T, hT⟩ : ∃ T, rtS x0 x1 = T := ⟨_, rfl⟩
  rw [hT] at S I
  clear hT hp
  go_enter Tryd.func3, Tryd.ntmps3
  go_wp2_with fail
  refine (S.out _).mono ?_
  rintro e w2 ⟨rfl, hb2⟩
  have B2 := Lib.hid hb2
  clear hb2
  go_wp2_with fail
  refine (I.out _ B2.out).mono ?_
  rintro e w4 ⟨rfl, hb4⟩
  have B4 := Lib.hid (bnext B2.out hb4)
  clear hb4
  go_wp2
  go_ret
  exact ⟨rfl, B4.out⟩
end Go.Proofs.YtmbmbkagmkmhlabDoor
