/-
  The walk of the law on NearestMark.
-/
import Derived.Test.YtmbmbkagmkmhlaaGn
import Derived.Test.YtmbmbkagmkmhlaaIntX
import Derived.Deep.RegionWith
namespace Go.Proofs.Ytmbmbkagmkmhlaa
open Go.ChangeShapes Go.WideShapes Go.ChangeAt Go.RowKit Go.Joins

set_option maxRecDepth 100000 in
set_option maxHeartbeats 12800000 in
theorem walk_FnExactNearestMark (x0 : Int) (_wx0 : (Lit.int .i64 x0).wf = true) (x1 : Int) (_wx1 : (Lit.int .i64 x1).wf = true) (x2 : Int) (_wx2 : (Lit.int .i64 x2).wf = true) (w : World)  :
    Calls Try.prog 9 #[.int .i64 x0, .int .i64 x1, .int .i64 x2] w fun e w' => e = .returned (.bool true) ∧ Below w.heap.size w w' := by
  skip
  go_enter Try.func9, Try.ntmps9
  have S := Lib.hid (fun (wx : World) => near_spec x0 x1 x2  wx )
  have I := Lib.hid (fun (wx : World) => near_impl' x0 x1 x2  wx )
  obtain ⟨v0, hv⟩ : ∃ v : Int, nmV x0 x1 x2 = v := ⟨_, rfl⟩
  rw [hv] at S I
  clear hv
  obtain ⟨v1, hv⟩ : ∃ v : Int, nmC x0 x1 x2 = v := ⟨_, rfl⟩
  rw [hv] at S I
  clear hv
  go_wp2_with fail
  refine (S.out _).mono ?_
  rintro e w1 ⟨rfl, hb1⟩
  have B1 := Lib.hid hb1
  have z1 : w.heap.size ≤ w1.heap.size := hb1.size
  clear hb1
  go_wp2_with fail
  refine (I.out _).mono ?_
  rintro e w2 ⟨rfl, hb2⟩
  have B2 := Lib.hid (bnext B1.out hb2)
  have z2 : w1.heap.size ≤ w2.heap.size := hb2.size
  clear hb2
  go_wp2
  go_ret
  exact ⟨rfl, B2.out⟩
end Go.Proofs.Ytmbmbkagmkmhlaa
