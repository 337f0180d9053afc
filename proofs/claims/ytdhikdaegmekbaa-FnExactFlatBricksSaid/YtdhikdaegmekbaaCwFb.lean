/-
  The walk of the law on FlatBricks.
-/
import Derived.Test.YtdhikdaegmekbaaArG
import Derived.Deep.RegionWith
namespace Go.Proofs.Ytdhikdaegmekbaa
open Go.ChangeShapes Go.WideShapes Go.ChangeAt Go.RowKit Go.Joins

set_option maxRecDepth 100000 in
set_option maxHeartbeats 12800000 in
theorem walk_FnExactFlatBricks (x0 : Int) (_wx0 : (Lit.int .i64 x0).wf = true) (x1 : Int) (_wx1 : (Lit.int .i64 x1).wf = true) (x2 : Int) (_wx2 : (Lit.int .i64 x2).wf = true) (x3 : Int) (_wx3 : (Lit.int .i64 x3).wf = true) (w : World) :
    Calls Try.prog 12 #[.int .i64 x0, .int .i64 x1, .int .i64 x2, .int .i64 x3] w fun e w' => e = .returned (.bool true) ∧ Below w.heap.size w w' := by
  have S := Lib.hid (fun (wx : World) => fbricks_spec x0 x1 x2 x3 wx)
  have I := Lib.hid (fun (wx : World) => fbricks_impl x0 x1 x2 x3 wx)
  obtain ⟨v0, hv⟩ : ∃ v : Int, fbN x0 x1 x2 x3 = v := ⟨_, rfl⟩
  rw [hv] at S I
  clear hv
  obtain ⟨v1, hv⟩ : ∃ v : Int, fbC x0 x1 x2 x3 = v := ⟨_, rfl⟩
  rw [hv] at S I
  clear hv
  go_enter Try.func12, Try.ntmps12
  go_wp2_with fail
  refine (S.out _).mono ?_
  rintro e w1 ⟨rfl, hb1⟩
  have B1 := Lib.hid (bnext (Below.refl w.heap.size w) hb1)
  clear hb1
  go_wp2_with fail
  refine (I.out _).mono ?_
  rintro e w2 ⟨rfl, hb2⟩
  have B2 := Lib.hid (bnext B1.out hb2)
  clear hb2
  go_wp2
  go_ret
  exact ⟨rfl, B2.out⟩
end Go.Proofs.Ytdhikdaegmekbaa
