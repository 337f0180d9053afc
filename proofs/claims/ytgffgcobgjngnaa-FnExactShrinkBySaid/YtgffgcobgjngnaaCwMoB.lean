/-
  The walk of the law on ShrinkBy.
-/
import Derived.Test.YtgffgcobgjngnaaMoB
namespace Go.Proofs.Ytgffgcobgjngnaa
open Go.ChangeShapes Go.WideShapes Go.ChangeAt Go.RowKit Go.Joins

set_option maxRecDepth 100000 in
set_option maxHeartbeats 12800000 in
theorem walk_FnExactShrinkBy (x0 : Int) (_wf0 : (Lit.int .i64 x0).wf = true) (x1 : Int) (_wf1 : (Lit.int .i64 x1).wf = true) (w : World)  :
    Calls Try.prog 8 #[.int .i64 x0, .int .i64 x1] w fun e w' => e = .returned (.bool true) ∧ Below w.heap.size w w' := by
  have B0 : Hid (Below w.heap.size w w) := Below.refl _ _
  skip
  have H0 : Hid (Below w.heap.size w w) := Below.refl _ _
  have hb0sz : w.heap.size ≤ w.heap.size := B0.out.size
  go_enter Try.func8, Try.ntmps8
  have S := Lib.hid (fun  wx  => sb_spec x0 x1 wx )
  have I := Lib.hid (fun  wx  => sb_impl x0 x1 wx )
  obtain ⟨y0, hv0⟩ : ∃ y0, (sbR x0 x1).1 = y0 := ⟨_, rfl⟩
  rw [hv0] at S I
  obtain ⟨y1, hv1⟩ : ∃ y1, (sbR x0 x1).2 = y1 := ⟨_, rfl⟩
  rw [hv1] at S I
  clear hv0 hv1
  go_wp2_with fail
  refine (S.out  _ ).mono ?_
  rintro e w1 ⟨rfl, hb1⟩
  have z1 : w.heap.size ≤ w1.heap.size := hb1.size
  have H1 := Lib.hid (bnext H0.out hb1)
  clear hb1
  go_wp2_with fail
  refine (I.out  _ ).mono ?_
  rintro e w2 ⟨rfl, hb2⟩
  have z2 : w1.heap.size ≤ w2.heap.size := hb2.size
  have H2 := Lib.hid (bnext H1.out hb2)
  clear hb2
  go_wp2
  go_ret
  exact ⟨rfl, B0.out.trans (H2.out.mono B0.out.size)⟩
end Go.Proofs.Ytgffgcobgjngnaa
