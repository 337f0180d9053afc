/-
  The walk of the law on MustTaper.
-/
import Derived.Test.YtdhikdaegmekbaaArM
import Derived.Deep.RegionWith
namespace Go.Proofs.Ytdhikdaegmekbaa
open Go.ChangeShapes Go.WideShapes Go.ChangeAt Go.RowKit Go.Joins

set_option maxRecDepth 100000 in
set_option maxHeartbeats 12800000 in
theorem walk_FnExactMustTaper (R D B J : Int) (x1 : Int) (_wx1 : (Lit.int .i64 x1).wf = true) (w : World) :
    Calls Try.prog 8 #[.agg #[.int .i64 R, .int .i64 D, .int .i64 B, .int .i64 J], .int .i64 x1] w fun e w' => e = .returned (.bool true) ∧ Below w.heap.size w w' := by
  have S := Lib.hid (fun (wx : World) => must_spec R D B J x1 wx)
  have I := Lib.hid (fun (wx : World) => must_impl R D B J x1 wx)
  obtain ⟨v0, hv⟩ : ∃ v : Bool, muB R D B J x1 = v := ⟨_, rfl⟩
  rw [hv] at S I
  clear hv
  obtain ⟨v1, hv⟩ : ∃ v : Int, muC R D B J x1 = v := ⟨_, rfl⟩
  rw [hv] at S I
  clear hv
  have G := Lib.hid (range_new w #[.int .i64 R, .int .i64 D, .int .i64 B, .int .i64 J] 23)
  have B0 := Lib.hid (balloc0 w (.cells #[.int .i64 R, .int .i64 D, .int .i64 B, .int .i64 J] 23))
  obtain ⟨U0, hU0⟩ : ∃ U0, World.alloc w (.cells #[.int .i64 R, .int .i64 D, .int .i64 B, .int .i64 J] 23) = U0 := ⟨_, rfl⟩
  rw [hU0] at G B0
  have zz : w.heap.size < U0.heap.size := by rw [← hU0]; simp
  have HU := Lib.hid hU0
  clear hU0
  go_enter Try.func8, Try.ntmps8
  have G0 := G.out 0 _ rfl
  have G1 := G.out 1 _ rfl
  have G2 := G.out 2 _ rfl
  have G3 := G.out 3 _ rfl
  simp only [Nat.zero_add] at G0 G1 G2 G3
  have Gz := World.block_lt_of_cell? _ _ G0
  go_wp2_with fail
  try rw [HU.out]
  try go_wp2_with fail
  refine (to_ring R D B J _).mono ?_
  rintro e w1 ⟨rfl, hb1⟩
  have B1 := Lib.hid (bnext B0.out hb1)
  have G := Lib.hid (range_below G.out hb1)
  clear hb1 G0 G1 G2 G3 Gz
  go_wp2_with fail
  refine (S.out _).mono ?_
  rintro e w2 ⟨rfl, hb2⟩
  have B2 := Lib.hid (bnext B1.out hb2)
  have G := Lib.hid (range_below G.out hb2)
  clear hb2
  have G0 := G.out 0 _ rfl
  have G1 := G.out 1 _ rfl
  have G2 := G.out 2 _ rfl
  have G3 := G.out 3 _ rfl
  simp only [Nat.zero_add] at G0 G1 G2 G3
  have Gz := World.block_lt_of_cell? _ _ G0
  go_wp2_with fail
  refine (to_ring R D B J _).mono ?_
  rintro e w3 ⟨rfl, hb3⟩
  have B3 := Lib.hid (bnext B2.out hb3)
  have G := Lib.hid (range_below G.out hb3)
  clear hb3 G0 G1 G2 G3 Gz
  go_wp2_with fail
  refine (I.out _).mono ?_
  rintro e w4 ⟨rfl, hb4⟩
  have B4 := Lib.hid (bnext B3.out hb4)
  have G := Lib.hid (range_below G.out hb4)
  clear hb4
  go_wp2
  go_ret
  exact ⟨rfl, B4.out⟩
end Go.Proofs.Ytdhikdaegmekbaa
