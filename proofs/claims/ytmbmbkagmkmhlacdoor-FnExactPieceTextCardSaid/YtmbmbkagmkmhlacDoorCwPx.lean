/-
  The walk of the law on PieceText.
-/
import Derived.Test.YtmbmbkagmkmhlacDoorPx
namespace Go.Proofs.YtmbmbkagmkmhlacDoor
open Go.ChangeShapes Go.WideShapes Go.ChangeAt Go.RowKit Go.Joins

set_option maxRecDepth 100000 in
set_option maxHeartbeats 3200000 in
theorem walk_FnExactPieceText (p : Pc) (w : World) (hp : Pow10 w) :
    Calls Tryd.prog 3 #[.agg #[.int .i64 p.le, .int .i64 p.he, .int .i64 p.ha]] w fun e w' => e = .returned (.bool true) ∧ Below w.heap.size w w' := by
  have S := Lib.hid (fun wx => pxText_spec p wx)
  have I := Lib.hid (fun wx (h : Below w.heap.size w wx) => pxText_impl p wx (hp.later h))
  obtain ⟨T, hT⟩ : ∃ T, pxS p = T := ⟨_, rfl⟩
  rw [hT] at S I
  clear hT hp
  have T0 := TrBox.new w p.le p.he p.ha 23
  have E0 := Lib.hid (balloc0 w (.cells #[.int .i64 p.le, .int .i64 p.he, .int .i64 p.ha] 23))
  obtain ⟨W0, hW⟩ : ∃ W0, w.alloc (.cells #[.int .i64 p.le, .int .i64 p.he, .int .i64 p.ha] 23) = W0 := ⟨_, rfl⟩
  rw [hW] at T0 E0
  have K : Hid (∀ wx, Below W0.heap.size W0 wx → TrBox w.heap.size p.le p.he p.ha wx) := fun wx hx => T0.later hx
  have E0 : Hid (Below w.heap.size w W0) := E0.out
  have HW := Lib.hid hW
  clear hW T0
  obtain ⟨k0, k1, k2⟩ := K.out _ (Below.refl _ _)
  go_enter Tryd.func3, Tryd.ntmps3
  go_wp2_with fail
  try rw [HW.out]
  try go_wp2_with fail
  refine (to_pc p _).mono ?_
  rintro e w1 ⟨rfl, hb1⟩
  have B1 := Lib.hid hb1
  clear hb1 k0 k1 k2
  go_wp2_with fail
  refine (S.out _).mono ?_
  rintro e w2 ⟨rfl, hb2⟩
  have B2 := Lib.hid (bnext B1.out hb2)
  clear hb2
  obtain ⟨k0, k1, k2⟩ := K.out _ B2.out
  go_wp2_with fail
  refine (to_pc p _).mono ?_
  rintro e w3 ⟨rfl, hb3⟩
  have B3 := Lib.hid (bnext E0.out (bnext B2.out hb3))
  clear hb3 k0 k1 k2
  go_wp2_with fail
  refine (I.out _ B3.out).mono ?_
  rintro e w4 ⟨rfl, hb4⟩
  have B4 := Lib.hid (bnext B3.out hb4)
  clear hb4
  go_wp2
  go_ret
  exact ⟨rfl, B4.out⟩
end Go.Proofs.YtmbmbkagmkmhlacDoor
