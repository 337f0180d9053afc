/-
  The walk of the law on ClayText.
-/
import Derived.Test.YtpmklnldgafkjabDoorClTxtJ
import Derived.Test.YtpmklnldgafkjabDoorClayZ
import Derived.Test.YtpmklnldgafkjabDoorClayT
import Derived.Test.YtpmklnldgafkjabDoorOpenC1
namespace Go.Proofs.YtpmklnldgafkjabDoor
open Go.ChangeShapes Go.WideShapes Go.ChangeAt Go.RowKit Go.Joins

set_option maxRecDepth 100000 in
set_option maxHeartbeats 1600000 in
theorem walk_FnExactClayText (c : Cl) (sc : c.name.size ≤ maxLen) (w : World) (hp : Pow10 w) :
    Calls Tryd.prog 3 #[.agg #[.string c.name, .int .i64 c.sh, .int .i64 c.li, .int .i64 c.sa, .int .i64 c.pr]] w fun e w' => e = .returned (.bool true) ∧ Below w.heap.size w w' := by
  have R := clay_new w c 23
  have HB1 : Hid (Below w.heap.size w (w.alloc (.cells #[.string c.name, .int .i64 c.sh, .int .i64 c.li, .int .i64 c.sa, .int .i64 c.pr] 23))) := balloc0 _ _
  obtain ⟨W1, hW⟩ : ∃ W1, w.alloc (.cells #[.string c.name, .int .i64 c.sh, .int .i64 c.li, .int .i64 c.sa, .int .i64 c.pr] 23) = W1 := ⟨_, rfl⟩
  rw [hW] at R HB1
  obtain ⟨g0, g1, g2, g3, g4⟩ := R
  have hlt : w.heap.size < W1.heap.size := World.block_lt_of_cell? W1 _ g0
  have HG : Hid (∀ wx, Below W1.heap.size W1 wx → wx.cell? ⟨w.heap.size, 0, none⟩ = some (.string c.name) ∧ wx.cell? ⟨w.heap.size, 1, none⟩ = some (.int .i64 c.sh) ∧ wx.cell? ⟨w.heap.size, 2, none⟩ = some (.int .i64 c.li) ∧ wx.cell? ⟨w.heap.size, 3, none⟩ = some (.int .i64 c.sa) ∧ wx.cell? ⟨w.heap.size, 4, none⟩ = some (.int .i64 c.pr)) := fun wx h =>
    ⟨(h.cell (p := ⟨w.heap.size, 0, none⟩) hlt).trans g0, (h.cell (p := ⟨w.heap.size, 1, none⟩) hlt).trans g1, (h.cell (p := ⟨w.heap.size, 2, none⟩) hlt).trans g2, (h.cell (p := ⟨w.heap.size, 3, none⟩) hlt).trans g3, (h.cell (p := ⟨w.heap.size, 4, none⟩) hlt).trans g4⟩
  have HW := Lib.hid hW
  have S := Lib.hid (clayText_spec c)
  have I := Lib.hid (fun wx (h : Below w.heap.size w wx) => clayText_impl c wx (hp.later h))
  have C := Lib.hid (to_clay c)
  have Z := Lib.hid (sz_clay c 1048576 (by omega) (by omega) sc)
  obtain ⟨T, hT⟩ : ∃ T, clS c = T := ⟨_, rfl⟩
  rw [hT] at S I
  clear hW hp hT hlt sc
  go_enter Tryd.func3, Tryd.ntmps3
  go_wp2_with fail
  rw [HW.out]
  go_wp2_with fail
  refine (Z.out _).mono ?_
  rintro e w0 ⟨r, rfl, r0, r1, _, hb0⟩
  have H0 := Lib.hid hb0
  clear hb0 g0 g1 g2 g3 g4
  by_cases hr : r < 0
  · go_wp2
    go_ret
    exact ⟨rfl, bnext HB1.out H0.out⟩
  obtain ⟨g0, g1, g2, g3, g4⟩ := HG.out _ H0.out
  go_wp2_with fail
  refine (C.out _).mono ?_
  rintro e w1 ⟨rfl, hb1⟩
  have H1 := Lib.hid (bnext H0.out hb1)
  clear hb1 g0 g1 g2 g3 g4
  go_wp2_with fail
  refine (S.out _).mono ?_
  rintro e w2 ⟨rfl, hb2⟩
  have H2 := Lib.hid (bnext H1.out hb2)
  obtain ⟨g0, g1, g2, g3, g4⟩ := HG.out _ H2.out
  clear hb2
  go_wp2_with fail
  refine (C.out _).mono ?_
  rintro e w3 ⟨rfl, hb3⟩
  have H3 := Lib.hid (bnext H2.out hb3)
  have B3 := Lib.hid (bnext HB1.out H3.out)
  clear hb3 g0 g1 g2 g3 g4
  go_wp2_with fail
  refine (I.out _ B3.out).mono ?_
  rintro e w4 ⟨rfl, hb4⟩
  have B4 := Lib.hid (bnext B3.out hb4)
  clear hb4
  go_wp2
  go_ret
  exact ⟨rfl, B4.out⟩
end Go.Proofs.YtpmklnldgafkjabDoor
