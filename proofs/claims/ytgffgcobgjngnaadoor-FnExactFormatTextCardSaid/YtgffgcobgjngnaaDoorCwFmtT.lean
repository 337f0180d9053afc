/-
  The walk of the law on FormatText.
-/
import Derived.Test.YtgffgcobgjngnaaDoorFmtI
namespace Go.Proofs.YtgffgcobgjngnaaDoor
open Go.ChangeShapes Go.WideShapes Go.ChangeAt Go.RowKit Go.Joins

set_option maxRecDepth 100000 in
set_option maxHeartbeats 800000 in
theorem walk_FnExactFormatText (l wd ht j : Int) (w : World) (hp : Pow10 w) :
    Calls Tryd.prog 8 #[.agg #[.int .i64 l, .int .i64 wd, .int .i64 ht, .int .i64 j]] w fun e w' => e = .returned (.bool true) ∧ Below w.heap.size w w' := by
  have R := range_new4 w l wd ht j (t := 45)
  have HB1 : Hid (Below w.heap.size w (w.alloc (.cells #[.int .i64 l, .int .i64 wd, .int .i64 ht, .int .i64 j] 45))) := balloc0 _ _
  obtain ⟨W1, hW⟩ : ∃ W1, w.alloc (.cells #[.int .i64 l, .int .i64 wd, .int .i64 ht, .int .i64 j] 45) = W1 := ⟨_, rfl⟩
  rw [hW] at R HB1
  obtain ⟨g0, g1, g2, g3⟩ := R
  have hlt : w.heap.size < W1.heap.size := World.block_lt_of_cell? W1 _ g0
  have HG : Hid (∀ wx, Below W1.heap.size W1 wx → wx.cell? ⟨w.heap.size, 0, none⟩ = some (.int .i64 l) ∧ wx.cell? ⟨w.heap.size, 1, none⟩ = some (.int .i64 wd) ∧ wx.cell? ⟨w.heap.size, 2, none⟩ = some (.int .i64 ht) ∧ wx.cell? ⟨w.heap.size, 3, none⟩ = some (.int .i64 j)) := fun wx h =>
    ⟨(h.cell (p := ⟨w.heap.size, 0, none⟩) hlt).trans g0, (h.cell (p := ⟨w.heap.size, 1, none⟩) hlt).trans g1, (h.cell (p := ⟨w.heap.size, 2, none⟩) hlt).trans g2, (h.cell (p := ⟨w.heap.size, 3, none⟩) hlt).trans g3⟩
  have HW := Lib.hid hW
  have S := Lib.hid (formatText_spec l wd ht j)
  have I := Lib.hid (fun wx (h : Below w.heap.size w wx) => formatText_impl l wd ht j wx (hp.later h))
  have C := Lib.hid (to_format l wd ht j)
  obtain ⟨T, hT⟩ : ∃ T, fmtS l wd ht j = T := ⟨_, rfl⟩
  rw [hT] at S I
  clear hW hp hT hlt
  go_enter Tryd.func8, Tryd.ntmps8
  go_wp2_with fail
  rw [HW.out]
  go_wp2_with fail
  refine (C.out _).mono ?_
  rintro e w1 ⟨rfl, hb1⟩
  have H1 := Lib.hid hb1
  clear hb1 g0 g1 g2 g3
  go_wp2_with fail
  refine (S.out _).mono ?_
  rintro e w2 ⟨rfl, hb2⟩
  have H2 := Lib.hid (bnext H1.out hb2)
  obtain ⟨g0, g1, g2, g3⟩ := HG.out _ H2.out
  clear hb2
  go_wp2_with fail
  refine (C.out _).mono ?_
  rintro e w3 ⟨rfl, hb3⟩
  have H3 := Lib.hid (bnext H2.out hb3)
  have B3 := Lib.hid (bnext HB1.out H3.out)
  clear hb3 g0 g1 g2 g3
  go_wp2_with fail
  refine (I.out _ B3.out).mono ?_
  rintro e w4 ⟨rfl, hb4⟩
  have B4 := Lib.hid (bnext B3.out hb4)
  clear hb4
  go_wp2
  go_ret
  exact ⟨rfl, B4.out⟩
end Go.Proofs.YtgffgcobgjngnaaDoor
