/-
  The walk of the law on MouldFor.
-/
import Derived.Test.YtgffgcobgjngnaaMoH
import Derived.Test.YtgffgcobgjngnaaMoL
namespace Go.Proofs.Ytgffgcobgjngnaa
open Go.ChangeShapes Go.WideShapes Go.ChangeAt Go.RowKit Go.Joins

/-- A format in a box of its own. -/
theorem box_fo (w : World) (l wd ht j : Int) (t : TypeId) : ∀ wx, Below (w.alloc (.cells #[.int .i64 l, .int .i64 wd, .int .i64 ht, .int .i64 j] t)).heap.size (w.alloc (.cells #[.int .i64 l, .int .i64 wd, .int .i64 ht, .int .i64 j] t)) wx → wx.cell? ⟨w.heap.size, 0, none⟩ = some (.int .i64 l) ∧ wx.cell? ⟨w.heap.size, 1, none⟩ = some (.int .i64 wd) ∧ wx.cell? ⟨w.heap.size, 2, none⟩ = some (.int .i64 ht) ∧ wx.cell? ⟨w.heap.size, 3, none⟩ = some (.int .i64 j) := by
  intro wx h
  have hr : (w.alloc (.cells #[.int .i64 l, .int .i64 wd, .int .i64 ht, .int .i64 j] t)).rangeAt w.heap.size 0 (⟨l, wd, ht, j⟩ : Mo).vals := range_new w #[.int .i64 l, .int .i64 wd, .int .i64 ht, .int .i64 j] t
  have := boxedMo (range_below hr h)
  simpa using this

set_option maxRecDepth 100000 in
set_option maxHeartbeats 6400000 in
theorem walk_FnExactMouldFor (l wd ht j : Int) (s : Int) (_wf : (Lit.int .i64 s).wf = true) (w : World) : Calls Try.prog 5 #[.agg #[.int .i64 l, .int .i64 wd, .int .i64 ht, .int .i64 j], .int .i64 s] w fun e w' => e = .returned (.bool true) ∧ Below w.heap.size w w' := by
  have X := Lib.hid (box_fo w l wd ht j 40)
  have HB0 := Lib.hid (balloc0 w (.cells #[.int .i64 l, .int .i64 wd, .int .i64 ht, .int .i64 j] 40))
  obtain ⟨W0, hW⟩ : ∃ W0, w.alloc (.cells #[.int .i64 l, .int .i64 wd, .int .i64 ht, .int .i64 j] 40) = W0 := ⟨_, rfl⟩
  rw [hW] at X HB0
  have HW := Lib.hid hW
  clear hW
  have T := Lib.hid (to_format l wd ht j)
  have S := Lib.hid (mf_spec l wd ht j s)
  have I := Lib.hid (mf_impl l wd ht j s)
  obtain ⟨a, b, c, q, hE⟩ : ∃ a b c q, mfE l wd ht j s = .returned (.tuple #[.agg #[.int .i64 a, .int .i64 b, .int .i64 c, .int .i64 0], .int .i64 q]) := ⟨_, _, _, _, rfl⟩
  rw [hE] at S I
  clear hE
  have H0 : Hid (Below W0.heap.size W0 W0) := Below.refl _ _
  go_enter Try.func5, Try.ntmps5
  go_wp2_with fail
  rw [HW.out]
  obtain ⟨d0, d1, d2, d3⟩ := X.out _ H0.out
  go_wp2_with fail
  refine (T.out _).mono ?_
  rintro e w1 ⟨rfl, hb1⟩
  have H1 := Lib.hid (bnext H0.out hb1)
  clear hb1 d0 d1 d2 d3
  go_wp2_with fail
  refine (S.out _).mono ?_
  rintro e w2 ⟨rfl, hb2⟩
  have H2 := Lib.hid (bnext H1.out hb2)
  clear hb2
  have A2 := Lib.hid (balloc H2.out (.cells #[.int .i64 a, .int .i64 b, .int .i64 c, .int .i64 0] 34))
  have Y := Lib.hid (box_fo w2 a b c 0 34)
  obtain ⟨d0, d1, d2, d3⟩ := X.out _ A2.out
  go_wp2_with fail
  obtain ⟨W2, hW2⟩ : ∃ W2, w2.alloc (.cells #[.int .i64 a, .int .i64 b, .int .i64 c, .int .i64 0] 34) = W2 := ⟨_, rfl⟩
  rw [hW2] at A2 Y d0 d1 d2 d3 ⊢
  clear hW2
  refine (T.out _).mono ?_
  rintro e w3 ⟨rfl, hb3⟩
  have H3 := Lib.hid (bnext A2.out hb3)
  have K3 := Lib.hid hb3
  clear hb3 d0 d1 d2 d3
  go_wp2_with fail
  refine (I.out _).mono ?_
  rintro e w4 ⟨rfl, hb4⟩
  have H4 := Lib.hid (bnext H3.out hb4)
  have K4 := Lib.hid (bnext K3.out hb4)
  clear hb4
  have H5 := Lib.hid (balloc H4.out (.cells #[.int .i64 a, .int .i64 b, .int .i64 c, .int .i64 0] 34))
  obtain ⟨y0, y1, y2, y3⟩ := Y.out _ (balloc K4.out (.cells #[.int .i64 a, .int .i64 b, .int .i64 c, .int .i64 0] 34))
  go_wp2_with fail
  refine (eq_mould ⟨a, b, c, 0⟩ _).mono ?_
  rintro e w5 ⟨rfl, hb5⟩
  have H6 := Lib.hid (bnext H5.out hb5)
  clear hb5 y0 y1 y2 y3
  go_wp2
  go_ret
  exact ⟨rfl, HB0.out.trans (H6.out.mono HB0.out.size)⟩
end Go.Proofs.Ytgffgcobgjngnaa
