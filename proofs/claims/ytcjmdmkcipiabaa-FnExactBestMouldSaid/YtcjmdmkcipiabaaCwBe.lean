/-
  The walk of the law on BestMould.
-/
import Derived.Test.YtcjmdmkcipiabaaBeI
import Derived.Test.YtcjmdmkcipiabaaBeU
import Derived.Test.YtcjmdmkcipiabaaMoL
import Derived.Deep.RegionWith
namespace Go.Proofs.Ytcjmdmkcipiabaa
open Go.ChangeShapes Go.WideShapes Go.ChangeAt Go.RowKit Go.Joins

/-- A format in a box of its own. -/
theorem box_fo (w : World) (l wd ht j : Int) (t : TypeId) : ∀ wx, Below (w.alloc (.cells #[.int .i64 l, .int .i64 wd, .int .i64 ht, .int .i64 j] t)).heap.size (w.alloc (.cells #[.int .i64 l, .int .i64 wd, .int .i64 ht, .int .i64 j] t)) wx → wx.cell? ⟨w.heap.size, 0, none⟩ = some (.int .i64 l) ∧ wx.cell? ⟨w.heap.size, 1, none⟩ = some (.int .i64 wd) ∧ wx.cell? ⟨w.heap.size, 2, none⟩ = some (.int .i64 ht) ∧ wx.cell? ⟨w.heap.size, 3, none⟩ = some (.int .i64 j) := by
  intro wx h
  have hr : (w.alloc (.cells #[.int .i64 l, .int .i64 wd, .int .i64 ht, .int .i64 j] t)).rangeAt w.heap.size 0 (⟨l, wd, ht, j⟩ : Mo).vals := range_new w #[.int .i64 l, .int .i64 wd, .int .i64 ht, .int .i64 j] t
  have := boxedMo (range_below hr h)
  simpa using this

set_option maxRecDepth 100000 in
set_option maxHeartbeats 12800000 in
theorem walk_FnExactBestMould (L0 : List Mo) (a0 : Option Addr) (cap0 : Nat) (hl0 : L0.length ≤ maxLen) (l wd ht j s : Int) (_wf : (Lit.int .i64 s).wf = true) (w : World) (ha0 : MoArg w a0 L0) :
    Calls Try.prog 3 #[.slice a0 L0.length cap0, .agg #[.int .i64 l, .int .i64 wd, .int .i64 ht, .int .i64 j], .int .i64 s] w fun e w' => e = .returned (.bool true) ∧ Below w.heap.size w w' := by
  have X := Lib.hid (box_fo w l wd ht j 24)
  have B0 := Lib.hid (balloc0 w (.cells #[.int .i64 l, .int .i64 wd, .int .i64 ht, .int .i64 j] 24))
  have HA0 := Lib.hid (ha0.later B0.out)
  obtain ⟨W0, hW⟩ : ∃ W0, w.alloc (.cells #[.int .i64 l, .int .i64 wd, .int .i64 ht, .int .i64 j] 24) = W0 := ⟨_, rfl⟩
  rw [hW] at X B0 HA0
  have HW := Lib.hid hW
  clear hW ha0
  have T := Lib.hid (to_format l wd ht j)
  have H0 : Hid (Below W0.heap.size W0 W0) := Below.refl _ _
  have hb0sz : w.heap.size ≤ W0.heap.size := B0.out.size
  go_enter Try.func3, Try.ntmps3
  go_wp2_with fail
  rw [HW.out]
  refine (sz_moulds L0.length a0 cap0 1048576 (by omega) (by omega) hl0 W0).mono ?_
  rintro e wz0 ⟨r0, rfl, r00, r01, r02, rfl⟩
  by_cases hr0 : r0 < 0
  · go_wp2
    go_ret
    exact ⟨rfl, B0.out⟩
  have hL0 := r02 (by omega)
  clear r02 hl0
  have S := Lib.hid (fun g0 cp0 wx (h0 : MoArg wx g0 L0) => be_spec L0 g0 cp0 hL0 l wd ht j s wx h0)
  have I := Lib.hid (fun g0 cp0 wx (h0 : MoArg wx g0 L0) => be_impl L0 g0 cp0 hL0 l wd ht j s wx h0)
  obtain ⟨y0, hv0⟩ : ∃ y0, beN L0 l wd ht j s = y0 := ⟨_, rfl⟩
  obtain ⟨y1, hv1⟩ : ∃ y1, beC L0 l wd ht j s = y1 := ⟨_, rfl⟩
  rw [hv0, hv1] at S I
  clear hv0 hv1
  go_wp2_with fail
  obtain ⟨m0, m1, m2, m3⟩ := X.out _ H0.out
  go_region_with (first
    | (go_at_call 7; refine (to_moulds L0 a0 cap0 hL0 _ (HA0.out.later (H0.out.drew))).mono ?_; rintro e w1 ⟨gX0, rfl, o1, hb1⟩; have H1 := Lib.hid (bnext H0.out.drew hb1); have X0 := Lib.hid o1; clear hb1 o1; obtain ⟨d0, d1, d2, d3⟩ := X.out _ H1.out)
    | (go_at_call 8; refine (T.out _).mono ?_; rintro e w2 ⟨rfl, hb2⟩; have H2 := Lib.hid (bnext H1.out hb2); have X1 := Lib.hid (X0.out.later hb2); clear hb2; obtain ⟨f0, f1, f2, f3⟩ := X.out _ H2.out)
    | (go_at_call 6; refine (S.out _ _ _ X1.out.arg).mono ?_; rintro e w3 ⟨rfl, hb3⟩; have H3 := Lib.hid (bnext H2.out hb3); clear hb3))
  all_goals
    go_wp2_with fail
    refine (to_moulds L0 a0 cap0 hL0 _ (HA0.out.later H3.out)).mono ?_
    rintro e w4 ⟨gY0, rfl, o4, hb4⟩
    have z4 : w3.heap.size ≤ w4.heap.size := hb4.size
    have H4 := Lib.hid (bnext H3.out hb4)
    have Y0 := Lib.hid o4
    clear hb4 o4
    obtain ⟨d0, d1, d2, d3⟩ := X.out _ H4.out
    go_wp2_with fail
    refine (T.out _).mono ?_
    rintro e w5 ⟨rfl, hb5⟩
    have H5 := Lib.hid (bnext H4.out hb5)
    have Y1 := Lib.hid (Y0.out.later hb5)
    clear hb5 d0 d1 d2 d3
    go_wp2_with fail
    refine (I.out _ _ _ Y1.out.arg).mono ?_
    rintro e w6 ⟨rfl, hb6⟩
    have H6 := Lib.hid (bnext H5.out hb6)
    have Y2 := Lib.hid (Y1.out.later hb6)
    clear hb6
    go_wp2_with fail
    refine (to_moulds L0 a0 cap0 hL0 _ (HA0.out.later H6.out)).mono ?_
    rintro e w7 ⟨gT0, rfl, o7, hb7⟩
    have H7 := Lib.hid (bnext H6.out hb7)
    have Y3 := Lib.hid (Y2.out.later hb7)
    have T0 := Lib.hid o7
    clear hb7 o7
    go_wp2_with fail
    refine (eq_moulds L0 _ _ _ _ (by omega) _ Y3.out.arg T0.out.arg).mono ?_
    rintro e w8 ⟨rfl, hb8⟩
    have H8 := Lib.hid (bnext H7.out hb8)
    clear hb8
    go_wp2
    go_ret
    exact ⟨rfl, B0.out.trans (H8.out.mono B0.out.size)⟩
end Go.Proofs.Ytcjmdmkcipiabaa
