/-
  The walk of the law on SizeFault.
-/
import Derived.Test.YtgffgcobgjngnaaDoorSfI
import Derived.Test.YtgffgcobgjngnaaDoorMoL
namespace Go.Proofs.YtgffgcobgjngnaaDoor
open Go.ChangeShapes Go.WideShapes Go.ChangeAt Go.RowKit Go.Joins

theorem box_lf (w : World) (c : Mo) (l wd ht j : Int) (t1 t2 : TypeId) : ∀ wx, Below ((w.alloc (.cells #[.int .i64 c.le, .int .i64 c.wi, .int .i64 c.he, .int .i64 c.us] t1)).alloc (.cells #[.int .i64 l, .int .i64 wd, .int .i64 ht, .int .i64 j] t2)).heap.size ((w.alloc (.cells #[.int .i64 c.le, .int .i64 c.wi, .int .i64 c.he, .int .i64 c.us] t1)).alloc (.cells #[.int .i64 l, .int .i64 wd, .int .i64 ht, .int .i64 j] t2)) wx → (wx.cell? ⟨w.heap.size, 0, none⟩ = some (.int .i64 c.le) ∧ wx.cell? ⟨w.heap.size, 1, none⟩ = some (.int .i64 c.wi) ∧ wx.cell? ⟨w.heap.size, 2, none⟩ = some (.int .i64 c.he) ∧ wx.cell? ⟨w.heap.size, 3, none⟩ = some (.int .i64 c.us)) ∧ wx.cell? ⟨w.heap.size + 1, 0, none⟩ = some (.int .i64 l) ∧ wx.cell? ⟨w.heap.size + 1, 1, none⟩ = some (.int .i64 wd) ∧ wx.cell? ⟨w.heap.size + 1, 2, none⟩ = some (.int .i64 ht) ∧ wx.cell? ⟨w.heap.size + 1, 3, none⟩ = some (.int .i64 j) := by
  intro wx h
  have hr1 : ((w.alloc (.cells #[.int .i64 c.le, .int .i64 c.wi, .int .i64 c.he, .int .i64 c.us] t1)).alloc (.cells #[.int .i64 l, .int .i64 wd, .int .i64 ht, .int .i64 j] t2)).rangeAt w.heap.size 0 c.vals := range_old w _ #[.int .i64 c.le, .int .i64 c.wi, .int .i64 c.he, .int .i64 c.us] t1
  have hr2 : ((w.alloc (.cells #[.int .i64 c.le, .int .i64 c.wi, .int .i64 c.he, .int .i64 c.us] t1)).alloc (.cells #[.int .i64 l, .int .i64 wd, .int .i64 ht, .int .i64 j] t2)).rangeAt (w.heap.size + 1) 0 (⟨l, wd, ht, j⟩ : Mo).vals := range_new2 w _ #[.int .i64 l, .int .i64 wd, .int .i64 ht, .int .i64 j] t2
  have h1 := boxedMo (range_below hr1 h)
  have h2 := boxedMo (range_below hr2 h)
  simp only [Nat.zero_add] at h1 h2
  exact ⟨h1, h2⟩

set_option maxRecDepth 100000 in
set_option maxHeartbeats 3200000 in
theorem walk_FnExactSizeFault (c0 c1 c2 c3 : Int) (l wd ht j : Int) (s : Int) (_ws : (Lit.int .i64 s).wf = true) (off : Int) (_wo : (Lit.int .i64 off).wf = true) (w : World) (hn : SzAt w) :
    Calls Tryd.prog 7 #[.agg #[.int .i64 c0, .int .i64 c1, .int .i64 c2, .int .i64 c3], .agg #[.int .i64 l, .int .i64 wd, .int .i64 ht, .int .i64 j], .int .i64 s, .int .i64 off] w fun e w' => e = .returned (.bool true) ∧ Below w.heap.size w w' := by
  obtain ⟨c, rfl, rfl, rfl, rfl⟩ : ∃ c : Mo, c.le = c0 ∧ c.wi = c1 ∧ c.he = c2 ∧ c.us = c3 := ⟨⟨c0, c1, c2, c3⟩, rfl, rfl, rfl, rfl⟩
  have X := Lib.hid (box_lf w c l wd ht j 36 45)
  have HB0 := Lib.hid (balloc (balloc0 w (.cells #[.int .i64 c.le, .int .i64 c.wi, .int .i64 c.he, .int .i64 c.us] 36)) (.cells #[.int .i64 l, .int .i64 wd, .int .i64 ht, .int .i64 j] 45))
  obtain ⟨W0, hW⟩ : ∃ W0, (w.alloc (.cells #[.int .i64 c.le, .int .i64 c.wi, .int .i64 c.he, .int .i64 c.us] 36)).alloc (.cells #[.int .i64 l, .int .i64 wd, .int .i64 ht, .int .i64 j] 45) = W0 := ⟨_, rfl⟩
  rw [hW] at X HB0
  have HW := Lib.hid hW
  have TM := Lib.hid (to_mould c)
  have TF := Lib.hid (to_format l wd ht j)
  have S := Lib.hid (sf_spec c l wd ht j s off)
  have I := Lib.hid (fun wx (h : Below w.heap.size w wx) => sf_impl c l wd ht j s off wx (hn.later h))
  obtain ⟨N, q, hE⟩ : ∃ N q, sfE c l wd ht j s off = .returned (.tuple #[.string N, .int .i64 q]) := ⟨_, _, rfl⟩
  rw [hE] at S I
  clear hW hn hE
  have H0 : Hid (Below W0.heap.size W0 W0) := Below.refl _ _
  go_enter Tryd.func7, Tryd.ntmps7
  go_wp2_with fail
  rw [HW.out]
  obtain ⟨⟨m0, m1, m2, m3⟩, n0, n1, n2, n3⟩ := X.out _ H0.out
  go_region_with (first
    | (go_at_call 20; refine (TM.out _).mono ?_; rintro e w1 ⟨rfl, hb1⟩; have H1 := Lib.hid (bnext H0.out.drew hb1); clear hb1; obtain ⟨⟨p0, p1, p2, p3⟩, q0, q1, q2, q3⟩ := X.out _ H1.out)
    | (go_at_call 26; refine (TF.out _).mono ?_; rintro e w2 ⟨rfl, hb2⟩; have H2 := Lib.hid (bnext H1.out hb2); clear hb2; obtain ⟨⟨r0, r1, r2, r3⟩, t0, t1, t2, t3⟩ := X.out _ H2.out)
    | (go_at_call 25; refine (S.out _).mono ?_; rintro e w3 ⟨rfl, hb3⟩; have H3 := Lib.hid (bnext H2.out hb3); clear hb3))
  all_goals
    obtain ⟨⟨a0, a1, a2, a3⟩, b0, b1, b2, b3⟩ := X.out _ H3.out
    go_wp2
    go_region_with (first
      | (go_at_call 20; refine (TM.out _).mono ?_; rintro e w4 ⟨rfl, hb4⟩; have H4 := Lib.hid (bnext H3.out.drew hb4); clear hb4; obtain ⟨⟨p0, p1, p2, p3⟩, q0, q1, q2, q3⟩ := X.out _ H4.out)
      | (go_at_call 26; refine (TF.out _).mono ?_; rintro e w5 ⟨rfl, hb5⟩; have H5 := Lib.hid (bnext H4.out hb5); clear hb5; obtain ⟨⟨r0, r1, r2, r3⟩, t0, t1, t2, t3⟩ := X.out _ H5.out)
      | (go_at_call 27; refine (I.out _ (HB0.out.trans (H5.out.mono HB0.out.size))).mono ?_; rintro e w6 ⟨rfl, hb6⟩; have H6 := Lib.hid (bnext H5.out hb6); clear hb6))
    all_goals
      go_wp2
      go_ret
      exact ⟨rfl, HB0.out.trans (H6.out.mono HB0.out.size)⟩
end Go.Proofs.YtgffgcobgjngnaaDoor
