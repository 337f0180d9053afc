/-
  SizeFault: the model's answer.
-/
import Derived.Test.YtgffgcobgjngnaaDoorSf
namespace Go.Proofs.YtgffgcobgjngnaaDoor
open Go.ChangeShapes Go.WideShapes Go.ChangeAt Go.RowKit Go.Joins

theorem box_mf (w : World) (c : Mo) (l wd ht j : Int) : ∀ wx, Below ((w.alloc (.cells #[.int .i64 c.le, .int .i64 c.wi, .int .i64 c.he, .int .i64 c.us] 38)).alloc (.cells #[.int .i64 l, .int .i64 wd, .int .i64 ht, .int .i64 j] 48)).heap.size ((w.alloc (.cells #[.int .i64 c.le, .int .i64 c.wi, .int .i64 c.he, .int .i64 c.us] 38)).alloc (.cells #[.int .i64 l, .int .i64 wd, .int .i64 ht, .int .i64 j] 48)) wx → (wx.cell? ⟨w.heap.size, 0, none⟩ = some (.int .i64 c.le) ∧ wx.cell? ⟨w.heap.size, 1, none⟩ = some (.int .i64 c.wi) ∧ wx.cell? ⟨w.heap.size, 2, none⟩ = some (.int .i64 c.he) ∧ wx.cell? ⟨w.heap.size, 3, none⟩ = some (.int .i64 c.us)) ∧ wx.cell? ⟨w.heap.size + 1, 0, none⟩ = some (.int .i64 l) ∧ wx.cell? ⟨w.heap.size + 1, 1, none⟩ = some (.int .i64 wd) ∧ wx.cell? ⟨w.heap.size + 1, 2, none⟩ = some (.int .i64 ht) ∧ wx.cell? ⟨w.heap.size + 1, 3, none⟩ = some (.int .i64 j) := by
  intro wx h
  have h1 := box_mo w c wx ((balloc0 _ _).trans (h.mono (by simp)))
  have hr : ((w.alloc (.cells #[.int .i64 c.le, .int .i64 c.wi, .int .i64 c.he, .int .i64 c.us] 38)).alloc (.cells #[.int .i64 l, .int .i64 wd, .int .i64 ht, .int .i64 j] 48)).rangeAt (w.heap.size + 1) 0 (⟨l, wd, ht, j⟩ : Mo).vals := range_new2 w _ #[.int .i64 l, .int .i64 wd, .int .i64 ht, .int .i64 j] 48
  have h2 := boxedMo (range_below hr h)
  refine ⟨h1, ?_⟩
  simpa using h2
set_option maxRecDepth 100000 in
set_option maxHeartbeats 3200000 in
theorem sf_spec (c : Mo) (l wd ht j s off : Int) (w : World) : Calls Tryd.prog 25 #[.agg #[.int .i64 c.le, .int .i64 c.wi, .int .i64 c.he, .int .i64 c.us], .agg #[.int .i64 l, .int .i64 wd, .int .i64 ht, .int .i64 j], .int .i64 s, .int .i64 off] w fun e w' => e = sfE c l wd ht j s off ∧ Below w.heap.size w w' := by
  have X := Lib.hid (box_mf w c l wd ht j)
  have HB0 := Lib.hid (balloc (balloc0 w (.cells #[.int .i64 c.le, .int .i64 c.wi, .int .i64 c.he, .int .i64 c.us] 38)) (.cells #[.int .i64 l, .int .i64 wd, .int .i64 ht, .int .i64 j] 48))
  obtain ⟨W0, hW⟩ : ∃ W0, (w.alloc (.cells #[.int .i64 c.le, .int .i64 c.wi, .int .i64 c.he, .int .i64 c.us] 38)).alloc (.cells #[.int .i64 l, .int .i64 wd, .int .i64 ht, .int .i64 j] 48) = W0 := ⟨_, rfl⟩
  rw [hW] at X HB0
  have HW := Lib.hid hW
  clear hW
  cases h1 : c.ok
  · have E : Hid (sfC c l wd ht j s off = 1) := by show sfC c l wd ht j s off = 1; simp [sfC, h1]
    rw [sf_bad E.out (by omega)]
    have C1 := Lib.hid (mo_one_spec c w.heap.size 0 W0 (X.out _ (Below.refl _ _)).1.1 (X.out _ (Below.refl _ _)).1.2.1 (X.out _ (Below.refl _ _)).1.2.2.1 (X.out _ (Below.refl _ _)).1.2.2.2)
    rw [h1] at C1
    clear h1
    go_enter Tryd.func25, Tryd.ntmps25
    go_wp2_with fail
    rw [HW.out]
    refine C1.out.mono ?_
    rintro e w1 ⟨rfl, rfl⟩
    go_wp2
    go_ret2
    exact ⟨rfl, HB0.out⟩
  cases h2 : okB l wd ht j
  · have E : Hid (sfC c l wd ht j s off = 1) := by show sfC c l wd ht j s off = 1; simp [sfC, h2]
    rw [sf_bad E.out (by omega)]
    have C1 := Lib.hid (mo_one_spec c w.heap.size 0 W0 (X.out _ (Below.refl _ _)).1.1 (X.out _ (Below.refl _ _)).1.2.1 (X.out _ (Below.refl _ _)).1.2.2.1 (X.out _ (Below.refl _ _)).1.2.2.2)
    rw [h1] at C1
    have C2 := Lib.hid (l02ok l wd ht j W0)
    rw [h2] at C2
    clear h1 h2
    go_enter Tryd.func25, Tryd.ntmps25
    go_wp2_with fail
    rw [HW.out]
    refine C1.out.mono ?_
    rintro e w1 ⟨rfl, rfl⟩
    obtain ⟨-, f0, f1, f2, f3⟩ := X.out _ (Below.refl _ _)
    go_wp2_with fail
    refine C2.out.mono ?_
    rintro e w2 ⟨rfl, hb2⟩
    have B2 := Lib.hid hb2
    clear hb2 f0 f1 f2 f3
    go_wp2
    go_ret2
    exact ⟨rfl, HB0.out.trans (B2.out.mono HB0.out.size)⟩
  have I1 := Lib.hid (in_any s 0 200)
  have I2 := Lib.hid (in_any off 0 100)
  cases h3 : inB s 0 200
  · have E : Hid (sfC c l wd ht j s off = 2) := by show sfC c l wd ht j s off = 2; simp [sfC, h1, h2, h3]
    rw [sf_bad E.out (by omega)]
    have C1 := Lib.hid (mo_one_spec c w.heap.size 0 W0 (X.out _ (Below.refl _ _)).1.1 (X.out _ (Below.refl _ _)).1.2.1 (X.out _ (Below.refl _ _)).1.2.2.1 (X.out _ (Below.refl _ _)).1.2.2.2)
    rw [h1] at C1
    have C2 := Lib.hid (l02ok l wd ht j W0)
    rw [h2] at C2
    rw [h3] at I1
    clear h1 h2 h3
    go_enter Tryd.func25, Tryd.ntmps25
    go_wp2_with fail
    rw [HW.out]
    refine C1.out.mono ?_
    rintro e w1 ⟨rfl, rfl⟩
    obtain ⟨-, f0, f1, f2, f3⟩ := X.out _ (Below.refl _ _)
    go_wp2_with fail
    refine C2.out.mono ?_
    rintro e w2 ⟨rfl, hb2⟩
    have B2 := Lib.hid hb2
    clear hb2 f0 f1 f2 f3
    go_wp2_with fail
    refine (I1.out _).mono ?_
    rintro e w3 ⟨rfl, rfl⟩
    go_wp2
    go_ret2
    exact ⟨rfl, HB0.out.trans (B2.out.mono HB0.out.size)⟩
  cases h4 : inB off 0 100
  · have E : Hid (sfC c l wd ht j s off = 2) := by show sfC c l wd ht j s off = 2; simp [sfC, h1, h2, h3, h4]
    rw [sf_bad E.out (by omega)]
    have C1 := Lib.hid (mo_one_spec c w.heap.size 0 W0 (X.out _ (Below.refl _ _)).1.1 (X.out _ (Below.refl _ _)).1.2.1 (X.out _ (Below.refl _ _)).1.2.2.1 (X.out _ (Below.refl _ _)).1.2.2.2)
    rw [h1] at C1
    have C2 := Lib.hid (l02ok l wd ht j W0)
    rw [h2] at C2
    rw [h3] at I1
    rw [h4] at I2
    clear h1 h2 h3 h4
    go_enter Tryd.func25, Tryd.ntmps25
    go_wp2_with fail
    rw [HW.out]
    refine C1.out.mono ?_
    rintro e w1 ⟨rfl, rfl⟩
    obtain ⟨-, f0, f1, f2, f3⟩ := X.out _ (Below.refl _ _)
    go_wp2_with fail
    refine C2.out.mono ?_
    rintro e w2 ⟨rfl, hb2⟩
    have B2 := Lib.hid hb2
    clear hb2 f0 f1 f2 f3
    go_wp2_with fail
    refine (I1.out _).mono ?_
    rintro e w3 ⟨rfl, rfl⟩
    go_wp2_with fail
    refine (I2.out _).mono ?_
    rintro e w3 ⟨rfl, rfl⟩
    go_wp2
    go_ret2
    exact ⟨rfl, HB0.out.trans (B2.out.mono HB0.out.size)⟩
  have E : Hid (sfC c l wd ht j s off = 0) := by show sfC c l wd ht j s off = 0; simp [sfC, h1, h2, h3, h4]
  rw [sf_good E.out]
  obtain ⟨s0, s1⟩ := inB_true.1 h3
  have FT := Lib.hid (fun wx (h : Below W0.heap.size W0 wx) => fault_spec c h1 l wd ht j s off h2 s0 s1 w.heap.size wx (X.out wx h).1.1 (X.out wx h).1.2.1 (X.out wx h).1.2.2.1)
  have C1 := Lib.hid (mo_one_spec c w.heap.size 0 W0 (X.out _ (Below.refl _ _)).1.1 (X.out _ (Below.refl _ _)).1.2.1 (X.out _ (Below.refl _ _)).1.2.2.1 (X.out _ (Below.refl _ _)).1.2.2.2)
  rw [h1] at C1
  have C2 := Lib.hid (l02ok l wd ht j W0)
  rw [h2] at C2
  rw [h3] at I1
  rw [h4] at I2
  obtain ⟨N, hN⟩ : ∃ N, faultN c s l wd ht off = N := ⟨_, rfl⟩
  rw [hN] at FT ⊢
  clear h1 h2 h3 h4 s0 s1 hN
  go_enter Tryd.func25, Tryd.ntmps25
  go_wp2_with fail
  rw [HW.out]
  refine C1.out.mono ?_
  rintro e w1 ⟨rfl, rfl⟩
  obtain ⟨-, f0, f1, f2, f3⟩ := X.out _ (Below.refl _ _)
  go_wp2_with fail
  refine C2.out.mono ?_
  rintro e w2 ⟨rfl, hb2⟩
  have B2 := Lib.hid hb2
  clear hb2 f0 f1 f2 f3
  go_wp2_with fail
  refine (I1.out _).mono ?_
  rintro e w3 ⟨rfl, rfl⟩
  go_wp2_with fail
  refine (I2.out _).mono ?_
  rintro e w3 ⟨rfl, rfl⟩
  obtain ⟨-, f0, f1, f2, f3⟩ := X.out _ B2.out
  go_wp2_with fail
  refine (FT.out _ B2.out).mono ?_
  rintro e w4 ⟨rfl, hb4⟩
  have B4 := Lib.hid (bnext B2.out hb4)
  clear hb4 f0 f1 f2 f3
  go_wp2
  go_ret2
  exact ⟨rfl, HB0.out.trans (B4.out.mono HB0.out.size)⟩
end Go.Proofs.YtgffgcobgjngnaaDoor
