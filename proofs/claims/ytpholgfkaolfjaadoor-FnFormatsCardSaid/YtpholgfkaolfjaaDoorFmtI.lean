/-
  The text of a format: the program's.
-/
import Derived.Test.YtpholgfkaolfjaaDoorFmtT
import Derived.Deep.RegionWith
namespace Go.Proofs.YtpholgfkaolfjaaDoor
open Go.ChangeShapes Go.WideShapes Go.ChangeAt Go.RowKit Go.Joins

theorem sizes_formatText_impl (l wd ht j : Int) (w : World) : Calls Tryd.prog 17 #[.agg #[.int .i64 l, .int .i64 wd, .int .i64 ht, .int .i64 j]] w fun e w' => ∃ g, e = .returned (.slice (some ⟨g, 0, none⟩) 3 3) ∧ (∀ (k : Nat) (z : Int), [l, wd, ht][k]? = some z → w'.cell? ⟨g, k, none⟩ = some (.int .i64 z)) ∧ Below w.heap.size w w' := by
  have H : ∀ (k : Nat) (z : Int), [l, wd, ht][k]? = some z → ((w.alloc (.cells #[.int .i64 l, .int .i64 wd, .int .i64 ht, .int .i64 j] 25)).alloc (.cells #[.int .i64 l, .int .i64 wd, .int .i64 ht] 2)).cell? ⟨(w.alloc (.cells #[.int .i64 l, .int .i64 wd, .int .i64 ht, .int .i64 j] 25)).heap.size, k, none⟩ = some (.int .i64 z) := by
    intro k z hk
    rw [cell_of_row _ _ _ _ _ (0, 0) (heap_alloc_new _ _)]
    match k, hk with
    | 0, hk => simpa using hk
    | 1, hk => simpa using hk
    | 2, hk => simpa using hk
    | k + 3, hk => simp at hk
  have e : (w.alloc (.cells #[.int .i64 l, .int .i64 wd, .int .i64 ht, .int .i64 j] 25)).heap.size = w.heap.size + 1 := by simp
  rw [e] at H
  go_enter Tryd.func17, Tryd.ntmps17
  go_wp2
  go_ret
  exact ⟨_, rfl, H, balloc (balloc0 _ _) _⟩
set_option maxRecDepth 100000 in
set_option maxHeartbeats 3200000 in
theorem formatText_impl (l wd ht j : Int) (w : World) (hp : Pow10 w) : Calls Tryd.prog 6 #[.agg #[.int .i64 l, .int .i64 wd, .int .i64 ht, .int .i64 j]] w fun e w' => e = .returned (.string (fmtS l wd ht j)) ∧ Below w.heap.size w w' := by
  have R := range_new4 w l wd ht j (t := 25)
  have HB1 : Hid (Below w.heap.size w (w.alloc (.cells #[.int .i64 l, .int .i64 wd, .int .i64 ht, .int .i64 j] 25))) := balloc0 _ _
  obtain ⟨W1, hW⟩ : ∃ W1, w.alloc (.cells #[.int .i64 l, .int .i64 wd, .int .i64 ht, .int .i64 j] 25) = W1 := ⟨_, rfl⟩
  rw [hW] at R HB1
  obtain ⟨g0, g1, g2, g3⟩ := R
  have HW := Lib.hid hW
  have C := Lib.hid (vf_any l wd ht j)
  clear hW
  cases h : okB l wd ht j
  · have HS : Hid (fmtS l wd ht j = ⟨#[]⟩) := by show fmtS l wd ht j = _; simp [fmtS, h]
    rw [h] at C
    clear h hp
    go_enter Tryd.func6, Tryd.ntmps6
    go_wp2_with fail
    rw [HW.out]
    go_wp2_with fail
    refine (C.out _).mono ?_
    rintro e w1 ⟨rfl, hb1⟩
    have B1 := Lib.hid (bnext HB1.out hb1)
    clear hb1 g0 g1 g2 g3
    go_wp2
    go_ret
    exact ⟨ret_str HS.out.symm, B1.out⟩
  · have HS : Hid (fmtS l wd ht j = ⟨(fmtL l wd ht j).toArray⟩) := by show fmtS l wd ht j = _; simp [fmtS, h]
    obtain ⟨⟨l1, l2⟩, ⟨w1', w2'⟩, ⟨t1, t2⟩, ⟨j1, j2⟩, _⟩ := okB_true.1 h
    have hr : ∀ (k : Nat) (z : Int), [l, wd, ht][k]? = some z → InI64 z := by
      intro k z hk
      have := List.mem_of_getElem? hk
      simp at this
      unfold InI64
      omega
    have SZ := Lib.hid (sizes_formatText_impl l wd ht j)
    have J : Hid (∀ (g : Nat) (wy : World), Below w.heap.size w wy → (∀ (k : Nat) (z : Int), [l, wd, ht][k]? = some z → wy.cell? ⟨g, k, none⟩ = some (.int .i64 z)) → Calls Tryd.prog 16 #[.string ⟨#[120]⟩, .slice (some ⟨g, 0, none⟩) 3 3] wy fun e w' => e = .returned (.string ⟨(joinTo [120] [l, wd, ht] 3).toArray⟩) ∧ Below wy.heap.size wy w') := fun g wy hy hc =>
      joinN_impl ⟨#[120]⟩ [l, wd, ht] g 3 (by simp) (by decide) hr wy (hp.later hy) hc
    have D := Lib.hid (fun wx (h : Below w.heap.size w wx) => decimal_impl (j) (by omega) (by omega) wx (hp.later h))
    have HJ := Lib.hid (fmtL_join l wd ht j)
    have n1 := joinTo_length (sep := [120]) hr (by simp) 3
    have n2 := Lib.itoa_length_le (j) (by omega) (by omega)
    obtain ⟨T, hT⟩ : ∃ T, joinTo [120] [l, wd, ht] 3 = T := ⟨_, rfl⟩
    obtain ⟨d, hd⟩ : ∃ d, Lib.itoa (j) = d := ⟨_, rfl⟩
    rw [hT] at J HJ n1
    rw [hd] at D HJ n2
    have k1 : ¬ (9223372036854775807 < T.length + 1) := by omega
    have k2 : ¬ (9223372036854775807 < T.length + 1 + d.length) := by omega
    rw [h] at C
    clear h hT hd n1 n2 hr hp l1 l2 w1' w2' t1 t2 j1 j2
    go_enter Tryd.func6, Tryd.ntmps6
    go_wp2_with fail
    rw [HW.out]
    go_wp2_with fail
    refine (C.out _).mono ?_
    rintro e w1 ⟨rfl, hb1⟩
    have B1 := Lib.hid (bnext HB1.out hb1)
    have hlt : w.heap.size < W1.heap.size := World.block_lt_of_cell? W1 _ g0
    have a0 := (hb1.cell (p := ⟨w.heap.size, 0, none⟩) hlt).trans g0
    have a1 := (hb1.cell (p := ⟨w.heap.size, 1, none⟩) hlt).trans g1
    have a2 := (hb1.cell (p := ⟨w.heap.size, 2, none⟩) hlt).trans g2
    have a3 := (hb1.cell (p := ⟨w.heap.size, 3, none⟩) hlt).trans g3
    have hz1 : w.heap.size < w1.heap.size := World.block_lt_of_cell? w1 _ a0
    clear hb1 g0 g1 g2 g3 hlt
    go_wp2_with fail
    go_region_with (first
      | (go_at_call 17; refine (SZ.out _).mono ?_; rintro e w2 ⟨g, rfl, o2, hb2⟩; have B2 := Lib.hid (bnext B1.out.drew hb2); have R2 := Lib.hid o2; have b3 := (hb2.cell (p := ⟨w.heap.size, 3, none⟩) hz1).trans a3; have hz2 : w.heap.size < w2.heap.size := World.block_lt_of_cell? w2 _ b3; clear hb2 o2)
      | (go_at_call 16; refine (J.out _ _ B2.out R2.out).mono ?_; rintro e w3 ⟨rfl, hb3⟩; have B3 := Lib.hid (bnext B2.out hb3); have e3 := (hb3.cell (p := ⟨w.heap.size, 3, none⟩) hz2).trans b3; clear hb3)
      | (go_at_call 18; refine (D.out _ B3.out).mono ?_; rintro e w4 ⟨rfl, hb4⟩; have B4 := Lib.hid (bnext B3.out hb4); clear hb4))
    all_goals
      clear k1 k2
      go_wp2
      go_ret
      exact ⟨ret_str (by rw [HS.out, ← HJ.out, ← ByteArray.mk_append_mk, ← ByteArray.mk_append_mk]), B4.out⟩
end Go.Proofs.YtpholgfkaolfjaaDoor
