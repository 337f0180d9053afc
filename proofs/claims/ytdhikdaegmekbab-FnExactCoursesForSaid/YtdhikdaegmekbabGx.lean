/-
  The compare closure of bestCourses over the value of CoursesFor: contracts of the program.
-/
import Derived.Test.YtdhikdaegmekbabGw
namespace Go.Proofs.Ytdhikdaegmekbab
open Go.ChangeShapes Go.WideShapes Go.ChangeAt Go.RowKit Go.Joins

theorem va_bounds {l wd ht j H c : Int} (h1 : okB l wd ht j = true) (h2 : gB H c = true) (h3 : ¬ H < c * ht) : (0 ≤ vaN ht j H c ∧ vaN ht j H c ≤ 10000) ∧ (1 ≤ vaD ht H c ∧ vaD ht H c ≤ 40) := by
  obtain ⟨⟨H0, H1⟩, c0, c1⟩ := gB_true.1 h2
  obtain ⟨-, -, ⟨t0, t1⟩, ⟨j0, j1⟩, -⟩ := okB_true.1 h1
  have m0 : 0 ≤ c * ht := Int.mul_nonneg (by omega) (by omega)
  obtain ⟨a0, a1, a2, a3⟩ := low_bound (H - c * ht) c (by omega) 6000 (by omega) (by omega)
  have p0 : 0 ≤ j * lowD (H - c * ht) c := Int.mul_nonneg j0 (by omega)
  have p1 : j * lowD (H - c * ht) c ≤ 800 := Int.le_trans (Int.mul_le_mul j1 (show lowD (H - c * ht) c ≤ 40 by omega) (by omega) (by omega)) (by omega)
  unfold vaN vaD
  omega
set_option maxRecDepth 100000 in
set_option maxHeartbeats 6400000 in
theorem cmp_close (l wd ht j H c1 c2 : Int) (h1 : okB l wd ht j = true) (g1 : gB H c1 = true) (e1 : ¬ H < c1 * ht) (g2 : gB H c2 = true) (e2 : ¬ H < c2 * ht) (bF bV : Nat) (w : World) (hF : FmBox bF l wd ht j w) (hV : w.cell? ⟨bV, 0, none⟩ = some (.func (.func 80) #[] #[.pointer (some ⟨bF, 0, none⟩)])) :
    Calls Try.prog 119 #[.agg #[.int .i64 H, .int .i64 c1], .agg #[.int .i64 H, .int .i64 c2], .pointer (some ⟨bV, 0, none⟩)] w fun e w' => e = .returned (.int .i64 (cmpI (vaN ht j H c1 * vaD ht H c2) (vaN ht j H c2 * vaD ht H c1))) ∧ Below w.heap.size w w' := by
  obtain ⟨⟨n0, n1⟩, d0, d1⟩ := va_bounds h1 g1 e1
  obtain ⟨⟨n2, n3⟩, d2, d3⟩ := va_bounds h1 g2 e2
  have C1 := Lib.hid (fun (wx : World) (hx : FmBox bF l wd ht j wx) => value_close l wd ht j H c1 h1 g1 e1 bF wx hx)
  have C2 := Lib.hid (fun (wx : World) (hx : FmBox bF l wd ht j wx) => value_close l wd ht j H c2 h1 g2 e2 bF wx hx)
  have CM := Lib.hid (fcmp_impl (vaN ht j H c1) (vaD ht H c1) (vaN ht j H c2) (vaD ht H c2) (by omega) (by omega) (by omega) (by omega))
  obtain ⟨N1, hN1⟩ : ∃ z, vaN ht j H c1 = z := ⟨_, rfl⟩
  obtain ⟨D1, hD1⟩ : ∃ z, vaD ht H c1 = z := ⟨_, rfl⟩
  obtain ⟨N2, hN2⟩ : ∃ z, vaN ht j H c2 = z := ⟨_, rfl⟩
  obtain ⟨D2, hD2⟩ : ∃ z, vaD ht H c2 = z := ⟨_, rfl⟩
  rw [hN1, hD1] at C1 CM
  rw [hN2, hD2] at C2 CM
  rw [hN1, hD1, hN2, hD2]
  obtain ⟨q, hq⟩ : ∃ z, cmpI (N1 * D2) (N2 * D1) = z := ⟨_, rfl⟩
  rw [hq] at CM ⊢
  clear hN1 hD1 hN2 hD2 hq h1 g1 e1 g2 e2 n0 n1 n2 n3 d0 d1 d2 d3
  have T1 := Lib.hid ((TwBox.new w H c1 83).later (balloc0 _ (.cells #[.int .i64 H, .int .i64 c2] 83)))
  have T2' := TwBox.new (w.alloc (.cells #[.int .i64 H, .int .i64 c1] 83)) H c2 83
  rw [World.size_alloc] at T2'
  have T2 := Lib.hid T2'
  have B0 := Lib.hid (balloc (balloc0 w (.cells #[.int .i64 H, .int .i64 c1] 83)) (.cells #[.int .i64 H, .int .i64 c2] 83))
  obtain ⟨wr, hwr⟩ : ∃ wr, ((w.alloc (.cells #[.int .i64 H, .int .i64 c1] 83)).alloc (.cells #[.int .i64 H, .int .i64 c2] 83)) = wr := ⟨_, rfl⟩
  rw [hwr] at T1 T2 B0
  have HW := Lib.hid hwr
  have hF' := hF.later B0.out
  have hV' := (B0.out.cell (World.block_lt_of_cell? w _ hV)).trans hV
  have KF : Hid (∀ wx, Below wr.heap.size wr wx → FmBox bF l wd ht j wx) := fun wx hx => hF'.later hx
  have KV : Hid (∀ wx, Below wr.heap.size wr wx → wx.cell? ⟨bV, 0, none⟩ = some (.func (.func 80) #[] #[.pointer (some ⟨bF, 0, none⟩)])) := fun wx hx => (hx.cell (World.block_lt_of_cell? wr _ hV')).trans hV'
  clear hwr T2' hF hV hF' hV'
  go_enter Try.func119, Try.ntmps119
  go_wp2_with fail
  rw [HW.out]
  refine wp_region_held_drew (S := fun W => Below wr.heap.size wr W) (by kernel_rfl) ?_ (fun hHeld => ?_)
  · exact (Below.refl _ _).drew
  refine wpAnyH_take (i := 0) (v := .func (.func 80) #[] #[.pointer (some ⟨bF, 0, none⟩)]) rfl (by kernel_rfl) (by kernel_rfl) (by kernel_rfl) (fun _ _ _ h => h) (Or.inl ⟨by kernel_rfl, ?_⟩) (by assumption) ?_
  · intro w hSw
    try dsimp only at hSw
    obtain ⟨k0, k1⟩ := T1.out.later hSw
    obtain ⟨k2, k3⟩ := T2.out.later hSw
    have k4 := KV.out _ hSw
    go_simp
  try simp only [Act.put, List.setIfInBounds_toArray, List.set_cons_zero, List.set_cons_succ, List.getElem_toArray, List.getElem_cons_zero]
  refine wpAnyH_take (i := 1) (v := .agg #[.int .i64 H, .int .i64 c1]) rfl (by kernel_rfl) (by kernel_rfl) (by kernel_rfl) (fun _ _ _ h => h) (Or.inl ⟨by kernel_rfl, ?_⟩) (by assumption) ?_
  · intro w hSw
    try dsimp only at hSw
    obtain ⟨k0, k1⟩ := T1.out.later hSw
    obtain ⟨k2, k3⟩ := T2.out.later hSw
    have k4 := KV.out _ hSw
    go_simp
  try simp only [Act.put, List.setIfInBounds_toArray, List.set_cons_zero, List.set_cons_succ, List.getElem_toArray, List.getElem_cons_zero, List.getElem_cons_succ]
  refine wpAnyH_take (i := 3) (v := .func (.func 80) #[] #[.pointer (some ⟨bF, 0, none⟩)]) rfl (by kernel_rfl) (by kernel_rfl) (by kernel_rfl) (fun _ _ _ h => h) (Or.inl ⟨by kernel_rfl, ?_⟩) (by assumption) ?_
  · intro w hSw
    try dsimp only at hSw
    obtain ⟨k0, k1⟩ := T1.out.later hSw
    obtain ⟨k2, k3⟩ := T2.out.later hSw
    have k4 := KV.out _ hSw
    go_simp
  try simp only [Act.put, List.setIfInBounds_toArray, List.set_cons_zero, List.set_cons_succ, List.getElem_toArray, List.getElem_cons_zero, List.getElem_cons_succ]
  refine wpAnyH_take (i := 4) (v := .agg #[.int .i64 H, .int .i64 c2]) rfl (by kernel_rfl) (by kernel_rfl) (by kernel_rfl) (fun _ _ _ h => h) (Or.inl ⟨by kernel_rfl, ?_⟩) (by assumption) ?_
  · intro w hSw
    try dsimp only at hSw
    obtain ⟨k0, k1⟩ := T1.out.later hSw
    obtain ⟨k2, k3⟩ := T2.out.later hSw
    have k4 := KV.out _ hSw
    go_simp
  try simp only [Act.put, List.setIfInBounds_toArray, List.set_cons_zero, List.set_cons_succ, List.getElem_toArray, List.getElem_cons_zero, List.getElem_cons_succ]
  refine wpAnyH_ready (rs := [2]) (by kernel_rfl) (by simp) ?_
  refine AllReadyH.cons rfl (fun K hK => ?_) AllReadyH.nil
  go_simp
  skip
  refine (C1.out _ (KF.out _ hHeld)).mono ?_
  rintro e w1 ⟨rfl, hb⟩
  refine hK.out _ _ ?_ (fun hHeld' => ?_)
  · exact bnext hHeld hb
  clear hK K hHeld
  have hHeld := hHeld'
  clear hHeld'
  try simp only [Act.put, List.setIfInBounds_toArray, List.set_cons_zero, List.set_cons_succ, List.getElem_toArray, List.getElem_cons_zero, List.getElem_cons_succ]
  refine wpAnyH_ready (rs := [5]) (by kernel_rfl) (by simp) ?_
  refine AllReadyH.cons rfl (fun K hK => ?_) AllReadyH.nil
  go_simp
  skip
  refine (C2.out _ (KF.out _ hHeld)).mono ?_
  rintro e w2 ⟨rfl, hb⟩
  refine hK.out _ _ ?_ (fun hHeld' => ?_)
  · exact bnext hHeld hb
  clear hK K hHeld
  have hHeld := hHeld'
  clear hHeld'
  try simp only [Act.put, List.setIfInBounds_toArray, List.set_cons_zero, List.set_cons_succ, List.getElem_toArray, List.getElem_cons_zero, List.getElem_cons_succ]
  refine wpAnyH_ready (rs := [6]) (by kernel_rfl) (by simp) ?_
  refine AllReadyH.cons rfl (fun K hK => ?_) AllReadyH.nil
  go_simp
  go_at_call 101
  refine (CM.out _).mono ?_
  rintro e w3 ⟨rfl, hb⟩
  refine hK.out _ _ ?_ (fun hHeld' => ?_)
  · exact bnext hHeld hb
  clear hK K hHeld
  have hHeld := hHeld'
  clear hHeld'
  try simp only [Act.put, List.setIfInBounds_toArray, List.set_cons_zero, List.set_cons_succ, List.getElem_toArray, List.getElem_cons_zero, List.getElem_cons_succ]
  refine wpAnyH_take (i := 7) (v := .int .i64 q) rfl (by kernel_rfl) (by kernel_rfl) (by kernel_rfl) (fun _ _ _ h => h) (Or.inl ⟨by kernel_rfl, ?_⟩) (by assumption) ?_
  · intro w hSw
    try dsimp only at hSw
    skip
    go_simp
  try simp only [Act.put, List.setIfInBounds_toArray, List.set_cons_zero, List.set_cons_succ, List.getElem_toArray, List.getElem_cons_zero, List.getElem_cons_succ]
  refine wpAnyH_done (by kernel_rfl) ?_ _
  go_wp2
  go_ret
  exact ⟨rfl, bnext B0.out hHeld⟩
end Go.Proofs.Ytdhikdaegmekbab
