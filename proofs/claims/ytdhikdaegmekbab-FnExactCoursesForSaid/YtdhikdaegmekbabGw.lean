/-
  The value of a rod: how far its joints are from the format's: contracts of the program.
-/
import Derived.Test.YtdhikdaegmekbabGb
import Derived.Test.YtdhikdaegmekbabGm
import Derived.Test.YtdhikdaegmekbabSetM
import Derived.Deep.RegionWith
import Derived.Deep.RegionHeld3
namespace Go.Proofs.Ytdhikdaegmekbab
open Go.ChangeShapes Go.WideShapes Go.ChangeAt Go.RowKit Go.Joins

theorem distw_impl (x y : Int) (hx : -1000000000000 ≤ x ∧ x ≤ 1000000000000) (hy : -1000000000000 ≤ y ∧ y ≤ 1000000000000) (w : World) : Calls Try.prog 112 #[.int .i64 x, .int .i64 y] w fun e w' => e = .returned (.int .i64 ((x - y).natAbs : Int)) ∧ w = w' := by
  obtain ⟨hx0, hx1⟩ := hx
  obtain ⟨hy0, hy1⟩ := hy
  by_cases h : x < y
  all_goals
    go_enter Try.func112, Try.ntmps112
    go_wp2
    go_ret
    exact ⟨ret_int (by omega), rfl⟩
theorem rangeW_other {W : World} {g c k : Nat} {v : Value} {V : List Value} (h : W.rangeAt g 0 V) (hne : g ≠ c) : (W.setCell ⟨c, k, none⟩ v).rangeAt g 0 V := fun q x hx => by
  rw [World.cell?_setCell_other _ _ _ _ (fun e => hne (by cases e; rfl))]; exact h q x hx
set_option maxRecDepth 100000 in
set_option maxHeartbeats 6400000 in
theorem away_impl (x y n : Int) (hx : -1000000 ≤ x ∧ x ≤ 1000000) (m : -1000000000 ≤ n * y ∧ n * y ≤ 1000000000) (w : World) : Calls Try.prog 81 #[.agg #[.int .i64 x, .int .i64 y], .int .i64 n] w fun e w' => e = .returned (.agg #[.int .i64 ((x - n * y).natAbs : Int), .int .i64 y]) ∧ Below w.heap.size w w' := by
  obtain ⟨m0, m1⟩ := m
  have DI := Lib.hid (distw_impl x (n * y) ⟨by omega, by omega⟩ ⟨by omega, by omega⟩)
  obtain ⟨z, hz⟩ : ∃ z : Int, ((x - n * y).natAbs : Int) = z := ⟨_, rfl⟩
  rw [hz] at DI ⊢
  clear hz hx
  have G0 := Lib.hid (World.rangeAt_alloc (range_new w #[.int .i64 x, .int .i64 y] 26) (.cells #[.int .i64 0, .int .i64 0] 26))
  have T0' := there_new (w.alloc (.cells #[.int .i64 x, .int .i64 y] 26)) #[.int .i64 0, .int .i64 0] 26 2 rfl
  rw [World.size_alloc] at T0'
  have T0 := Lib.hid T0'
  have E0 := Lib.hid (balloc (balloc0 w (.cells #[.int .i64 x, .int .i64 y] 26)) (.cells #[.int .i64 0, .int .i64 0] 26))
  clear T0'
  obtain ⟨wr, hwr⟩ : ∃ wr, (w.alloc (.cells #[.int .i64 x, .int .i64 y] 26)).alloc (.cells #[.int .i64 0, .int .i64 0] 26) = wr := ⟨_, rfl⟩
  rw [hwr] at G0 T0 E0
  have HW := Lib.hid hwr
  clear hwr
  go_enter Try.func81, Try.ntmps81
  go_wp2_with fail
  rw [HW.out]
  refine wp_region_held_drew (S := fun W => Below w.heap.size w W ∧ W.rangeAt w.heap.size 0 [.int .i64 x, .int .i64 y] ∧ W.there (w.heap.size + 1) 0 2) (by kernel_rfl) ?_ (fun hHeld => ?_)
  · exact ⟨E0.out.drew, G0.out, T0.out⟩
  refine wpAnyH_take (i := 0) (v := .pointer (some ⟨w.heap.size, 0, none⟩)) rfl (by kernel_rfl) (by kernel_rfl) (by kernel_rfl) (fun _ _ _ h => h) (Or.inl ⟨by kernel_rfl, ?_⟩) (by assumption) ?_
  · intro w hSw
    try dsimp only at hSw
    skip
    go_simp
  try simp only [Act.put, List.setIfInBounds_toArray, List.set_cons_zero, List.set_cons_succ, List.getElem_toArray, List.getElem_cons_zero]
  refine wpAnyH_take (i := 1) (v := .int .i64 x) rfl (by kernel_rfl) (by kernel_rfl) (by kernel_rfl) (fun _ _ _ h => h) (Or.inl ⟨by kernel_rfl, ?_⟩) (by assumption) ?_
  · intro w hSw
    try dsimp only at hSw
    obtain ⟨hBB, RG, -⟩ := hSw
    have k0 := RG 0 _ rfl
    simp only [Nat.zero_add] at k0
    have k1 := RG 1 _ rfl
    simp only [Nat.zero_add] at k1
    clear RG hBB
    go_simp
  try simp only [Act.put, List.setIfInBounds_toArray, List.set_cons_zero, List.set_cons_succ, List.getElem_toArray, List.getElem_cons_zero, List.getElem_cons_succ]
  refine wpAnyH_take (i := 2) (v := .int .i64 n) rfl (by kernel_rfl) (by kernel_rfl) (by kernel_rfl) (fun _ _ _ h => h) (Or.inl ⟨by kernel_rfl, ?_⟩) (by assumption) ?_
  · intro w hSw
    try dsimp only at hSw
    skip
    go_simp
  try simp only [Act.put, List.setIfInBounds_toArray, List.set_cons_zero, List.set_cons_succ, List.getElem_toArray, List.getElem_cons_zero, List.getElem_cons_succ]
  refine wpAnyH_take (i := 3) (v := .pointer (some ⟨w.heap.size, 1, none⟩)) rfl (by kernel_rfl) (by kernel_rfl) (by kernel_rfl) (fun _ _ _ h => h) (Or.inl ⟨by kernel_rfl, ?_⟩) (by assumption) ?_
  · intro w hSw
    try dsimp only at hSw
    skip
    go_simp
  try simp only [Act.put, List.setIfInBounds_toArray, List.set_cons_zero, List.set_cons_succ, List.getElem_toArray, List.getElem_cons_zero, List.getElem_cons_succ]
  refine wpAnyH_take (i := 4) (v := .int .i64 y) rfl (by kernel_rfl) (by kernel_rfl) (by kernel_rfl) (fun _ _ _ h => h) (Or.inl ⟨by kernel_rfl, ?_⟩) (by assumption) ?_
  · intro w hSw
    try dsimp only at hSw
    obtain ⟨hBB, RG, -⟩ := hSw
    have k0 := RG 0 _ rfl
    simp only [Nat.zero_add] at k0
    have k1 := RG 1 _ rfl
    simp only [Nat.zero_add] at k1
    clear RG hBB
    go_simp
  try simp only [Act.put, List.setIfInBounds_toArray, List.set_cons_zero, List.set_cons_succ, List.getElem_toArray, List.getElem_cons_zero, List.getElem_cons_succ]
  refine wpAnyH_take (i := 5) (v := .int .i64 (n * y)) rfl (by kernel_rfl) (by kernel_rfl) (by kernel_rfl) (fun _ _ _ h => h) (Or.inl ⟨by kernel_rfl, ?_⟩) (by assumption) ?_
  · intro w hSw
    try dsimp only at hSw
    skip
    go_simp
    all_goals first | omega | exact IntWalk.i64_in _ (by omega)
  try simp only [Act.put, List.setIfInBounds_toArray, List.set_cons_zero, List.set_cons_succ, List.getElem_toArray, List.getElem_cons_zero, List.getElem_cons_succ]
  refine wpAnyH_take (i := 7) (v := .pointer (some ⟨w.heap.size, 1, none⟩)) rfl (by kernel_rfl) (by kernel_rfl) (by kernel_rfl) (fun _ _ _ h => h) (Or.inl ⟨by kernel_rfl, ?_⟩) (by assumption) ?_
  · intro w hSw
    try dsimp only at hSw
    skip
    go_simp
  try simp only [Act.put, List.setIfInBounds_toArray, List.set_cons_zero, List.set_cons_succ, List.getElem_toArray, List.getElem_cons_zero, List.getElem_cons_succ]
  refine wpAnyH_take (i := 8) (v := .int .i64 y) rfl (by kernel_rfl) (by kernel_rfl) (by kernel_rfl) (fun _ _ _ h => h) (Or.inl ⟨by kernel_rfl, ?_⟩) (by assumption) ?_
  · intro w hSw
    try dsimp only at hSw
    obtain ⟨hBB, RG, -⟩ := hSw
    have k0 := RG 0 _ rfl
    simp only [Nat.zero_add] at k0
    have k1 := RG 1 _ rfl
    simp only [Nat.zero_add] at k1
    clear RG hBB
    go_simp
  try simp only [Act.put, List.setIfInBounds_toArray, List.set_cons_zero, List.set_cons_succ, List.getElem_toArray, List.getElem_cons_zero, List.getElem_cons_succ]
  refine wpAnyH_ready (rs := [6]) (by kernel_rfl) (by simp) ?_
  refine AllReadyH.cons rfl (fun K hK => ?_) AllReadyH.nil
  go_simp
  go_at_call 112
  refine (DI.out _).mono ?_
  rintro e w1 ⟨rfl, rfl⟩
  refine hK.out _ _ ?_ (fun hHeld' => ?_)
  · exact hHeld
  clear hK K hHeld
  have hHeld := hHeld'
  clear hHeld'
  try simp only [Act.put, List.setIfInBounds_toArray, List.set_cons_zero, List.set_cons_succ, List.getElem_toArray, List.getElem_cons_zero, List.getElem_cons_succ]
  refine wpAnyH_take (i := 9) (v := .agg #[.int .i64 z, .int .i64 y]) rfl (by kernel_rfl) (by kernel_rfl) (by kernel_rfl) (fun _ _ _ h => h) (Or.inl ⟨by kernel_rfl, ?_⟩) (by assumption) ?_
  · intro w hSw
    try dsimp only at hSw
    skip
    go_simp
  try simp only [Act.put, List.setIfInBounds_toArray, List.set_cons_zero, List.set_cons_succ, List.getElem_toArray, List.getElem_cons_zero, List.getElem_cons_succ]
  refine wpAnyH_ready (rs := [10]) (by kernel_rfl) (by simp) ?_
  refine AllReadyH.cons rfl (fun K hK => ?_) AllReadyH.nil
  obtain ⟨u0, x0, y0⟩ := there_at T0.out (show 0 < 2 by omega)
  obtain ⟨u1, x1, y1⟩ := there_at T0.out (show 1 < 2 by omega)
  go_simp
  refine hK.out _ _ ?_ (fun hHeld' => ?_)
  · exact ⟨(hHeld.1.setCell (by simp) _).setCell (by simp) _, rangeW_other (rangeW_other hHeld.2.1 (by omega)) (by omega), there_setM (there_setM hHeld.2.2 _ _) _ _⟩
  clear hK K hHeld
  have hHeld := hHeld'
  clear hHeld'
  try simp only [Act.put, List.setIfInBounds_toArray, List.set_cons_zero, List.set_cons_succ, List.getElem_toArray, List.getElem_cons_zero, List.getElem_cons_succ]
  refine wpAnyH_done (by kernel_rfl) ?_ _
  go_wp2
  refine bodyPost_ret (v := .agg #[.int .i64 z, .int .i64 y]) (by simp [results, Try.results81, go_sem, x0, x1]) rfl ⟨rfl, hHeld.1⟩
/-- How far the joints of a rod are from the format's: the numerator and the denominator. -/
def vaN (ht j H c : Int) : Int := ((lowN (H - c * ht) c - j * lowD (H - c * ht) c).natAbs : Int)
def vaD (ht H c : Int) : Int := lowD (H - c * ht) c
set_option maxRecDepth 100000 in
set_option maxHeartbeats 6400000 in
theorem value_close (l wd ht j H c : Int) (h1 : okB l wd ht j = true) (h2 : gB H c = true) (h3 : ¬ H < c * ht) (bF : Nat) (w : World) (hF : FmBox bF l wd ht j w) :
    Calls Try.prog 80 #[.agg #[.int .i64 H, .int .i64 c], .pointer (some ⟨bF, 0, none⟩)] w fun e w' => e = .returned (.agg #[.int .i64 (vaN ht j H c), .int .i64 (vaD ht H c)]) ∧ Below w.heap.size w w' := by
  obtain ⟨⟨H0, H1⟩, c0, c1⟩ := gB_true.1 h2
  obtain ⟨-, -, ⟨t0, t1⟩, ⟨j0, j1⟩, -⟩ := okB_true.1 h1
  have BD := Lib.hid (bed_impl' l wd ht j H c h1 h2 h3)
  have m0 : 0 ≤ c * ht := Int.mul_nonneg (by omega) (by omega)
  obtain ⟨a0, a1, a2, a3⟩ := low_bound (H - c * ht) c (by omega) 6000 (by omega) (by omega)
  have hv : vaN ht j H c = ((lowN (H - c * ht) c - j * lowD (H - c * ht) c).natAbs : Int) := rfl
  have hv2 : vaD ht H c = lowD (H - c * ht) c := rfl
  rw [hv, hv2]
  obtain ⟨N, hN⟩ : ∃ N, lowN (H - c * ht) c = N := ⟨_, rfl⟩
  obtain ⟨D, hD⟩ : ∃ D, lowD (H - c * ht) c = D := ⟨_, rfl⟩
  rw [hN] at a0 a1 BD
  rw [hD] at a2 a3 BD
  rw [hN, hD]
  have p0 : 0 ≤ j * D := Int.mul_nonneg j0 (by omega)
  have p1 : j * D ≤ 800 := Int.le_trans (Int.mul_le_mul j1 (show D ≤ 40 by omega) (by omega) (by omega)) (by omega)
  have AW := Lib.hid (away_impl N D j ⟨by omega, by omega⟩ ⟨by omega, by omega⟩)
  obtain ⟨Z, hZ⟩ : ∃ z : Int, ((N - j * D).natAbs : Int) = z := ⟨_, rfl⟩
  rw [hZ] at AW ⊢
  have KF : Hid (∀ wx, Below w.heap.size w wx → FmBox bF l wd ht j wx) := fun wx hx => hF.later hx
  clear hZ hN hD hv hv2 h1 h2 h3 hF p0 p1 a0 a1 a2 a3 m0
  have G0 := Lib.hid (World.rangeAt_alloc (range_new w #[.int .i64 H, .int .i64 c] 83) (.cells #[.int .i64 0, .int .i64 0] 26))
  have T0' := there_new (w.alloc (.cells #[.int .i64 H, .int .i64 c] 83)) #[.int .i64 0, .int .i64 0] 26 2 rfl
  rw [World.size_alloc] at T0'
  have T0 := Lib.hid T0'
  have E0 := Lib.hid (balloc (balloc0 w (.cells #[.int .i64 H, .int .i64 c] 83)) (.cells #[.int .i64 0, .int .i64 0] 26))
  clear T0'
  go_enter Try.func80, Try.ntmps80
  go_wp2_with fail
  refine wp_region_held_drew (S := fun W => Below w.heap.size w W ∧ W.rangeAt w.heap.size 0 [.int .i64 H, .int .i64 c] ∧ W.there (w.heap.size + 1) 0 2) (by kernel_rfl) ?_ (fun hHeld => ?_)
  · exact ⟨E0.out.drew, G0.out, T0.out⟩
  refine wpAnyH_take (i := 0) (v := .agg #[.int .i64 H, .int .i64 c]) rfl (by kernel_rfl) (by kernel_rfl) (by kernel_rfl) (fun _ _ _ h => h) (Or.inl ⟨by kernel_rfl, ?_⟩) (by assumption) ?_
  · intro w hSw
    try dsimp only at hSw
    obtain ⟨hBB, RG, -⟩ := hSw
    have k0 := RG 0 _ rfl
    simp only [Nat.zero_add] at k0
    have k1 := RG 1 _ rfl
    simp only [Nat.zero_add] at k1
    obtain ⟨f0, f1, f2, f3⟩ := KF.out _ hBB
    clear RG hBB
    go_simp
  try simp only [Act.put, List.setIfInBounds_toArray, List.set_cons_zero, List.set_cons_succ, List.getElem_toArray, List.getElem_cons_zero]
  refine wpAnyH_take (i := 1) (v := .agg #[.int .i64 l, .int .i64 wd, .int .i64 ht, .int .i64 j]) rfl (by kernel_rfl) (by kernel_rfl) (by kernel_rfl) (fun _ _ _ h => h) (Or.inl ⟨by kernel_rfl, ?_⟩) (by assumption) ?_
  · intro w hSw
    try dsimp only at hSw
    obtain ⟨hBB, RG, -⟩ := hSw
    have k0 := RG 0 _ rfl
    simp only [Nat.zero_add] at k0
    have k1 := RG 1 _ rfl
    simp only [Nat.zero_add] at k1
    obtain ⟨f0, f1, f2, f3⟩ := KF.out _ hBB
    clear RG hBB
    go_simp
  try simp only [Act.put, List.setIfInBounds_toArray, List.set_cons_zero, List.set_cons_succ, List.getElem_toArray, List.getElem_cons_zero, List.getElem_cons_succ]
  refine wpAnyH_take (i := 3) (v := .pointer (some ⟨bF, 3, none⟩)) rfl (by kernel_rfl) (by kernel_rfl) (by kernel_rfl) (fun _ _ _ h => h) (Or.inl ⟨by kernel_rfl, ?_⟩) (by assumption) ?_
  · intro w hSw
    try dsimp only at hSw
    skip
    go_simp
  try simp only [Act.put, List.setIfInBounds_toArray, List.set_cons_zero, List.set_cons_succ, List.getElem_toArray, List.getElem_cons_zero, List.getElem_cons_succ]
  refine wpAnyH_take (i := 4) (v := .int .i64 j) rfl (by kernel_rfl) (by kernel_rfl) (by kernel_rfl) (fun _ _ _ h => h) (Or.inl ⟨by kernel_rfl, ?_⟩) (by assumption) ?_
  · intro w hSw
    try dsimp only at hSw
    obtain ⟨hBB, RG, -⟩ := hSw
    have k0 := RG 0 _ rfl
    simp only [Nat.zero_add] at k0
    have k1 := RG 1 _ rfl
    simp only [Nat.zero_add] at k1
    obtain ⟨f0, f1, f2, f3⟩ := KF.out _ hBB
    clear RG hBB
    go_simp
  try simp only [Act.put, List.setIfInBounds_toArray, List.set_cons_zero, List.set_cons_succ, List.getElem_toArray, List.getElem_cons_zero, List.getElem_cons_succ]
  refine wpAnyH_ready (rs := [2]) (by kernel_rfl) (by simp) ?_
  refine AllReadyH.cons rfl (fun K hK => ?_) AllReadyH.nil
  go_simp
  go_at_call 68
  refine (BD.out _).mono ?_
  rintro e w1 ⟨rfl, hb⟩
  refine hK.out _ _ ?_ (fun hHeld' => ?_)
  · exact ⟨bnext hHeld.1 hb, range_below hHeld.2.1 hb, there_below hHeld.2.2 hb⟩
  clear hK K hHeld
  have hHeld := hHeld'
  clear hHeld'
  try simp only [Act.put, List.setIfInBounds_toArray, List.set_cons_zero, List.set_cons_succ, List.getElem_toArray, List.getElem_cons_zero, List.getElem_cons_succ]
  refine wpAnyH_ready (rs := [5]) (by kernel_rfl) (by simp) ?_
  refine AllReadyH.cons rfl (fun K hK => ?_) AllReadyH.nil
  go_simp
  go_at_call 81
  refine (AW.out _).mono ?_
  rintro e w2 ⟨rfl, hb⟩
  refine hK.out _ _ ?_ (fun hHeld' => ?_)
  · exact ⟨bnext hHeld.1 hb, range_below hHeld.2.1 hb, there_below hHeld.2.2 hb⟩
  clear hK K hHeld
  have hHeld := hHeld'
  clear hHeld'
  try simp only [Act.put, List.setIfInBounds_toArray, List.set_cons_zero, List.set_cons_succ, List.getElem_toArray, List.getElem_cons_zero, List.getElem_cons_succ]
  refine wpAnyH_ready (rs := [6]) (by kernel_rfl) (by simp) ?_
  refine AllReadyH.cons rfl (fun K hK => ?_) AllReadyH.nil
  obtain ⟨u0, x0, y0⟩ := there_at hHeld.2.2 (show 0 < 2 by omega)
  obtain ⟨u1, x1, y1⟩ := there_at hHeld.2.2 (show 1 < 2 by omega)
  go_simp
  refine hK.out _ _ ?_ (fun hHeld' => ?_)
  · exact ⟨(hHeld.1.setCell (by simp) _).setCell (by simp) _, rangeW_other (rangeW_other hHeld.2.1 (by omega)) (by omega), there_setM (there_setM hHeld.2.2 _ _) _ _⟩
  clear hK K hHeld
  have hHeld := hHeld'
  clear hHeld'
  try simp only [Act.put, List.setIfInBounds_toArray, List.set_cons_zero, List.set_cons_succ, List.getElem_toArray, List.getElem_cons_zero, List.getElem_cons_succ]
  refine wpAnyH_done (by kernel_rfl) ?_ _
  go_wp2
  refine bodyPost_ret (v := .agg #[.int .i64 Z, .int .i64 D]) (by simp [results, Try.results80, go_sem, x0, x1]) rfl ⟨rfl, hHeld.1⟩
end Go.Proofs.Ytdhikdaegmekbab
