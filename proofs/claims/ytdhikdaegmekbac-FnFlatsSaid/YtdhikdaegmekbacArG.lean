/-
  FlatBricks: contracts of the program and of the model.
-/
import Derived.Test.YtdhikdaegmekbacArF
namespace Go.Proofs.Ytdhikdaegmekbac
open Go.ChangeShapes Go.WideShapes Go.ChangeAt Go.RowKit Go.Joins


def fbB (s k j b : Int) : Bool := flB s k j && inB b 30 250
def fbc (s k j b : Int) : Int := (s + 2 * k - j) / (b + j)
def fbN (s k j b : Int) : Int := if fbB s k j b = true then oddQ (fbc s k j b) else 0
def fbC (s k j b : Int) : Int := if fbB s k j b = true then (if fbc s k j b < 1 then 3 else 0) else 2
theorem fb_range {s k j b : Int} (h : fbB s k j b = true) : ((100 ≤ s ∧ s ≤ 5000) ∧ (0 ≤ k ∧ k ≤ 500) ∧ (0 ≤ j ∧ j ≤ 20)) ∧ (30 ≤ b ∧ b ≤ 250) ∧ 0 ≤ fbc s k j b ∧ fbc s k j b ≤ 200 := by
  simp only [fbB, Bool.and_eq_true, inB_true] at h
  obtain ⟨h1, b0, b1⟩ := h
  have h1' := flB_true.1 h1
  obtain ⟨⟨s0, s1⟩, ⟨k0, k1⟩, j0, j1⟩ := h1'
  refine ⟨⟨⟨s0, s1⟩, ⟨k0, k1⟩, j0, j1⟩, ⟨b0, b1⟩, ?_, ?_⟩
  · exact Int.ediv_nonneg (by omega) (by omega)
  · unfold fbc
    have h2 := (fits_div (s + 2 * k - j) (b + j) ((s + 2 * k - j) / (b + j)) (by omega)).2 (Int.le_refl _)
    obtain ⟨q, hq⟩ : ∃ q, (s + 2 * k - j) / (b + j) = q := ⟨_, rfl⟩
    rw [hq] at h2 ⊢
    by_cases h0 : q ≤ 200
    · exact h0
    · have h3 : 201 * 30 ≤ q * (b + j) := Int.mul_le_mul (by omega) (by omega) (by omega) (by omega)
      omega
/-- Whether n bricks are wide enough at the upper side. -/
theorem fb_fits {s k j b : Int} (h : fbB s k j b = true) (n : Int) : b * n ≤ s + 2 * k - (n + 1) * j ↔ n ≤ fbc s k j b := by
  obtain ⟨⟨-, -, j0, j1⟩, ⟨b0, b1⟩, -, -⟩ := fb_range h
  rw [fbc, ← fits_div (s + 2 * k - j) (b + j) n (by omega), Int.mul_add, Int.add_mul, Int.one_mul, Int.mul_comm b n]
  omega
theorem fb_cases (s k j b : Int) : (fbB s k j b = false ∧ fbC s k j b = 2 ∧ fbN s k j b = 0) ∨ (fbB s k j b = true ∧ fbc s k j b < 1 ∧ fbC s k j b = 3 ∧ fbN s k j b = 0) ∨ (fbB s k j b = true ∧ ¬ fbc s k j b < 1 ∧ fbC s k j b = 0 ∧ fbN s k j b = oddQ (fbc s k j b)) := by
  cases h : fbB s k j b
  · exact .inl ⟨rfl, by simp [fbC, h], by simp [fbN, h]⟩
  · by_cases h1 : fbc s k j b < 1
    · exact .inr (.inl ⟨rfl, h1, by simp [fbC, h, h1], by simp [fbN, h, oddQ_none h1]⟩)
    · exact .inr (.inr ⟨rfl, h1, by simp [fbC, h, h1], by simp [fbN, h]⟩)
set_option maxRecDepth 100000 in
set_option maxHeartbeats 6400000 in
theorem flat_close (s k j b n : Int) (h : fbB s k j b = true) (n0 : 1 ≤ n ∧ n ≤ 1000) (gA gB : Nat) (w : World) (hA : TrBox gA s k j w) (hB : w.cell? ⟨gB, 0, none⟩ = some (.int .i64 b)) :
    Calls Try.prog 12 #[.int .i64 n, .pointer (some ⟨gA, 0, none⟩), .pointer (some ⟨gB, 0, none⟩)] w fun e w' => e = .returned (.bool (decide (n ≤ fbc s k j b))) ∧ Below w.heap.size w w' := by
  have FF := fb_fits h n
  obtain ⟨hF, ⟨b0, b1⟩, -, -⟩ := fb_range h
  have UW := Lib.hid (upper_impl s k j n (flB_true.2 hF) n0)
  obtain ⟨⟨s0, s1⟩, ⟨k0, k1⟩, j0, j1⟩ := hF
  have LG := low_ge (s + 2 * k - (n + 1) * j) n b (by omega)
  obtain ⟨m0, m1⟩ := nj_range ⟨j0, j1⟩ n0
  obtain ⟨u0, u1, v0, v1⟩ := low_bound (s + 2 * k - (n + 1) * j) n (by omega) 100000 (by omega) (by omega)
  obtain ⟨U, hU⟩ : ∃ U, lowN (s + 2 * k - (n + 1) * j) n = U := ⟨_, rfl⟩
  obtain ⟨V, hV⟩ : ∃ U, lowD (s + 2 * k - (n + 1) * j) n = U := ⟨_, rfl⟩
  rw [hU, hV] at UW LG
  rw [hU] at u0 u1
  rw [hV] at v0 v1
  obtain ⟨n0, n1⟩ := n0
  have p0 : 0 ≤ b * V := Int.mul_nonneg (by omega) (by omega)
  have p1 : b * V ≤ 250000 := Int.le_trans (Int.mul_le_mul b1 (show V ≤ 1000 by omega) (by omega) (by omega)) (by omega)
  have WH := Lib.hid (whole_impl b)
  have CM := Lib.hid (arcmp_impl U V b 1 ⟨by omega, by omega⟩ ⟨by omega, by omega⟩)
  obtain ⟨q, hq⟩ : ∃ q, cmpI (U * 1) (b * V) = q := ⟨_, rfl⟩
  rw [hq] at CM
  have hq2 : 0 ≤ q ↔ b * V ≤ U := by
    rw [← hq]
    rcases Int.lt_trichotomy (U * 1) (b * V) with h | h | h
    · rw [cmpI_lt h]; omega
    · rw [cmpI_eq h]; omega
    · rw [cmpI_gt h]; omega
  have hd : decide (n ≤ fbc s k j b) = decide (0 ≤ q) := by
    have : n ≤ fbc s k j b ↔ 0 ≤ q := by rw [hq2, LG, FF]
    simp [this]
  rw [hd]
  have KA : Hid (∀ wx, Below w.heap.size w wx → TrBox gA s k j wx) := fun wx hx => hA.later hx
  have KB : Hid (∀ wx, Below w.heap.size w wx → wx.cell? ⟨gB, 0, none⟩ = some (.int .i64 b)) := fun wx hx => (hx.cell (World.block_lt_of_cell? w _ hB)).trans hB
  clear hA hB hd hq2 hq FF LG h hU hV p0 p1 u0 u1 v0 v1
  by_cases hq : 0 ≤ q
  · go_enter Try.func12, Try.ntmps12
    go_wp2_with fail
    refine wp_region_held_drew (S := fun W => Below w.heap.size w W) (by kernel_rfl) ?_ (fun hHeld => ?_)
    · exact (Below.refl _ _).drew
    refine wpAnyH_take (i := 0) (v := .agg #[.int .i64 s, .int .i64 k, .int .i64 j]) rfl (by kernel_rfl) (by kernel_rfl) (by kernel_rfl) (fun _ _ _ h => h) (Or.inl ⟨by kernel_rfl, ?_⟩) (by assumption) ?_
    · intro w hSw
      try dsimp only at hSw
      obtain ⟨k0, k1, k2⟩ := KA.out _ hSw
      have k3 := KB.out _ hSw
      go_simp
    try simp only [Act.put, List.setIfInBounds_toArray, List.set_cons_zero, List.set_cons_succ, List.getElem_toArray, List.getElem_cons_zero]
    refine wpAnyH_take (i := 1) (v := .int .i64 n) rfl (by kernel_rfl) (by kernel_rfl) (by kernel_rfl) (fun _ _ _ h => h) (Or.inl ⟨by kernel_rfl, ?_⟩) (by assumption) ?_
    · intro w hSw
      try dsimp only at hSw
      skip
      go_simp
    try simp only [Act.put, List.setIfInBounds_toArray, List.set_cons_zero, List.set_cons_succ, List.getElem_toArray, List.getElem_cons_zero, List.getElem_cons_succ]
    refine wpAnyH_take (i := 3) (v := .int .i64 b) rfl (by kernel_rfl) (by kernel_rfl) (by kernel_rfl) (fun _ _ _ h => h) (Or.inl ⟨by kernel_rfl, ?_⟩) (by assumption) ?_
    · intro w hSw
      try dsimp only at hSw
      obtain ⟨k0, k1, k2⟩ := KA.out _ hSw
      have k3 := KB.out _ hSw
      go_simp
    try simp only [Act.put, List.setIfInBounds_toArray, List.set_cons_zero, List.set_cons_succ, List.getElem_toArray, List.getElem_cons_zero, List.getElem_cons_succ]
    refine wpAnyH_ready (rs := [2]) (by kernel_rfl) (by simp) ?_
    refine AllReadyH.cons rfl (fun K hK => ?_) AllReadyH.nil
    go_simp
    go_at_call 13
    refine (UW.out _).mono ?_
    rintro e w1 ⟨rfl, hb⟩
    refine hK.out _ _ ?_ (fun hHeld' => ?_)
    · exact bnext hHeld hb
    clear hK K hHeld
    have hHeld := hHeld'
    clear hHeld'
    try simp only [Act.put, List.setIfInBounds_toArray, List.set_cons_zero, List.set_cons_succ, List.getElem_toArray, List.getElem_cons_zero, List.getElem_cons_succ]
    refine wpAnyH_ready (rs := [4]) (by kernel_rfl) (by simp) ?_
    refine AllReadyH.cons rfl (fun K hK => ?_) AllReadyH.nil
    go_simp
    go_at_call 15
    refine (WH.out _).mono ?_
    rintro e w2 ⟨rfl, hb⟩
    refine hK.out _ _ ?_ (fun hHeld' => ?_)
    · exact bnext hHeld hb
    clear hK K hHeld
    have hHeld := hHeld'
    clear hHeld'
    try simp only [Act.put, List.setIfInBounds_toArray, List.set_cons_zero, List.set_cons_succ, List.getElem_toArray, List.getElem_cons_zero, List.getElem_cons_succ]
    refine wpAnyH_ready (rs := [5]) (by kernel_rfl) (by simp) ?_
    refine AllReadyH.cons rfl (fun K hK => ?_) AllReadyH.nil
    go_simp
    go_at_call 14
    refine (CM.out _).mono ?_
    rintro e w3 ⟨rfl, hb⟩
    refine hK.out _ _ ?_ (fun hHeld' => ?_)
    · exact bnext hHeld hb
    clear hK K hHeld
    have hHeld := hHeld'
    clear hHeld'
    try simp only [Act.put, List.setIfInBounds_toArray, List.set_cons_zero, List.set_cons_succ, List.getElem_toArray, List.getElem_cons_zero, List.getElem_cons_succ]
    refine wpAnyH_take (i := 6) (v := .bool true) rfl (by kernel_rfl) (by kernel_rfl) (by kernel_rfl) (fun _ _ _ h => h) (Or.inl ⟨by kernel_rfl, ?_⟩) (by assumption) ?_
    · intro w hSw
      try dsimp only at hSw
      skip
      go_simp
      all_goals first | omega | exact IntWalk.i64_in _ (by omega)
    try simp only [Act.put, List.setIfInBounds_toArray, List.set_cons_zero, List.set_cons_succ, List.getElem_toArray, List.getElem_cons_zero, List.getElem_cons_succ]
    refine wpAnyH_take (i := 7) (v := .bool true) rfl (by kernel_rfl) (by kernel_rfl) (by kernel_rfl) (fun _ _ _ h => h) (Or.inl ⟨by kernel_rfl, ?_⟩) (by assumption) ?_
    · intro w hSw
      try dsimp only at hSw
      skip
      go_simp
    try simp only [Act.put, List.setIfInBounds_toArray, List.set_cons_zero, List.set_cons_succ, List.getElem_toArray, List.getElem_cons_zero, List.getElem_cons_succ]
    refine wpAnyH_done (by kernel_rfl) ?_ _
    go_wp2
    go_ret
    exact ⟨ret_bool (by simp; omega), hHeld⟩
  · go_enter Try.func12, Try.ntmps12
    go_wp2_with fail
    refine wp_region_held_drew (S := fun W => Below w.heap.size w W) (by kernel_rfl) ?_ (fun hHeld => ?_)
    · exact (Below.refl _ _).drew
    refine wpAnyH_take (i := 0) (v := .agg #[.int .i64 s, .int .i64 k, .int .i64 j]) rfl (by kernel_rfl) (by kernel_rfl) (by kernel_rfl) (fun _ _ _ h => h) (Or.inl ⟨by kernel_rfl, ?_⟩) (by assumption) ?_
    · intro w hSw
      try dsimp only at hSw
      obtain ⟨k0, k1, k2⟩ := KA.out _ hSw
      have k3 := KB.out _ hSw
      go_simp
    try simp only [Act.put, List.setIfInBounds_toArray, List.set_cons_zero, List.set_cons_succ, List.getElem_toArray, List.getElem_cons_zero]
    refine wpAnyH_take (i := 1) (v := .int .i64 n) rfl (by kernel_rfl) (by kernel_rfl) (by kernel_rfl) (fun _ _ _ h => h) (Or.inl ⟨by kernel_rfl, ?_⟩) (by assumption) ?_
    · intro w hSw
      try dsimp only at hSw
      skip
      go_simp
    try simp only [Act.put, List.setIfInBounds_toArray, List.set_cons_zero, List.set_cons_succ, List.getElem_toArray, List.getElem_cons_zero, List.getElem_cons_succ]
    refine wpAnyH_take (i := 3) (v := .int .i64 b) rfl (by kernel_rfl) (by kernel_rfl) (by kernel_rfl) (fun _ _ _ h => h) (Or.inl ⟨by kernel_rfl, ?_⟩) (by assumption) ?_
    · intro w hSw
      try dsimp only at hSw
      obtain ⟨k0, k1, k2⟩ := KA.out _ hSw
      have k3 := KB.out _ hSw
      go_simp
    try simp only [Act.put, List.setIfInBounds_toArray, List.set_cons_zero, List.set_cons_succ, List.getElem_toArray, List.getElem_cons_zero, List.getElem_cons_succ]
    refine wpAnyH_ready (rs := [2]) (by kernel_rfl) (by simp) ?_
    refine AllReadyH.cons rfl (fun K hK => ?_) AllReadyH.nil
    go_simp
    go_at_call 13
    refine (UW.out _).mono ?_
    rintro e w1 ⟨rfl, hb⟩
    refine hK.out _ _ ?_ (fun hHeld' => ?_)
    · exact bnext hHeld hb
    clear hK K hHeld
    have hHeld := hHeld'
    clear hHeld'
    try simp only [Act.put, List.setIfInBounds_toArray, List.set_cons_zero, List.set_cons_succ, List.getElem_toArray, List.getElem_cons_zero, List.getElem_cons_succ]
    refine wpAnyH_ready (rs := [4]) (by kernel_rfl) (by simp) ?_
    refine AllReadyH.cons rfl (fun K hK => ?_) AllReadyH.nil
    go_simp
    go_at_call 15
    refine (WH.out _).mono ?_
    rintro e w2 ⟨rfl, hb⟩
    refine hK.out _ _ ?_ (fun hHeld' => ?_)
    · exact bnext hHeld hb
    clear hK K hHeld
    have hHeld := hHeld'
    clear hHeld'
    try simp only [Act.put, List.setIfInBounds_toArray, List.set_cons_zero, List.set_cons_succ, List.getElem_toArray, List.getElem_cons_zero, List.getElem_cons_succ]
    refine wpAnyH_ready (rs := [5]) (by kernel_rfl) (by simp) ?_
    refine AllReadyH.cons rfl (fun K hK => ?_) AllReadyH.nil
    go_simp
    go_at_call 14
    refine (CM.out _).mono ?_
    rintro e w3 ⟨rfl, hb⟩
    refine hK.out _ _ ?_ (fun hHeld' => ?_)
    · exact bnext hHeld hb
    clear hK K hHeld
    have hHeld := hHeld'
    clear hHeld'
    try simp only [Act.put, List.setIfInBounds_toArray, List.set_cons_zero, List.set_cons_succ, List.getElem_toArray, List.getElem_cons_zero, List.getElem_cons_succ]
    refine wpAnyH_take (i := 6) (v := .bool false) rfl (by kernel_rfl) (by kernel_rfl) (by kernel_rfl) (fun _ _ _ h => h) (Or.inl ⟨by kernel_rfl, ?_⟩) (by assumption) ?_
    · intro w hSw
      try dsimp only at hSw
      skip
      go_simp
      all_goals first | omega | exact IntWalk.i64_in _ (by omega)
    try simp only [Act.put, List.setIfInBounds_toArray, List.set_cons_zero, List.set_cons_succ, List.getElem_toArray, List.getElem_cons_zero, List.getElem_cons_succ]
    refine wpAnyH_take (i := 7) (v := .bool false) rfl (by kernel_rfl) (by kernel_rfl) (by kernel_rfl) (fun _ _ _ h => h) (Or.inl ⟨by kernel_rfl, ?_⟩) (by assumption) ?_
    · intro w hSw
      try dsimp only at hSw
      skip
      go_simp
    try simp only [Act.put, List.setIfInBounds_toArray, List.set_cons_zero, List.set_cons_succ, List.getElem_toArray, List.getElem_cons_zero, List.getElem_cons_succ]
    refine wpAnyH_done (by kernel_rfl) ?_ _
    go_wp2
    go_ret
    exact ⟨ret_bool (by simp; omega), hHeld⟩
set_option maxRecDepth 100000 in
set_option maxHeartbeats 6400000 in
theorem great_flat (s k j b : Int) (h : fbB s k j b = true) (gA gB : Nat) (w : World) (hA : TrBox gA s k j w) (hB : w.cell? ⟨gB, 0, none⟩ = some (.int .i64 b)) : Calls Try.prog 11 #[.func (.func 12) #[] #[.pointer (some ⟨gA, 0, none⟩), .pointer (some ⟨gB, 0, none⟩)]] w fun e w' => e = .returned (.tuple #[.int .i64 (oddQ (fbc s k j b)), .int .i64 (if fbc s k j b < 1 then 3 else 0)]) ∧ Below w.heap.size w w' := by
  have PL := Lib.hid (fun (n : Int) (n0 : 1 ≤ n) (n1 : n ≤ 1000) wx (hx : Below w.heap.size w wx) => flat_close s k j b n h ⟨n0, n1⟩ gA gB wx (hA.later hx) ((hx.cell (World.block_lt_of_cell? w _ hB)).trans hB))
  obtain ⟨-, -, c0, c1⟩ := fb_range h
  obtain ⟨c, hc⟩ : ∃ c, fbc s k j b = c := ⟨_, rfl⟩
  rw [hc] at PL c0 c1 ⊢
  clear h hc hA hB
  by_cases h1 : 1 ≤ c
  case neg =>
    have E : Hid (oddQ c = 0 ∧ (if c < 1 then (3 : Int) else 0) = 3) := ⟨oddQ_none (by omega), if_pos (by omega)⟩
    have hd : decide (1 ≤ c) = false := by simp; omega
    rw [E.out.1, E.out.2]
    go_enter Try.func11, Try.ntmps11
    go_wp2_with fail
    refine (PL.out 1 (by omega) (by omega) _ (Below.refl _ _)).mono ?_
    rintro e w1 ⟨rfl, hb1⟩
    have B1 := Lib.hid hb1
    clear hb1
    rw [hd]
    go_wp2
    refine bodyPost_ret (v := .tuple #[.int .i64 0, .int .i64 3]) (by simp [results, Try.results11, go_sem]) rfl ⟨rfl, B1.out⟩
  have E : Hid ((if c < 1 then (3 : Int) else 0) = 0) := if_neg (by omega)
  have hd : decide (1 ≤ c) = true := by simp; omega
  rw [E.out]
  go_enter Try.func11, Try.ntmps11
  go_wp2_with fail
  refine (PL.out 1 (by omega) (by omega) _ (Below.refl _ _)).mono ?_
  rintro e w1 ⟨rfl, hb1⟩
  have B1 := Lib.hid hb1
  clear hb1
  rw [hd]
  go_wp2
  go_loopw [4] (fun i wr => ∃ n : Int, i = .int .i64 n ∧ 1 ≤ n ∧ n ≤ c ∧ Hid (n % 2 = 1) ∧ Hid (Below w.heap.size w wr)) (fun i _ => (c - intOf i).toNat)
  case atStart => exact ⟨1, rfl, by omega, h1, (by decide : (1 : Int) % 2 = 1), B1.out⟩
  case round =>
    obtain ⟨n, rfl, n0, n1, hodd, hB⟩ := hrel
    by_cases h2 : n + 2 ≤ c
    · have hd2 : decide (n + 2 ≤ c) = true := by simp; omega
      go_wp2_with fail
      refine (PL.out (n + 2) (by omega) (by omega) _ hB.out).mono ?_
      rintro e w2 ⟨rfl, hb2⟩
      have B2 := Lib.hid (bnext hB.out hb2)
      clear hb2
      rw [hd2]
      go_wp2
      go_roundw
      case rel => exact ⟨n + 2, rfl, by omega, h2, (by have := hodd.out; show _ = _; omega), B2.out⟩
      case measure => simp [intOf]; omega
    · have hd2 : decide (n + 2 ≤ c) = false := by simp; omega
      have E2 : Hid (oddQ c = n) := oddQ_at n0 n1 (by omega) hodd.out
      go_wp2_with fail
      refine (PL.out (n + 2) (by omega) (by omega) _ hB.out).mono ?_
      rintro e w2 ⟨rfl, hb2⟩
      have B2 := Lib.hid (bnext hB.out hb2)
      clear hb2
      rw [hd2]
      go_wp2
      refine bodyPost_ret (v := .tuple #[.int .i64 n, .int .i64 0]) (by simp [results, Try.results11, go_sem]) rfl ⟨by rw [E2.out], B2.out⟩
theorem fb_split {s k j b : Int} (h : fbB s k j b = false) : flB s k j = false ∨ (flB s k j = true ∧ inB b 30 250 = false) := by
  cases h1 : flB s k j
  · exact .inl rfl
  · exact .inr ⟨rfl, by simpa [fbB, h1] using h⟩
set_option maxRecDepth 100000 in
set_option maxHeartbeats 6400000 in
theorem fbricks_impl (s k j b : Int) (w : World) : Calls Try.prog 6 #[.int .i64 s, .int .i64 k, .int .i64 j, .int .i64 b] w fun e w' => e = .returned (.tuple #[.int .i64 (fbN s k j b), .int .i64 (fbC s k j b)]) ∧ Below w.heap.size w w' := by
  have VF := Lib.hid (flat_impl s k j)
  have bC : Hid (((w.alloc (.cells #[.int .i64 b] 2)).alloc (.cells #[.int .i64 s, .int .i64 k, .int .i64 j] 35)).cell? ⟨w.heap.size, 0, none⟩ = some (.int .i64 b)) := by
    exact range_old w (.cells #[.int .i64 s, .int .i64 k, .int .i64 j] 35) #[.int .i64 b] 2 0 _ rfl
  have bA' := TrBox.new (w.alloc (.cells #[.int .i64 b] 2)) s k j 35
  rw [World.size_alloc] at bA'
  have bA := Lib.hid bA'
  have bE := Lib.hid (balloc (balloc0 w (.cells #[.int .i64 b] 2)) (.cells #[.int .i64 s, .int .i64 k, .int .i64 j] 35))
  clear bA'
  rcases fb_cases s k j b with ⟨h1, h2, h3⟩ | h
  · rw [h2, h3]
    rcases fb_split h1 with h4 | ⟨h4, h5⟩
    · rw [h4] at VF
      clear h1 h2 h3 h4
      go_enter Try.func6, Try.ntmps6
      go_wp2_with fail
      refine (VF.out _).mono ?_
      rintro e w1 ⟨rfl, hb1⟩
      have A1 := Lib.hid (bA.out.later hb1)
      have C1 : Hid (w1.cell? ⟨w.heap.size, 0, none⟩ = some (.int .i64 b)) := (hb1.cell (World.block_lt_of_cell? _ _ bC.out)).trans bC.out
      have E1 := Lib.hid (bnext bE.out hb1)
      clear hb1
      obtain ⟨k0, k1, k2⟩ := A1.out
      have k3 := C1.out
      go_wp2
      refine bodyPost_ret (v := .tuple #[.int .i64 0, .int .i64 2]) (by simp [results, Try.results6, go_sem]) rfl ⟨rfl, E1.out⟩
    · rw [h4] at VF
      clear h1 h2 h3 h4
      go_enter Try.func6, Try.ntmps6
      go_wp2_with fail
      refine (VF.out _).mono ?_
      rintro e w1 ⟨rfl, hb1⟩
      have A1 := Lib.hid (bA.out.later hb1)
      have C1 : Hid (w1.cell? ⟨w.heap.size, 0, none⟩ = some (.int .i64 b)) := (hb1.cell (World.block_lt_of_cell? _ _ bC.out)).trans bC.out
      have E1 := Lib.hid (bnext bE.out hb1)
      clear hb1
      obtain ⟨k0, k1, k2⟩ := A1.out
      have k3 := C1.out
      go_wp2_with (go_at_call 10; refine (within_impl _ _ _ _).mono ?_; rintro e w' ⟨rfl, rfl⟩)
      try go_wp2
      refine bodyPost_ret (v := .tuple #[.int .i64 0, .int .i64 2]) (by simp [results, Try.results6, go_sem]) rfl ⟨rfl, E1.out⟩
  have h1 : fbB s k j b = true := by rcases h with h | h <;> exact h.1
  have GF := Lib.hid (fun wx hA hB => great_flat s k j b h1 (w.heap.size + 1) w.heap.size wx hA hB)
  have F : Hid (oddQ (fbc s k j b) = fbN s k j b ∧ (if fbc s k j b < 1 then (3 : Int) else 0) = fbC s k j b) := by
    rcases h with ⟨_, a, b, c⟩ | ⟨_, a, b, c⟩
    · exact ⟨by rw [c, oddQ_none a], by rw [b, if_pos a]⟩
    · exact ⟨c.symm, by rw [b, if_neg a]⟩
  rw [F.out.1, F.out.2] at GF
  simp only [fbB, Bool.and_eq_true] at h1
  obtain ⟨h4, h5⟩ := h1
  rw [h4] at VF
  obtain ⟨u, hu⟩ : ∃ u, fbN s k j b = u := ⟨_, rfl⟩
  obtain ⟨v, hv⟩ : ∃ u, fbC s k j b = u := ⟨_, rfl⟩
  rw [hu, hv] at GF ⊢
  clear h F h4 hu hv
  go_enter Try.func6, Try.ntmps6
  go_wp2_with fail
  refine (VF.out _).mono ?_
  rintro e w1 ⟨rfl, hb1⟩
  have A1 := Lib.hid (bA.out.later hb1)
  have C1 : Hid (w1.cell? ⟨w.heap.size, 0, none⟩ = some (.int .i64 b)) := (hb1.cell (World.block_lt_of_cell? _ _ bC.out)).trans bC.out
  have E1 := Lib.hid (bnext bE.out hb1)
  clear hb1
  obtain ⟨k0, k1, k2⟩ := A1.out
  have k3 := C1.out
  go_wp2_with (go_at_call 10; refine (within_impl _ _ _ _).mono ?_; rintro e w' ⟨rfl, rfl⟩)
  refine (GF.out _ A1.out C1.out).mono ?_
  rintro e w2 ⟨rfl, hb2⟩
  have E2 := Lib.hid (bnext E1.out hb2)
  clear hb2 k0 k1 k2 k3
  go_wp2
  refine bodyPost_ret (v := .tuple #[.int .i64 u, .int .i64 v]) (by simp [results, Try.results6, go_sem]) rfl ⟨rfl, E2.out⟩
end Go.Proofs.Ytdhikdaegmekbac
