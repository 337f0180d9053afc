/-
  Rings: whether some bricks have place, the greatest odd number that has, a ring with its bricks: contracts of the program.
-/
import Derived.Test.YtdhikdaegmekbabArR
namespace Go.Proofs.Ytdhikdaegmekbab
open Go.ChangeShapes Go.WideShapes Go.ChangeAt Go.RowKit Go.Joins

set_option maxRecDepth 100000 in
set_option maxHeartbeats 6400000 in
theorem place_impl (R D B J n : Int) (h : okR R D B J = true) (n0 : 1 ≤ n) (n1 : n ≤ 1000) (w : World) : Calls Try.prog 128 #[.agg #[.int .i64 R, .int .i64 D, .int .i64 B, .int .i64 J], .int .i64 n] w fun e w' => e = .returned (.bool (decide (n ≤ cR R B J))) ∧ Below w.heap.size w w' := by
  have PD := place_div h n
  obtain ⟨⟨r0, r1⟩, -, ⟨b0, b1⟩, j0, j1⟩ := okR_true.1 h
  clear h
  obtain ⟨N0, N1, E0, E1⟩ := half_facts R (by omega) (by omega)
  have LG := low_ge (355 * R) 113 (n * (B + J)) (by omega)
  have HF := Lib.hid (half_impl R (by omega) (by omega))
  obtain ⟨N, hN⟩ : ∃ N, lowN (355 * R) 113 = N := ⟨_, rfl⟩
  obtain ⟨E, hE⟩ : ∃ E, lowD (355 * R) 113 = E := ⟨_, rfl⟩
  rw [hN] at N0 N1 LG HF
  rw [hE] at E0 E1 LG HF
  clear hN hE
  have m0 : 0 ≤ n * (B + J) := Int.mul_nonneg (by omega) (by omega)
  have m1 : n * (B + J) ≤ 270000 := Int.le_trans (Int.mul_le_mul n1 (show B + J ≤ 270 by omega) (by omega) (by omega)) (by omega)
  have p0 : 0 ≤ n * (B + J) * E := Int.mul_nonneg m0 (by omega)
  have p1 : n * (B + J) * E ≤ 30510000 := Int.le_trans (Int.mul_le_mul m1 E1 (by omega) (by omega)) (by omega)
  have WH := Lib.hid (whole_impl (n * (B + J)))
  have CM := Lib.hid (arcmp_impl N E (n * (B + J)) 1 (by omega) (by omega))
  obtain ⟨q, hq⟩ : ∃ q, cmpI (N * 1) (n * (B + J) * E) = q := ⟨_, rfl⟩
  rw [hq] at CM
  have hq2 : 0 ≤ q ↔ n * (B + J) * E ≤ N := by
    rw [← hq]
    rcases Int.lt_trichotomy (N * 1) (n * (B + J) * E) with h | h | h
    · rw [cmpI_lt h]; omega
    · rw [cmpI_eq h]; omega
    · rw [cmpI_gt h]; omega
  have hd : decide (n ≤ cR R B J) = decide (0 ≤ q) := by
    have : n ≤ cR R B J ↔ 0 ≤ q := by rw [hq2, LG, ← PD]
    simp [this]
  rw [hd]
  clear hd hq hq2 LG PD p0 p1
  have FB := Lib.hid (FmBox.new w R D B J 60)
  have B0 := Lib.hid (balloc0 w (.cells #[.int .i64 R, .int .i64 D, .int .i64 B, .int .i64 J] 60))
  obtain ⟨wr, hwr⟩ : ∃ wr, w.alloc (.cells #[.int .i64 R, .int .i64 D, .int .i64 B, .int .i64 J] 60) = wr := ⟨_, rfl⟩
  rw [hwr] at FB B0
  have HW := Lib.hid hwr
  clear hwr
  by_cases hq : 0 ≤ q
  · go_enter Try.func128, Try.ntmps128
    go_wp2_with fail
    rw [HW.out]
    refine wp_region_held_drew (S := fun W => Below wr.heap.size wr W) (by kernel_rfl) ?_ (fun hHeld => ?_)
    · exact (Below.refl _ _).drew
    refine wpAnyH_take (i := 0) (v := .pointer (some ⟨w.heap.size, 0, none⟩)) rfl (by kernel_rfl) (by kernel_rfl) (by kernel_rfl) (fun _ _ _ h => h) (Or.inl ⟨by kernel_rfl, ?_⟩) (by assumption) ?_
    · intro w hSw
      try dsimp only at hSw
      skip
      go_simp
    try simp only [Act.put, List.setIfInBounds_toArray, List.set_cons_zero, List.set_cons_succ, List.getElem_toArray, List.getElem_cons_zero]
    refine wpAnyH_take (i := 1) (v := .int .i64 R) rfl (by kernel_rfl) (by kernel_rfl) (by kernel_rfl) (fun _ _ _ h => h) (Or.inl ⟨by kernel_rfl, ?_⟩) (by assumption) ?_
    · intro w hSw
      try dsimp only at hSw
      obtain ⟨k0, k1, k2, k3⟩ := FB.out.later hSw
      go_simp
    try simp only [Act.put, List.setIfInBounds_toArray, List.set_cons_zero, List.set_cons_succ, List.getElem_toArray, List.getElem_cons_zero, List.getElem_cons_succ]
    refine wpAnyH_take (i := 3) (v := .int .i64 n) rfl (by kernel_rfl) (by kernel_rfl) (by kernel_rfl) (fun _ _ _ h => h) (Or.inl ⟨by kernel_rfl, ?_⟩) (by assumption) ?_
    · intro w hSw
      try dsimp only at hSw
      skip
      go_simp
    try simp only [Act.put, List.setIfInBounds_toArray, List.set_cons_zero, List.set_cons_succ, List.getElem_toArray, List.getElem_cons_zero, List.getElem_cons_succ]
    refine wpAnyH_take (i := 4) (v := .pointer (some ⟨w.heap.size, 2, none⟩)) rfl (by kernel_rfl) (by kernel_rfl) (by kernel_rfl) (fun _ _ _ h => h) (Or.inl ⟨by kernel_rfl, ?_⟩) (by assumption) ?_
    · intro w hSw
      try dsimp only at hSw
      skip
      go_simp
    try simp only [Act.put, List.setIfInBounds_toArray, List.set_cons_zero, List.set_cons_succ, List.getElem_toArray, List.getElem_cons_zero, List.getElem_cons_succ]
    refine wpAnyH_take (i := 5) (v := .int .i64 B) rfl (by kernel_rfl) (by kernel_rfl) (by kernel_rfl) (fun _ _ _ h => h) (Or.inl ⟨by kernel_rfl, ?_⟩) (by assumption) ?_
    · intro w hSw
      try dsimp only at hSw
      obtain ⟨k0, k1, k2, k3⟩ := FB.out.later hSw
      go_simp
    try simp only [Act.put, List.setIfInBounds_toArray, List.set_cons_zero, List.set_cons_succ, List.getElem_toArray, List.getElem_cons_zero, List.getElem_cons_succ]
    refine wpAnyH_take (i := 6) (v := .pointer (some ⟨w.heap.size, 3, none⟩)) rfl (by kernel_rfl) (by kernel_rfl) (by kernel_rfl) (fun _ _ _ h => h) (Or.inl ⟨by kernel_rfl, ?_⟩) (by assumption) ?_
    · intro w hSw
      try dsimp only at hSw
      skip
      go_simp
    try simp only [Act.put, List.setIfInBounds_toArray, List.set_cons_zero, List.set_cons_succ, List.getElem_toArray, List.getElem_cons_zero, List.getElem_cons_succ]
    refine wpAnyH_take (i := 7) (v := .int .i64 J) rfl (by kernel_rfl) (by kernel_rfl) (by kernel_rfl) (fun _ _ _ h => h) (Or.inl ⟨by kernel_rfl, ?_⟩) (by assumption) ?_
    · intro w hSw
      try dsimp only at hSw
      obtain ⟨k0, k1, k2, k3⟩ := FB.out.later hSw
      go_simp
    try simp only [Act.put, List.setIfInBounds_toArray, List.set_cons_zero, List.set_cons_succ, List.getElem_toArray, List.getElem_cons_zero, List.getElem_cons_succ]
    refine wpAnyH_take (i := 8) (v := .int .i64 (B + J)) rfl (by kernel_rfl) (by kernel_rfl) (by kernel_rfl) (fun _ _ _ h => h) (Or.inl ⟨by kernel_rfl, ?_⟩) (by assumption) ?_
    · intro w hSw
      try dsimp only at hSw
      skip
      go_simp
      all_goals first | omega | exact IntWalk.i64_in _ (by omega)
    try simp only [Act.put, List.setIfInBounds_toArray, List.set_cons_zero, List.set_cons_succ, List.getElem_toArray, List.getElem_cons_zero, List.getElem_cons_succ]
    refine wpAnyH_take (i := 9) (v := .int .i64 (n * (B + J))) rfl (by kernel_rfl) (by kernel_rfl) (by kernel_rfl) (fun _ _ _ h => h) (Or.inl ⟨by kernel_rfl, ?_⟩) (by assumption) ?_
    · intro w hSw
      try dsimp only at hSw
      skip
      go_simp
      all_goals first | omega | exact IntWalk.i64_in _ (by omega)
    try simp only [Act.put, List.setIfInBounds_toArray, List.set_cons_zero, List.set_cons_succ, List.getElem_toArray, List.getElem_cons_zero, List.getElem_cons_succ]
    refine wpAnyH_ready (rs := [2]) (by kernel_rfl) (by simp) ?_
    refine AllReadyH.cons rfl (fun K hK => ?_) AllReadyH.nil
    go_simp
    go_at_call 97
    refine (HF.out _).mono ?_
    rintro e w1 ⟨rfl, hb⟩
    refine hK.out _ _ ?_ (fun hHeld' => ?_)
    · exact bnext hHeld hb
    clear hK K hHeld
    have hHeld := hHeld'
    clear hHeld'
    try simp only [Act.put, List.setIfInBounds_toArray, List.set_cons_zero, List.set_cons_succ, List.getElem_toArray, List.getElem_cons_zero, List.getElem_cons_succ]
    refine wpAnyH_ready (rs := [10]) (by kernel_rfl) (by simp) ?_
    refine AllReadyH.cons rfl (fun K hK => ?_) AllReadyH.nil
    go_simp
    go_at_call 102
    refine (WH.out _).mono ?_
    rintro e w2 ⟨rfl, hb⟩
    refine hK.out _ _ ?_ (fun hHeld' => ?_)
    · exact bnext hHeld hb
    clear hK K hHeld
    have hHeld := hHeld'
    clear hHeld'
    try simp only [Act.put, List.setIfInBounds_toArray, List.set_cons_zero, List.set_cons_succ, List.getElem_toArray, List.getElem_cons_zero, List.getElem_cons_succ]
    refine wpAnyH_ready (rs := [11]) (by kernel_rfl) (by simp) ?_
    refine AllReadyH.cons rfl (fun K hK => ?_) AllReadyH.nil
    go_simp
    go_at_call 101
    refine (CM.out _).mono ?_
    rintro e w3 ⟨rfl, hb⟩
    refine hK.out _ _ ?_ (fun hHeld' => ?_)
    · exact bnext hHeld hb
    clear hK K hHeld
    have hHeld := hHeld'
    clear hHeld'
    try simp only [Act.put, List.setIfInBounds_toArray, List.set_cons_zero, List.set_cons_succ, List.getElem_toArray, List.getElem_cons_zero, List.getElem_cons_succ]
    refine wpAnyH_take (i := 12) (v := .bool true) rfl (by kernel_rfl) (by kernel_rfl) (by kernel_rfl) (fun _ _ _ h => h) (Or.inl ⟨by kernel_rfl, ?_⟩) (by assumption) ?_
    · intro w hSw
      try dsimp only at hSw
      skip
      go_simp
      all_goals first | omega | exact IntWalk.i64_in _ (by omega)
    try simp only [Act.put, List.setIfInBounds_toArray, List.set_cons_zero, List.set_cons_succ, List.getElem_toArray, List.getElem_cons_zero, List.getElem_cons_succ]
    refine wpAnyH_take (i := 13) (v := .bool true) rfl (by kernel_rfl) (by kernel_rfl) (by kernel_rfl) (fun _ _ _ h => h) (Or.inl ⟨by kernel_rfl, ?_⟩) (by assumption) ?_
    · intro w hSw
      try dsimp only at hSw
      skip
      go_simp
    try simp only [Act.put, List.setIfInBounds_toArray, List.set_cons_zero, List.set_cons_succ, List.getElem_toArray, List.getElem_cons_zero, List.getElem_cons_succ]
    refine wpAnyH_done (by kernel_rfl) ?_ _
    go_wp2
    go_ret
    exact ⟨ret_bool (by simp; omega), bnext B0.out hHeld⟩
  · go_enter Try.func128, Try.ntmps128
    go_wp2_with fail
    rw [HW.out]
    refine wp_region_held_drew (S := fun W => Below wr.heap.size wr W) (by kernel_rfl) ?_ (fun hHeld => ?_)
    · exact (Below.refl _ _).drew
    refine wpAnyH_take (i := 0) (v := .pointer (some ⟨w.heap.size, 0, none⟩)) rfl (by kernel_rfl) (by kernel_rfl) (by kernel_rfl) (fun _ _ _ h => h) (Or.inl ⟨by kernel_rfl, ?_⟩) (by assumption) ?_
    · intro w hSw
      try dsimp only at hSw
      skip
      go_simp
    try simp only [Act.put, List.setIfInBounds_toArray, List.set_cons_zero, List.set_cons_succ, List.getElem_toArray, List.getElem_cons_zero]
    refine wpAnyH_take (i := 1) (v := .int .i64 R) rfl (by kernel_rfl) (by kernel_rfl) (by kernel_rfl) (fun _ _ _ h => h) (Or.inl ⟨by kernel_rfl, ?_⟩) (by assumption) ?_
    · intro w hSw
      try dsimp only at hSw
      obtain ⟨k0, k1, k2, k3⟩ := FB.out.later hSw
      go_simp
    try simp only [Act.put, List.setIfInBounds_toArray, List.set_cons_zero, List.set_cons_succ, List.getElem_toArray, List.getElem_cons_zero, List.getElem_cons_succ]
    refine wpAnyH_take (i := 3) (v := .int .i64 n) rfl (by kernel_rfl) (by kernel_rfl) (by kernel_rfl) (fun _ _ _ h => h) (Or.inl ⟨by kernel_rfl, ?_⟩) (by assumption) ?_
    · intro w hSw
      try dsimp only at hSw
      skip
      go_simp
    try simp only [Act.put, List.setIfInBounds_toArray, List.set_cons_zero, List.set_cons_succ, List.getElem_toArray, List.getElem_cons_zero, List.getElem_cons_succ]
    refine wpAnyH_take (i := 4) (v := .pointer (some ⟨w.heap.size, 2, none⟩)) rfl (by kernel_rfl) (by kernel_rfl) (by kernel_rfl) (fun _ _ _ h => h) (Or.inl ⟨by kernel_rfl, ?_⟩) (by assumption) ?_
    · intro w hSw
      try dsimp only at hSw
      skip
      go_simp
    try simp only [Act.put, List.setIfInBounds_toArray, List.set_cons_zero, List.set_cons_succ, List.getElem_toArray, List.getElem_cons_zero, List.getElem_cons_succ]
    refine wpAnyH_take (i := 5) (v := .int .i64 B) rfl (by kernel_rfl) (by kernel_rfl) (by kernel_rfl) (fun _ _ _ h => h) (Or.inl ⟨by kernel_rfl, ?_⟩) (by assumption) ?_
    · intro w hSw
      try dsimp only at hSw
      obtain ⟨k0, k1, k2, k3⟩ := FB.out.later hSw
      go_simp
    try simp only [Act.put, List.setIfInBounds_toArray, List.set_cons_zero, List.set_cons_succ, List.getElem_toArray, List.getElem_cons_zero, List.getElem_cons_succ]
    refine wpAnyH_take (i := 6) (v := .pointer (some ⟨w.heap.size, 3, none⟩)) rfl (by kernel_rfl) (by kernel_rfl) (by kernel_rfl) (fun _ _ _ h => h) (Or.inl ⟨by kernel_rfl, ?_⟩) (by assumption) ?_
    · intro w hSw
      try dsimp only at hSw
      skip
      go_simp
    try simp only [Act.put, List.setIfInBounds_toArray, List.set_cons_zero, List.set_cons_succ, List.getElem_toArray, List.getElem_cons_zero, List.getElem_cons_succ]
    refine wpAnyH_take (i := 7) (v := .int .i64 J) rfl (by kernel_rfl) (by kernel_rfl) (by kernel_rfl) (fun _ _ _ h => h) (Or.inl ⟨by kernel_rfl, ?_⟩) (by assumption) ?_
    · intro w hSw
      try dsimp only at hSw
      obtain ⟨k0, k1, k2, k3⟩ := FB.out.later hSw
      go_simp
    try simp only [Act.put, List.setIfInBounds_toArray, List.set_cons_zero, List.set_cons_succ, List.getElem_toArray, List.getElem_cons_zero, List.getElem_cons_succ]
    refine wpAnyH_take (i := 8) (v := .int .i64 (B + J)) rfl (by kernel_rfl) (by kernel_rfl) (by kernel_rfl) (fun _ _ _ h => h) (Or.inl ⟨by kernel_rfl, ?_⟩) (by assumption) ?_
    · intro w hSw
      try dsimp only at hSw
      skip
      go_simp
      all_goals first | omega | exact IntWalk.i64_in _ (by omega)
    try simp only [Act.put, List.setIfInBounds_toArray, List.set_cons_zero, List.set_cons_succ, List.getElem_toArray, List.getElem_cons_zero, List.getElem_cons_succ]
    refine wpAnyH_take (i := 9) (v := .int .i64 (n * (B + J))) rfl (by kernel_rfl) (by kernel_rfl) (by kernel_rfl) (fun _ _ _ h => h) (Or.inl ⟨by kernel_rfl, ?_⟩) (by assumption) ?_
    · intro w hSw
      try dsimp only at hSw
      skip
      go_simp
      all_goals first | omega | exact IntWalk.i64_in _ (by omega)
    try simp only [Act.put, List.setIfInBounds_toArray, List.set_cons_zero, List.set_cons_succ, List.getElem_toArray, List.getElem_cons_zero, List.getElem_cons_succ]
    refine wpAnyH_ready (rs := [2]) (by kernel_rfl) (by simp) ?_
    refine AllReadyH.cons rfl (fun K hK => ?_) AllReadyH.nil
    go_simp
    go_at_call 97
    refine (HF.out _).mono ?_
    rintro e w1 ⟨rfl, hb⟩
    refine hK.out _ _ ?_ (fun hHeld' => ?_)
    · exact bnext hHeld hb
    clear hK K hHeld
    have hHeld := hHeld'
    clear hHeld'
    try simp only [Act.put, List.setIfInBounds_toArray, List.set_cons_zero, List.set_cons_succ, List.getElem_toArray, List.getElem_cons_zero, List.getElem_cons_succ]
    refine wpAnyH_ready (rs := [10]) (by kernel_rfl) (by simp) ?_
    refine AllReadyH.cons rfl (fun K hK => ?_) AllReadyH.nil
    go_simp
    go_at_call 102
    refine (WH.out _).mono ?_
    rintro e w2 ⟨rfl, hb⟩
    refine hK.out _ _ ?_ (fun hHeld' => ?_)
    · exact bnext hHeld hb
    clear hK K hHeld
    have hHeld := hHeld'
    clear hHeld'
    try simp only [Act.put, List.setIfInBounds_toArray, List.set_cons_zero, List.set_cons_succ, List.getElem_toArray, List.getElem_cons_zero, List.getElem_cons_succ]
    refine wpAnyH_ready (rs := [11]) (by kernel_rfl) (by simp) ?_
    refine AllReadyH.cons rfl (fun K hK => ?_) AllReadyH.nil
    go_simp
    go_at_call 101
    refine (CM.out _).mono ?_
    rintro e w3 ⟨rfl, hb⟩
    refine hK.out _ _ ?_ (fun hHeld' => ?_)
    · exact bnext hHeld hb
    clear hK K hHeld
    have hHeld := hHeld'
    clear hHeld'
    try simp only [Act.put, List.setIfInBounds_toArray, List.set_cons_zero, List.set_cons_succ, List.getElem_toArray, List.getElem_cons_zero, List.getElem_cons_succ]
    refine wpAnyH_take (i := 12) (v := .bool false) rfl (by kernel_rfl) (by kernel_rfl) (by kernel_rfl) (fun _ _ _ h => h) (Or.inl ⟨by kernel_rfl, ?_⟩) (by assumption) ?_
    · intro w hSw
      try dsimp only at hSw
      skip
      go_simp
      all_goals first | omega | exact IntWalk.i64_in _ (by omega)
    try simp only [Act.put, List.setIfInBounds_toArray, List.set_cons_zero, List.set_cons_succ, List.getElem_toArray, List.getElem_cons_zero, List.getElem_cons_succ]
    refine wpAnyH_take (i := 13) (v := .bool false) rfl (by kernel_rfl) (by kernel_rfl) (by kernel_rfl) (fun _ _ _ h => h) (Or.inl ⟨by kernel_rfl, ?_⟩) (by assumption) ?_
    · intro w hSw
      try dsimp only at hSw
      skip
      go_simp
    try simp only [Act.put, List.setIfInBounds_toArray, List.set_cons_zero, List.set_cons_succ, List.getElem_toArray, List.getElem_cons_zero, List.getElem_cons_succ]
    refine wpAnyH_done (by kernel_rfl) ?_ _
    go_wp2
    go_ret
    exact ⟨ret_bool (by simp; omega), bnext B0.out hHeld⟩
set_option maxRecDepth 100000 in
set_option maxHeartbeats 3200000 in
theorem great_ring (R D B J : Int) (h : okR R D B J = true) (w : World) : Calls Try.prog 127 #[.func (.func 128) #[.agg #[.int .i64 R, .int .i64 D, .int .i64 B, .int .i64 J]] #[]] w fun e w' => e = .returned (.tuple #[.int .i64 (oddQ (cR R B J)), .int .i64 (if cR R B J < 1 then 3 else 0)]) ∧ Below w.heap.size w w' := by
  have PL := Lib.hid (fun (n : Int) (n0 : 1 ≤ n) (n1 : n ≤ 1000) wx => place_impl R D B J n h n0 n1 wx)
  obtain ⟨c0, c1⟩ := cR_range h
  obtain ⟨c, hc⟩ : ∃ c, cR R B J = c := ⟨_, rfl⟩
  rw [hc] at PL c0 c1 ⊢
  clear h hc
  by_cases h1 : 1 ≤ c
  case neg =>
    have E : Hid (oddQ c = 0 ∧ (if c < 1 then (3 : Int) else 0) = 3) := ⟨oddQ_none (by omega), if_pos (by omega)⟩
    have hd : decide (1 ≤ c) = false := by simp; omega
    rw [E.out.1, E.out.2]
    go_enter Try.func127, Try.ntmps127
    go_wp2_with fail
    refine (PL.out 1 (by omega) (by omega) _).mono ?_
    rintro e w1 ⟨rfl, hb1⟩
    have B1 := Lib.hid hb1
    clear hb1
    rw [hd]
    go_wp2
    refine bodyPost_ret (v := .tuple #[.int .i64 0, .int .i64 3]) (by simp [results, Try.results127, go_sem]) rfl ⟨rfl, B1.out⟩
  have E : Hid ((if c < 1 then (3 : Int) else 0) = 0) := if_neg (by omega)
  have hd : decide (1 ≤ c) = true := by simp; omega
  rw [E.out]
  go_enter Try.func127, Try.ntmps127
  go_wp2_with fail
  refine (PL.out 1 (by omega) (by omega) _).mono ?_
  rintro e w1 ⟨rfl, hb1⟩
  have B1 := Lib.hid hb1
  clear hb1
  rw [hd]
  go_wp2
  go_loopw [4] (fun i wr => ∃ n : Int, i = .int .i64 n ∧ 1 ≤ n ∧ n ≤ c ∧ Hid (n % 2 = 1) ∧ Hid (Below w.heap.size w wr)) (fun i _ => (c - intOf i).toNat)
  case atStart => exact ⟨1, rfl, by omega, h1, (by decide : (1 : Int) % 2 = 1), B1.out⟩
  case round =>
    obtain ⟨n, rfl, n0, n1, hodd, hB⟩ := hrel
    by_cases h2 : n + 2 ≤ c
    · have hd2 : decide (n + 2 ≤ c) = true := by simp; omega
      go_wp2_with fail
      refine (PL.out (n + 2) (by omega) (by omega) _).mono ?_
      rintro e w2 ⟨rfl, hb2⟩
      have B2 := Lib.hid (bnext hB.out hb2)
      clear hb2
      rw [hd2]
      go_wp2
      go_roundw
      case rel => exact ⟨n + 2, rfl, by omega, h2, (by have := hodd.out; show _ = _; omega), B2.out⟩
      case measure => simp [intOf]; omega
    · have hd2 : decide (n + 2 ≤ c) = false := by simp; omega
      have E2 : Hid (oddQ c = n) := oddQ_at n0 n1 (by omega) hodd.out
      go_wp2_with fail
      refine (PL.out (n + 2) (by omega) (by omega) _).mono ?_
      rintro e w2 ⟨rfl, hb2⟩
      have B2 := Lib.hid (bnext hB.out hb2)
      clear hb2
      rw [hd2]
      go_wp2
      refine bodyPost_ret (v := .tuple #[.int .i64 n, .int .i64 0]) (by simp [results, Try.results127, go_sem]) rfl ⟨by rw [E2.out], B2.out⟩
set_option maxRecDepth 100000 in
set_option maxHeartbeats 3200000 in
theorem lay_none (R D B J : Int) (h : ¬ rC R D B J = 0) (w : World) : Calls Try.prog 95 #[.agg #[.int .i64 R, .int .i64 D, .int .i64 B, .int .i64 J]] w fun e w' => e = .returned (.tuple #[.agg #[.int .i64 0, .int .i64 0, .int .i64 0, .int .i64 0, .int .i64 0], .int .i64 (rC R D B J)]) ∧ Below w.heap.size w w' := by
  rcases ring_cases R D B J with ⟨h1, h2, _⟩ | ⟨h1, h2, h3, _⟩ | ⟨_, _, h3, _⟩
  · rw [h2]
    clear h h2
    go_enter Try.func95, Try.ntmps95
    go_wp2_with fail
    refine (ring_valid_impl R D B J _).mono ?_
    rintro e w1 ⟨rfl, hb1⟩
    obtain ⟨hc1, hf1⟩ := bcell hb1
    have hz1 : w.heap.size + 1 < w1.heap.size := by have := hb1.size; simp at this; omega
    rw [h1]
    clear h1
    go_wp2
    refine bodyPost_ret (v := .tuple #[.agg #[.int .i64 0, .int .i64 0, .int .i64 0, .int .i64 0, .int .i64 0], .int .i64 1]) (by simp [results, Try.results95, go_sem, hc1]) rfl ⟨rfl, ?_⟩
    exact ((((((bnext (balloc (balloc0 _ _) _) hb1).setCell (by simp) _).setCell (by simp) _).setCell (by simp) _).setCell (by simp) _).setCell (by simp) _)
  · rw [h3]
    have GR := Lib.hid (great_ring R D B J h1)
    rw [oddQ_none h2, if_pos h2] at GR
    have VR := Lib.hid (ring_valid_impl R D B J)
    rw [h1] at VR
    clear h h1 h2 h3
    go_enter Try.func95, Try.ntmps95
    go_wp2_with fail
    refine (VR.out _).mono ?_
    rintro e w1 ⟨rfl, hb1⟩
    obtain ⟨hc1, hf1⟩ := bcell hb1
    have hz1 : w.heap.size + 1 < w1.heap.size := by have := hb1.size; simp at this; omega
    have B1 := Lib.hid (bnext (balloc (balloc0 w (.cells #[.int .i64 R, .int .i64 D, .int .i64 B, .int .i64 J] 60)) _) hb1)
    go_wp2_with fail
    refine (GR.out _).mono ?_
    rintro e w2 ⟨rfl, hb2⟩
    obtain ⟨hc2, hf2⟩ := bcell hb2
    have hz2 : w.heap.size + 1 < w2.heap.size := Nat.lt_of_lt_of_le hz1 hb2.size
    go_wp2
    refine bodyPost_ret (v := .tuple #[.agg #[.int .i64 0, .int .i64 0, .int .i64 0, .int .i64 0, .int .i64 0], .int .i64 3]) (by simp [results, Try.results95, go_sem, hc2, hc1, hz1]) rfl ⟨rfl, ?_⟩
    exact ((((((bnext B1.out hb2).setCell (by simp) _).setCell (by simp) _).setCell (by simp) _).setCell (by simp) _).setCell (by simp) _)
  · exact absurd h3 h
set_option maxRecDepth 100000 in
set_option maxHeartbeats 3200000 in
theorem lay_some (R D B J : Int) (h : rC R D B J = 0) (w : World) : Calls Try.prog 95 #[.agg #[.int .i64 R, .int .i64 D, .int .i64 B, .int .i64 J]] w fun e w' => e = .returned (.tuple #[.agg #[.int .i64 R, .int .i64 D, .int .i64 B, .int .i64 J, .int .i64 (rN R D B J)], .int .i64 0]) ∧ Below w.heap.size w w' := by
  rcases ring_cases R D B J with ⟨_, h2, _⟩ | ⟨_, _, h3, _⟩ | ⟨h1, h2, _, h4, _⟩
  · omega
  · omega
  · have GR := Lib.hid (great_ring R D B J h1)
    rw [if_neg (by omega), ← h4] at GR
    have VR := Lib.hid (ring_valid_impl R D B J)
    rw [h1] at VR
    obtain ⟨n, hn⟩ : ∃ n, rN R D B J = n := ⟨_, rfl⟩
    rw [hn] at GR ⊢
    clear h h1 h2 h4 hn
    have FB := Lib.hid (FmBox.new w R D B J 60)
    go_enter Try.func95, Try.ntmps95
    go_wp2_with fail
    refine (VR.out _).mono ?_
    rintro e w1 ⟨rfl, hb1⟩
    have B1 := Lib.hid (bnext (balloc (balloc0 w (.cells #[.int .i64 R, .int .i64 D, .int .i64 B, .int .i64 J] 60)) _) hb1)
    obtain ⟨hc1, hf1⟩ := bcell hb1
    have hz1 : w.heap.size + 1 < w1.heap.size := by have := hb1.size; simp at this; omega
    go_wp2_with fail
    refine (GR.out _).mono ?_
    rintro e w2 ⟨rfl, hb2⟩
    obtain ⟨hc2, hf2⟩ := bcell hb2
    have hz2 : w.heap.size + 1 < w2.heap.size := Nat.lt_of_lt_of_le hz1 hb2.size
    have B2 := Lib.hid (bnext B1.out hb2)
    obtain ⟨k0, k1, k2, k3⟩ := ((FB.out.later (balloc0 _ _)).later hb1).later hb2
    go_wp2
    refine bodyPost_ret (v := .tuple #[.agg #[.int .i64 R, .int .i64 D, .int .i64 B, .int .i64 J, .int .i64 n], .int .i64 0]) (by simp [results, Try.results95, go_sem, hc2, hc1, hz1]) rfl ⟨rfl, ?_⟩
    exact (((((B2.out.setCell (by simp) _).setCell (by simp) _).setCell (by simp) _).setCell (by simp) _).setCell (by simp) _)
end Go.Proofs.Ytdhikdaegmekbab
