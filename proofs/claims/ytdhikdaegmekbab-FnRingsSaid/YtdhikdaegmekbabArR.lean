/-
  Rings: what is valid, the place of some bricks, the number of bricks: contracts of the program and of the model.
-/
import Derived.Test.YtdhikdaegmekbabArB
namespace Go.Proofs.Ytdhikdaegmekbab
open Go.ChangeShapes Go.WideShapes Go.ChangeAt Go.RowKit Go.Joins
set_option maxHeartbeats 1600000 in
theorem clampedR (R D B J : Int) (w : World) : Calls Try.prog 129 #[.agg #[.int .i64 R, .int .i64 D, .int .i64 B, .int .i64 J]] w fun e w' => e = .returned (.agg #[.int .i64 (min (max R 50) 5000), .int .i64 (min (max D 50) 1000), .int .i64 (min (max B 30) 250), .int .i64 (min (max J 1) 20)]) ∧ Below w.heap.size w w' := by
    go_enter Try.func129, Try.ntmps129
    go_wp2
    all_goals
      refine bodyPost_ret (v := .agg #[.int .i64 _, .int .i64 _, .int .i64 _, .int .i64 _]) (by simp [results, Try.results129, go_sem]; exact ⟨rfl, rfl, rfl, rfl⟩) rfl ⟨agg4 (by omega) (by omega) (by omega) (by omega), ?_⟩
      exact ((Below.refl _ _).alloc (Nat.le_refl _) _).alloc (by simp) _
theorem clampedR_out0 (R D B J : Int) (w : World) (h0 : ¬ (50 ≤ R ∧ R ≤ 5000)) : Calls Try.prog 129 #[.agg #[.int .i64 R, .int .i64 D, .int .i64 B, .int .i64 J]] w fun e w' => ∃ R' D' B' J' : Int, e = .returned (.agg #[.int .i64 R', .int .i64 D', .int .i64 B', .int .i64 J']) ∧ ¬ R = R' ∧ Below w.heap.size w w' :=
  (clampedR R D B J w).mono fun _ _ ⟨he, hb⟩ => ⟨_, _, _, _, he.trans (agg4 rfl rfl rfl rfl), by omega, hb⟩
set_option maxRecDepth 100000 in
set_option maxHeartbeats 3200000 in
theorem vr_out0 (R D B J : Int) (w : World) (h0 : ¬ (50 ≤ R ∧ R ≤ 5000)) : Calls Try.prog 96 #[.agg #[.int .i64 R, .int .i64 D, .int .i64 B, .int .i64 J]] w fun e w' => e = .returned (.bool false) ∧ Below w.heap.size w w' := by
  have FB := Lib.hid (FmBox.new w R D B J 60)
  have CL := Lib.hid (fun wx => clampedR_out0 R D B J wx h0)
  have B0 := Lib.hid (balloc0 w (.cells #[.int .i64 R, .int .i64 D, .int .i64 B, .int .i64 J] 60))
  clear h0
  obtain ⟨wr, hwr⟩ : ∃ wr, w.alloc (.cells #[.int .i64 R, .int .i64 D, .int .i64 B, .int .i64 J] 60) = wr := ⟨_, rfl⟩
  rw [hwr] at FB B0
  have HW := Lib.hid hwr
  clear hwr
  go_enter Try.func96, Try.ntmps96
  go_wp2_with fail
  rw [HW.out]
  refine wp_region_held_drew (S := fun W => Below wr.heap.size wr W) (by kernel_rfl) ?_ (fun hHeld => ?_)
  · exact (Below.refl _ _).drew
  refine wpAnyH_take (i := 0) (v := .agg #[.int .i64 R, .int .i64 D, .int .i64 B, .int .i64 J]) rfl (by kernel_rfl) (by kernel_rfl) (by kernel_rfl) (fun _ _ _ h => h) (Or.inl ⟨by kernel_rfl, ?_⟩) (by assumption) ?_
  · intro w hSw
    try dsimp only at hSw
    obtain ⟨k0, k1, k2, k3⟩ := FB.out.later hSw
    go_simp
  try simp only [Act.put, List.setIfInBounds_toArray, List.set_cons_zero, List.set_cons_succ, List.getElem_toArray, List.getElem_cons_zero]
  refine wpAnyH_take (i := 1) (v := .agg #[.int .i64 R, .int .i64 D, .int .i64 B, .int .i64 J]) rfl (by kernel_rfl) (by kernel_rfl) (by kernel_rfl) (fun _ _ _ h => h) (Or.inl ⟨by kernel_rfl, ?_⟩) (by assumption) ?_
  · intro w hSw
    try dsimp only at hSw
    obtain ⟨k0, k1, k2, k3⟩ := FB.out.later hSw
    go_simp
  try simp only [Act.put, List.setIfInBounds_toArray, List.set_cons_zero, List.set_cons_succ, List.getElem_toArray, List.getElem_cons_zero, List.getElem_cons_succ]
  refine wpAnyH_ready (rs := [2]) (by kernel_rfl) (by simp) ?_
  refine AllReadyH.cons rfl (fun K hK => ?_) AllReadyH.nil
  go_simp
  go_at_call 129
  refine (CL.out _).mono ?_
  rintro e w1 ⟨R', D', B', J', rfl, hne, hb⟩
  refine hK.out _ _ ?_ (fun hHeld' => ?_)
  · exact bnext hHeld hb
  clear hK K hHeld
  have hHeld := hHeld'
  clear hHeld'
  try simp only [Act.put, List.setIfInBounds_toArray, List.set_cons_zero, List.set_cons_succ, List.getElem_toArray, List.getElem_cons_zero, List.getElem_cons_succ]
  refine wpAnyH_take (i := 3) (v := .bool false) rfl (by kernel_rfl) (by kernel_rfl) (by kernel_rfl) (fun _ _ _ h => h) (Or.inl ⟨by kernel_rfl, ?_⟩) (by assumption) ?_
  · intro w hSw
    try dsimp only at hSw
    skip
    go_simp
    all_goals first | omega | exact IntWalk.i64_in _ (by omega)
  try simp only [Act.put, List.setIfInBounds_toArray, List.set_cons_zero, List.set_cons_succ, List.getElem_toArray, List.getElem_cons_zero, List.getElem_cons_succ]
  refine wpAnyH_take (i := 4) (v := .bool false) rfl (by kernel_rfl) (by kernel_rfl) (by kernel_rfl) (fun _ _ _ h => h) (Or.inl ⟨by kernel_rfl, ?_⟩) (by assumption) ?_
  · intro w hSw
    try dsimp only at hSw
    skip
    go_simp
  try simp only [Act.put, List.setIfInBounds_toArray, List.set_cons_zero, List.set_cons_succ, List.getElem_toArray, List.getElem_cons_zero, List.getElem_cons_succ]
  refine wpAnyH_done (by kernel_rfl) ?_ _
  go_wp2
  go_ret
  exact ⟨rfl, bnext B0.out hHeld⟩
theorem clampedR_out1 (R D B J : Int) (w : World) (h0 : 50 ≤ R ∧ R ≤ 5000) (h1 : ¬ (50 ≤ D ∧ D ≤ 1000)) : Calls Try.prog 129 #[.agg #[.int .i64 R, .int .i64 D, .int .i64 B, .int .i64 J]] w fun e w' => ∃ D' B' J' : Int, e = .returned (.agg #[.int .i64 R, .int .i64 D', .int .i64 B', .int .i64 J']) ∧ ¬ D = D' ∧ Below w.heap.size w w' :=
  (clampedR R D B J w).mono fun _ _ ⟨he, hb⟩ => ⟨_, _, _, he.trans (agg4 (by omega) rfl rfl rfl), by omega, hb⟩
set_option maxRecDepth 100000 in
set_option maxHeartbeats 3200000 in
theorem vr_out1 (R D B J : Int) (w : World) (h0 : 50 ≤ R ∧ R ≤ 5000) (h1 : ¬ (50 ≤ D ∧ D ≤ 1000)) : Calls Try.prog 96 #[.agg #[.int .i64 R, .int .i64 D, .int .i64 B, .int .i64 J]] w fun e w' => e = .returned (.bool false) ∧ Below w.heap.size w w' := by
  have FB := Lib.hid (FmBox.new w R D B J 60)
  have CL := Lib.hid (fun wx => clampedR_out1 R D B J wx h0 h1)
  have B0 := Lib.hid (balloc0 w (.cells #[.int .i64 R, .int .i64 D, .int .i64 B, .int .i64 J] 60))
  clear h0 h1
  obtain ⟨wr, hwr⟩ : ∃ wr, w.alloc (.cells #[.int .i64 R, .int .i64 D, .int .i64 B, .int .i64 J] 60) = wr := ⟨_, rfl⟩
  rw [hwr] at FB B0
  have HW := Lib.hid hwr
  clear hwr
  go_enter Try.func96, Try.ntmps96
  go_wp2_with fail
  rw [HW.out]
  refine wp_region_held_drew (S := fun W => Below wr.heap.size wr W) (by kernel_rfl) ?_ (fun hHeld => ?_)
  · exact (Below.refl _ _).drew
  refine wpAnyH_take (i := 0) (v := .agg #[.int .i64 R, .int .i64 D, .int .i64 B, .int .i64 J]) rfl (by kernel_rfl) (by kernel_rfl) (by kernel_rfl) (fun _ _ _ h => h) (Or.inl ⟨by kernel_rfl, ?_⟩) (by assumption) ?_
  · intro w hSw
    try dsimp only at hSw
    obtain ⟨k0, k1, k2, k3⟩ := FB.out.later hSw
    go_simp
  try simp only [Act.put, List.setIfInBounds_toArray, List.set_cons_zero, List.set_cons_succ, List.getElem_toArray, List.getElem_cons_zero]
  refine wpAnyH_take (i := 1) (v := .agg #[.int .i64 R, .int .i64 D, .int .i64 B, .int .i64 J]) rfl (by kernel_rfl) (by kernel_rfl) (by kernel_rfl) (fun _ _ _ h => h) (Or.inl ⟨by kernel_rfl, ?_⟩) (by assumption) ?_
  · intro w hSw
    try dsimp only at hSw
    obtain ⟨k0, k1, k2, k3⟩ := FB.out.later hSw
    go_simp
  try simp only [Act.put, List.setIfInBounds_toArray, List.set_cons_zero, List.set_cons_succ, List.getElem_toArray, List.getElem_cons_zero, List.getElem_cons_succ]
  refine wpAnyH_ready (rs := [2]) (by kernel_rfl) (by simp) ?_
  refine AllReadyH.cons rfl (fun K hK => ?_) AllReadyH.nil
  go_simp
  go_at_call 129
  refine (CL.out _).mono ?_
  rintro e w1 ⟨D', B', J', rfl, hne, hb⟩
  refine hK.out _ _ ?_ (fun hHeld' => ?_)
  · exact bnext hHeld hb
  clear hK K hHeld
  have hHeld := hHeld'
  clear hHeld'
  try simp only [Act.put, List.setIfInBounds_toArray, List.set_cons_zero, List.set_cons_succ, List.getElem_toArray, List.getElem_cons_zero, List.getElem_cons_succ]
  refine wpAnyH_take (i := 3) (v := .bool false) rfl (by kernel_rfl) (by kernel_rfl) (by kernel_rfl) (fun _ _ _ h => h) (Or.inl ⟨by kernel_rfl, ?_⟩) (by assumption) ?_
  · intro w hSw
    try dsimp only at hSw
    skip
    go_simp
    all_goals first | omega | exact IntWalk.i64_in _ (by omega)
  try simp only [Act.put, List.setIfInBounds_toArray, List.set_cons_zero, List.set_cons_succ, List.getElem_toArray, List.getElem_cons_zero, List.getElem_cons_succ]
  refine wpAnyH_take (i := 4) (v := .bool false) rfl (by kernel_rfl) (by kernel_rfl) (by kernel_rfl) (fun _ _ _ h => h) (Or.inl ⟨by kernel_rfl, ?_⟩) (by assumption) ?_
  · intro w hSw
    try dsimp only at hSw
    skip
    go_simp
  try simp only [Act.put, List.setIfInBounds_toArray, List.set_cons_zero, List.set_cons_succ, List.getElem_toArray, List.getElem_cons_zero, List.getElem_cons_succ]
  refine wpAnyH_done (by kernel_rfl) ?_ _
  go_wp2
  go_ret
  exact ⟨rfl, bnext B0.out hHeld⟩
theorem clampedR_out2 (R D B J : Int) (w : World) (h0 : 50 ≤ R ∧ R ≤ 5000) (h1 : 50 ≤ D ∧ D ≤ 1000) (h2 : ¬ (30 ≤ B ∧ B ≤ 250)) : Calls Try.prog 129 #[.agg #[.int .i64 R, .int .i64 D, .int .i64 B, .int .i64 J]] w fun e w' => ∃ B' J' : Int, e = .returned (.agg #[.int .i64 R, .int .i64 D, .int .i64 B', .int .i64 J']) ∧ ¬ B = B' ∧ Below w.heap.size w w' :=
  (clampedR R D B J w).mono fun _ _ ⟨he, hb⟩ => ⟨_, _, he.trans (agg4 (by omega) (by omega) rfl rfl), by omega, hb⟩
set_option maxRecDepth 100000 in
set_option maxHeartbeats 3200000 in
theorem vr_out2 (R D B J : Int) (w : World) (h0 : 50 ≤ R ∧ R ≤ 5000) (h1 : 50 ≤ D ∧ D ≤ 1000) (h2 : ¬ (30 ≤ B ∧ B ≤ 250)) : Calls Try.prog 96 #[.agg #[.int .i64 R, .int .i64 D, .int .i64 B, .int .i64 J]] w fun e w' => e = .returned (.bool false) ∧ Below w.heap.size w w' := by
  have FB := Lib.hid (FmBox.new w R D B J 60)
  have CL := Lib.hid (fun wx => clampedR_out2 R D B J wx h0 h1 h2)
  have B0 := Lib.hid (balloc0 w (.cells #[.int .i64 R, .int .i64 D, .int .i64 B, .int .i64 J] 60))
  clear h0 h1 h2
  obtain ⟨wr, hwr⟩ : ∃ wr, w.alloc (.cells #[.int .i64 R, .int .i64 D, .int .i64 B, .int .i64 J] 60) = wr := ⟨_, rfl⟩
  rw [hwr] at FB B0
  have HW := Lib.hid hwr
  clear hwr
  go_enter Try.func96, Try.ntmps96
  go_wp2_with fail
  rw [HW.out]
  refine wp_region_held_drew (S := fun W => Below wr.heap.size wr W) (by kernel_rfl) ?_ (fun hHeld => ?_)
  · exact (Below.refl _ _).drew
  refine wpAnyH_take (i := 0) (v := .agg #[.int .i64 R, .int .i64 D, .int .i64 B, .int .i64 J]) rfl (by kernel_rfl) (by kernel_rfl) (by kernel_rfl) (fun _ _ _ h => h) (Or.inl ⟨by kernel_rfl, ?_⟩) (by assumption) ?_
  · intro w hSw
    try dsimp only at hSw
    obtain ⟨k0, k1, k2, k3⟩ := FB.out.later hSw
    go_simp
  try simp only [Act.put, List.setIfInBounds_toArray, List.set_cons_zero, List.set_cons_succ, List.getElem_toArray, List.getElem_cons_zero]
  refine wpAnyH_take (i := 1) (v := .agg #[.int .i64 R, .int .i64 D, .int .i64 B, .int .i64 J]) rfl (by kernel_rfl) (by kernel_rfl) (by kernel_rfl) (fun _ _ _ h => h) (Or.inl ⟨by kernel_rfl, ?_⟩) (by assumption) ?_
  · intro w hSw
    try dsimp only at hSw
    obtain ⟨k0, k1, k2, k3⟩ := FB.out.later hSw
    go_simp
  try simp only [Act.put, List.setIfInBounds_toArray, List.set_cons_zero, List.set_cons_succ, List.getElem_toArray, List.getElem_cons_zero, List.getElem_cons_succ]
  refine wpAnyH_ready (rs := [2]) (by kernel_rfl) (by simp) ?_
  refine AllReadyH.cons rfl (fun K hK => ?_) AllReadyH.nil
  go_simp
  go_at_call 129
  refine (CL.out _).mono ?_
  rintro e w1 ⟨B', J', rfl, hne, hb⟩
  refine hK.out _ _ ?_ (fun hHeld' => ?_)
  · exact bnext hHeld hb
  clear hK K hHeld
  have hHeld := hHeld'
  clear hHeld'
  try simp only [Act.put, List.setIfInBounds_toArray, List.set_cons_zero, List.set_cons_succ, List.getElem_toArray, List.getElem_cons_zero, List.getElem_cons_succ]
  refine wpAnyH_take (i := 3) (v := .bool false) rfl (by kernel_rfl) (by kernel_rfl) (by kernel_rfl) (fun _ _ _ h => h) (Or.inl ⟨by kernel_rfl, ?_⟩) (by assumption) ?_
  · intro w hSw
    try dsimp only at hSw
    skip
    go_simp
    all_goals first | omega | exact IntWalk.i64_in _ (by omega)
  try simp only [Act.put, List.setIfInBounds_toArray, List.set_cons_zero, List.set_cons_succ, List.getElem_toArray, List.getElem_cons_zero, List.getElem_cons_succ]
  refine wpAnyH_take (i := 4) (v := .bool false) rfl (by kernel_rfl) (by kernel_rfl) (by kernel_rfl) (fun _ _ _ h => h) (Or.inl ⟨by kernel_rfl, ?_⟩) (by assumption) ?_
  · intro w hSw
    try dsimp only at hSw
    skip
    go_simp
  try simp only [Act.put, List.setIfInBounds_toArray, List.set_cons_zero, List.set_cons_succ, List.getElem_toArray, List.getElem_cons_zero, List.getElem_cons_succ]
  refine wpAnyH_done (by kernel_rfl) ?_ _
  go_wp2
  go_ret
  exact ⟨rfl, bnext B0.out hHeld⟩
theorem clampedR_out3 (R D B J : Int) (w : World) (h0 : 50 ≤ R ∧ R ≤ 5000) (h1 : 50 ≤ D ∧ D ≤ 1000) (h2 : 30 ≤ B ∧ B ≤ 250) (h3 : ¬ (1 ≤ J ∧ J ≤ 20)) : Calls Try.prog 129 #[.agg #[.int .i64 R, .int .i64 D, .int .i64 B, .int .i64 J]] w fun e w' => ∃ J' : Int, e = .returned (.agg #[.int .i64 R, .int .i64 D, .int .i64 B, .int .i64 J']) ∧ ¬ J = J' ∧ Below w.heap.size w w' :=
  (clampedR R D B J w).mono fun _ _ ⟨he, hb⟩ => ⟨_, he.trans (agg4 (by omega) (by omega) (by omega) rfl), by omega, hb⟩
set_option maxRecDepth 100000 in
set_option maxHeartbeats 3200000 in
theorem vr_out3 (R D B J : Int) (w : World) (h0 : 50 ≤ R ∧ R ≤ 5000) (h1 : 50 ≤ D ∧ D ≤ 1000) (h2 : 30 ≤ B ∧ B ≤ 250) (h3 : ¬ (1 ≤ J ∧ J ≤ 20)) : Calls Try.prog 96 #[.agg #[.int .i64 R, .int .i64 D, .int .i64 B, .int .i64 J]] w fun e w' => e = .returned (.bool false) ∧ Below w.heap.size w w' := by
  have FB := Lib.hid (FmBox.new w R D B J 60)
  have CL := Lib.hid (fun wx => clampedR_out3 R D B J wx h0 h1 h2 h3)
  have B0 := Lib.hid (balloc0 w (.cells #[.int .i64 R, .int .i64 D, .int .i64 B, .int .i64 J] 60))
  clear h0 h1 h2 h3
  obtain ⟨wr, hwr⟩ : ∃ wr, w.alloc (.cells #[.int .i64 R, .int .i64 D, .int .i64 B, .int .i64 J] 60) = wr := ⟨_, rfl⟩
  rw [hwr] at FB B0
  have HW := Lib.hid hwr
  clear hwr
  go_enter Try.func96, Try.ntmps96
  go_wp2_with fail
  rw [HW.out]
  refine wp_region_held_drew (S := fun W => Below wr.heap.size wr W) (by kernel_rfl) ?_ (fun hHeld => ?_)
  · exact (Below.refl _ _).drew
  refine wpAnyH_take (i := 0) (v := .agg #[.int .i64 R, .int .i64 D, .int .i64 B, .int .i64 J]) rfl (by kernel_rfl) (by kernel_rfl) (by kernel_rfl) (fun _ _ _ h => h) (Or.inl ⟨by kernel_rfl, ?_⟩) (by assumption) ?_
  · intro w hSw
    try dsimp only at hSw
    obtain ⟨k0, k1, k2, k3⟩ := FB.out.later hSw
    go_simp
  try simp only [Act.put, List.setIfInBounds_toArray, List.set_cons_zero, List.set_cons_succ, List.getElem_toArray, List.getElem_cons_zero]
  refine wpAnyH_take (i := 1) (v := .agg #[.int .i64 R, .int .i64 D, .int .i64 B, .int .i64 J]) rfl (by kernel_rfl) (by kernel_rfl) (by kernel_rfl) (fun _ _ _ h => h) (Or.inl ⟨by kernel_rfl, ?_⟩) (by assumption) ?_
  · intro w hSw
    try dsimp only at hSw
    obtain ⟨k0, k1, k2, k3⟩ := FB.out.later hSw
    go_simp
  try simp only [Act.put, List.setIfInBounds_toArray, List.set_cons_zero, List.set_cons_succ, List.getElem_toArray, List.getElem_cons_zero, List.getElem_cons_succ]
  refine wpAnyH_ready (rs := [2]) (by kernel_rfl) (by simp) ?_
  refine AllReadyH.cons rfl (fun K hK => ?_) AllReadyH.nil
  go_simp
  go_at_call 129
  refine (CL.out _).mono ?_
  rintro e w1 ⟨J', rfl, hne, hb⟩
  refine hK.out _ _ ?_ (fun hHeld' => ?_)
  · exact bnext hHeld hb
  clear hK K hHeld
  have hHeld := hHeld'
  clear hHeld'
  try simp only [Act.put, List.setIfInBounds_toArray, List.set_cons_zero, List.set_cons_succ, List.getElem_toArray, List.getElem_cons_zero, List.getElem_cons_succ]
  refine wpAnyH_take (i := 3) (v := .bool false) rfl (by kernel_rfl) (by kernel_rfl) (by kernel_rfl) (fun _ _ _ h => h) (Or.inl ⟨by kernel_rfl, ?_⟩) (by assumption) ?_
  · intro w hSw
    try dsimp only at hSw
    skip
    go_simp
    all_goals first | omega | exact IntWalk.i64_in _ (by omega)
  try simp only [Act.put, List.setIfInBounds_toArray, List.set_cons_zero, List.set_cons_succ, List.getElem_toArray, List.getElem_cons_zero, List.getElem_cons_succ]
  refine wpAnyH_take (i := 4) (v := .bool false) rfl (by kernel_rfl) (by kernel_rfl) (by kernel_rfl) (fun _ _ _ h => h) (Or.inl ⟨by kernel_rfl, ?_⟩) (by assumption) ?_
  · intro w hSw
    try dsimp only at hSw
    skip
    go_simp
  try simp only [Act.put, List.setIfInBounds_toArray, List.set_cons_zero, List.set_cons_succ, List.getElem_toArray, List.getElem_cons_zero, List.getElem_cons_succ]
  refine wpAnyH_done (by kernel_rfl) ?_ _
  go_wp2
  go_ret
  exact ⟨rfl, bnext B0.out hHeld⟩
theorem clampedR_in (R D B J : Int) (w : World) (h0 : 50 ≤ R ∧ R ≤ 5000) (h1 : 50 ≤ D ∧ D ≤ 1000) (h2 : 30 ≤ B ∧ B ≤ 250) (h3 : 1 ≤ J ∧ J ≤ 20) : Calls Try.prog 129 #[.agg #[.int .i64 R, .int .i64 D, .int .i64 B, .int .i64 J]] w fun e w' => e = .returned (.agg #[.int .i64 R, .int .i64 D, .int .i64 B, .int .i64 J]) ∧ Below w.heap.size w w' :=
  (clampedR R D B J w).mono fun _ _ ⟨he, hb⟩ => ⟨he.trans (agg4 (by omega) (by omega) (by omega) (by omega)), hb⟩
set_option maxRecDepth 100000 in
set_option maxHeartbeats 3200000 in
theorem vr_in (R D B J : Int) (w : World) (h0 : 50 ≤ R ∧ R ≤ 5000) (h1 : 50 ≤ D ∧ D ≤ 1000) (h2 : 30 ≤ B ∧ B ≤ 250) (h3 : 1 ≤ J ∧ J ≤ 20) : Calls Try.prog 96 #[.agg #[.int .i64 R, .int .i64 D, .int .i64 B, .int .i64 J]] w fun e w' => e = .returned (.bool true) ∧ Below w.heap.size w w' := by
  have FB := Lib.hid (FmBox.new w R D B J 60)
  have CL := Lib.hid (fun wx => clampedR_in R D B J wx h0 h1 h2 h3)
  have B0 := Lib.hid (balloc0 w (.cells #[.int .i64 R, .int .i64 D, .int .i64 B, .int .i64 J] 60))
  clear h0 h1 h2 h3
  obtain ⟨wr, hwr⟩ : ∃ wr, w.alloc (.cells #[.int .i64 R, .int .i64 D, .int .i64 B, .int .i64 J] 60) = wr := ⟨_, rfl⟩
  rw [hwr] at FB B0
  have HW := Lib.hid hwr
  clear hwr
  go_enter Try.func96, Try.ntmps96
  go_wp2_with fail
  rw [HW.out]
  refine wp_region_held_drew (S := fun W => Below wr.heap.size wr W) (by kernel_rfl) ?_ (fun hHeld => ?_)
  · exact (Below.refl _ _).drew
  refine wpAnyH_take (i := 0) (v := .agg #[.int .i64 R, .int .i64 D, .int .i64 B, .int .i64 J]) rfl (by kernel_rfl) (by kernel_rfl) (by kernel_rfl) (fun _ _ _ h => h) (Or.inl ⟨by kernel_rfl, ?_⟩) (by assumption) ?_
  · intro w hSw
    try dsimp only at hSw
    obtain ⟨k0, k1, k2, k3⟩ := FB.out.later hSw
    go_simp
  try simp only [Act.put, List.setIfInBounds_toArray, List.set_cons_zero, List.set_cons_succ, List.getElem_toArray, List.getElem_cons_zero]
  refine wpAnyH_take (i := 1) (v := .agg #[.int .i64 R, .int .i64 D, .int .i64 B, .int .i64 J]) rfl (by kernel_rfl) (by kernel_rfl) (by kernel_rfl) (fun _ _ _ h => h) (Or.inl ⟨by kernel_rfl, ?_⟩) (by assumption) ?_
  · intro w hSw
    try dsimp only at hSw
    obtain ⟨k0, k1, k2, k3⟩ := FB.out.later hSw
    go_simp
  try simp only [Act.put, List.setIfInBounds_toArray, List.set_cons_zero, List.set_cons_succ, List.getElem_toArray, List.getElem_cons_zero, List.getElem_cons_succ]
  refine wpAnyH_ready (rs := [2]) (by kernel_rfl) (by simp) ?_
  refine AllReadyH.cons rfl (fun K hK => ?_) AllReadyH.nil
  go_simp
  go_at_call 129
  refine (CL.out _).mono ?_
  rintro e w1 ⟨rfl, hb⟩
  refine hK.out _ _ ?_ (fun hHeld' => ?_)
  · exact bnext hHeld hb
  clear hK K hHeld
  have hHeld := hHeld'
  clear hHeld'
  try simp only [Act.put, List.setIfInBounds_toArray, List.set_cons_zero, List.set_cons_succ, List.getElem_toArray, List.getElem_cons_zero, List.getElem_cons_succ]
  refine wpAnyH_take (i := 3) (v := .bool true) rfl (by kernel_rfl) (by kernel_rfl) (by kernel_rfl) (fun _ _ _ h => h) (Or.inl ⟨by kernel_rfl, ?_⟩) (by assumption) ?_
  · intro w hSw
    try dsimp only at hSw
    skip
    go_simp
    all_goals first | omega | exact IntWalk.i64_in _ (by omega)
  try simp only [Act.put, List.setIfInBounds_toArray, List.set_cons_zero, List.set_cons_succ, List.getElem_toArray, List.getElem_cons_zero, List.getElem_cons_succ]
  refine wpAnyH_take (i := 4) (v := .bool true) rfl (by kernel_rfl) (by kernel_rfl) (by kernel_rfl) (fun _ _ _ h => h) (Or.inl ⟨by kernel_rfl, ?_⟩) (by assumption) ?_
  · intro w hSw
    try dsimp only at hSw
    skip
    go_simp
  try simp only [Act.put, List.setIfInBounds_toArray, List.set_cons_zero, List.set_cons_succ, List.getElem_toArray, List.getElem_cons_zero, List.getElem_cons_succ]
  refine wpAnyH_done (by kernel_rfl) ?_ _
  go_wp2
  go_ret
  exact ⟨rfl, bnext B0.out hHeld⟩
theorem ring_valid_impl (R D B J : Int) (w : World) : Calls Try.prog 96 #[.agg #[.int .i64 R, .int .i64 D, .int .i64 B, .int .i64 J]] w fun e w' => e = .returned (.bool (okR R D B J)) ∧ Below w.heap.size w w' := by
  by_cases h0 : 50 ≤ R ∧ R ≤ 5000
  · by_cases h1 : 50 ≤ D ∧ D ≤ 1000
    · by_cases h2 : 30 ≤ B ∧ B ≤ 250
      · by_cases h3 : 1 ≤ J ∧ J ≤ 20
        · have e : okR R D B J = true := by rw [okR_true]; omega
          rw [e]; exact vr_in R D B J w h0 h1 h2 h3
        · have e : okR R D B J = false := by rw [Bool.eq_false_iff, ne_eq, okR_true]; omega
          rw [e]; exact vr_out3 R D B J w h0 h1 h2 h3
      · have e : okR R D B J = false := by rw [Bool.eq_false_iff, ne_eq, okR_true]; omega
        rw [e]; exact vr_out2 R D B J w h0 h1 h2
    · have e : okR R D B J = false := by rw [Bool.eq_false_iff, ne_eq, okR_true]; omega
      rw [e]; exact vr_out1 R D B J w h0 h1
  · have e : okR R D B J = false := by rw [Bool.eq_false_iff, ne_eq, okR_true]; omega
    rw [e]; exact vr_out0 R D B J w h0
end Go.Proofs.Ytdhikdaegmekbab
