/-
  Joints and tapers of a ring with its bricks: contracts of the program. A box and two results that are stored beside calls.
-/
import Derived.Test.YtdhikdaegmekbabArL
import Derived.Test.YtdhikdaegmekbabSetM
namespace Go.Proofs.Ytdhikdaegmekbab
open Go.ChangeShapes Go.WideShapes Go.ChangeAt Go.RowKit Go.Joins

/-- A box with its cells in block g, two results in the blocks a and b. -/
def ArB (w : World) (g : Nat) (V : List Value) (a b : Nat) (W : World) : Prop := Below w.heap.size w W ∧ W.rangeAt g 0 V ∧ (W.there a 0 2 ∧ W.there b 0 2) ∧ (w.heap.size ≤ a ∧ w.heap.size ≤ b ∧ a ≠ g ∧ b ≠ g ∧ a ≠ b)
theorem ArB.later {w W W' : World} {g a b : Nat} {V : List Value} (h : ArB w g V a b W) (hb : Below W.heap.size W W') : ArB w g V a b W' :=
  ⟨bnext h.1 hb, range_below h.2.1 hb, ⟨there_below h.2.2.1.1 hb, there_below h.2.2.1.2 hb⟩, h.2.2.2⟩
theorem ArB.drew {w W : World} {g a b : Nat} {V : List Value} (h : ArB w g V a b W) : ArB w g V a b W.drew := ⟨h.1.drew, h.2.1, h.2.2.1, h.2.2.2⟩
theorem there_other {W : World} {a c k n : Nat} {v : Value} (h : W.there a 0 n) (hne : a ≠ c) : (W.setCell ⟨c, k, none⟩ v).there a 0 n := fun j hj =>
  ⟨by rw [World.cell?_setCell_other _ _ _ _ (fun e => hne (by cases e; rfl))]; exact (h j hj).1, by rw [World.frozen?_setCell]; exact (h j hj).2⟩
theorem range_other {W : World} {g c k : Nat} {v : Value} {V : List Value} (h : W.rangeAt g 0 V) (hne : g ≠ c) : (W.setCell ⟨c, k, none⟩ v).rangeAt g 0 V := fun j x hx => by
  rw [World.cell?_setCell_other _ _ _ _ (fun e => hne (by cases e; rfl))]; exact h j x hx
theorem ArB.seta {w W : World} {g a b k : Nat} {v : Value} {V : List Value} (h : ArB w g V a b W) : ArB w g V a b (W.setCell ⟨a, k, none⟩ v) :=
  ⟨h.1.setCell h.2.2.2.1 _, range_other h.2.1 (Ne.symm h.2.2.2.2.2.1), ⟨there_setM h.2.2.1.1 _ _, there_other h.2.2.1.2 (Ne.symm h.2.2.2.2.2.2.2)⟩, h.2.2.2⟩
theorem ArB.setb {w W : World} {g a b k : Nat} {v : Value} {V : List Value} (h : ArB w g V a b W) : ArB w g V a b (W.setCell ⟨b, k, none⟩ v) :=
  ⟨h.1.setCell h.2.2.2.2.1 _, range_other h.2.1 (Ne.symm h.2.2.2.2.2.2.1), ⟨there_other h.2.2.1.1 h.2.2.2.2.2.2.2, there_setM h.2.2.1.2 _ _⟩, h.2.2.2⟩
theorem low_over (a b n : Int) (hb : 0 < b) : lowN (lowN a b) (n * lowD a b) = lowN a (n * b) ∧ lowD (lowN a b) (n * lowD a b) = lowD a (n * b) := by
  have h := low_step a b 0 n hb
  simpa using h
set_option maxRecDepth 100000 in
set_option maxHeartbeats 6400000 in
theorem joint_impl (R D B J n X : Int) (b0 : 0 ≤ B ∧ B ≤ 250) (n0 : 1 ≤ n ∧ n ≤ 506) (x0 : 0 ≤ X ∧ X ≤ 6000) (w : World) : Calls Try.prog 130 #[.agg #[.int .i64 R, .int .i64 D, .int .i64 B, .int .i64 J, .int .i64 n], .int .i64 X] w fun e w' => e = .returned (.agg #[.int .i64 (jN X B n), .int .i64 (jD X B n)]) ∧ Below w.heap.size w w' := by
  obtain ⟨b0, b1⟩ := b0
  obtain ⟨n0, n1⟩ := n0
  obtain ⟨x0, x1⟩ := x0
  obtain ⟨N0, N1, E0, E1⟩ := half_facts X x0 x1
  have LS := low_step (355 * X) 113 (n * B) n (by omega)
  have HF := Lib.hid (half_impl X x0 x1)
  obtain ⟨N, hN⟩ : ∃ N, lowN (355 * X) 113 = N := ⟨_, rfl⟩
  obtain ⟨E, hE⟩ : ∃ E, lowD (355 * X) 113 = E := ⟨_, rfl⟩
  rw [hN] at N0 N1 LS HF
  rw [hE] at E0 E1 LS HF
  clear hN hE
  have m0 : 0 ≤ n * B := Int.mul_nonneg (by omega) b0
  have m1 : n * B ≤ 126500 := Int.le_trans (Int.mul_le_mul n1 b1 b0 (by omega)) (by omega)
  have p0 : 0 ≤ n * B * E := Int.mul_nonneg m0 (by omega)
  have p1 : n * B * E ≤ 14294500 := Int.le_trans (Int.mul_le_mul m1 E1 (by omega) (by omega)) (by omega)
  have q0 : 1 ≤ n * E := Int.mul_pos (by omega) E0
  have q1 : n * E ≤ 57178 := Int.le_trans (Int.mul_le_mul n1 E1 (by omega) (by omega)) (by omega)
  have MI := Lib.hid (minus_impl N E (n * B) (N - n * B * E) rfl (by omega) (by omega))
  have OV := Lib.hid (over_impl (N - n * B * E) E n (by omega) (by omega))
  have e1 : 355 * X - n * B * 113 = 355 * X - 113 * n * B := by rw [Int.mul_comm (n * B) 113, Int.mul_assoc]
  have e2 : n * 113 = 113 * n := Int.mul_comm ..
  rw [e1, e2] at LS
  rw [LS.1, LS.2] at OV
  rw [show lowN (355 * X - 113 * n * B) (113 * n) = jN X B n from rfl, show lowD (355 * X - 113 * n * B) (113 * n) = jD X B n from rfl] at OV
  obtain ⟨Z, hZ⟩ : ∃ Z, N - n * B * E = Z := ⟨_, rfl⟩
  obtain ⟨U, hU⟩ : ∃ U, jN X B n = U := ⟨_, rfl⟩
  obtain ⟨V, hV⟩ : ∃ V, jD X B n = V := ⟨_, rfl⟩
  rw [hZ] at MI OV
  rw [hU, hV] at OV ⊢
  clear hZ hU hV LS e1 e2 p0 p1 q0 q1 N0 N1 E0 E1
  have G0 := Lib.hid (World.rangeAt_alloc (range_new w #[.int .i64 R, .int .i64 D, .int .i64 B, .int .i64 J, .int .i64 n] 110) (.cells #[.int .i64 0, .int .i64 0] 26))
  have T0' := there_new (w.alloc (.cells #[.int .i64 R, .int .i64 D, .int .i64 B, .int .i64 J, .int .i64 n] 110)) #[.int .i64 0, .int .i64 0] 26 2 rfl
  rw [World.size_alloc] at T0'
  have T0 := Lib.hid T0'
  have E0 := Lib.hid (balloc (balloc0 w (.cells #[.int .i64 R, .int .i64 D, .int .i64 B, .int .i64 J, .int .i64 n] 110)) (.cells #[.int .i64 0, .int .i64 0] 26))
  clear T0'
  go_enter Try.func130, Try.ntmps130
  go_wp2_with fail
  refine wp_region_held_drew (S := fun W => Below w.heap.size w W ∧ W.rangeAt w.heap.size 0 [.int .i64 R, .int .i64 D, .int .i64 B, .int .i64 J, .int .i64 n] ∧ W.there (w.heap.size + 1) 0 2) (by kernel_rfl) ?_ (fun hHeld => ?_)
  · exact ⟨E0.out.drew, G0.out, T0.out⟩
  refine wpAnyH_take (i := 0) (v := .int .i64 X) rfl (by kernel_rfl) (by kernel_rfl) (by kernel_rfl) (fun _ _ _ h => h) (Or.inl ⟨by kernel_rfl, ?_⟩) (by assumption) ?_
  · intro w hSw
    try dsimp only at hSw
    skip
    go_simp
  try simp only [Act.put, List.setIfInBounds_toArray, List.set_cons_zero, List.set_cons_succ, List.getElem_toArray, List.getElem_cons_zero]
  refine wpAnyH_take (i := 2) (v := .pointer (some ⟨w.heap.size, 4, none⟩)) rfl (by kernel_rfl) (by kernel_rfl) (by kernel_rfl) (fun _ _ _ h => h) (Or.inl ⟨by kernel_rfl, ?_⟩) (by assumption) ?_
  · intro w hSw
    try dsimp only at hSw
    skip
    go_simp
  try simp only [Act.put, List.setIfInBounds_toArray, List.set_cons_zero, List.set_cons_succ, List.getElem_toArray, List.getElem_cons_zero, List.getElem_cons_succ]
  refine wpAnyH_take (i := 3) (v := .int .i64 n) rfl (by kernel_rfl) (by kernel_rfl) (by kernel_rfl) (fun _ _ _ h => h) (Or.inl ⟨by kernel_rfl, ?_⟩) (by assumption) ?_
  · intro w hSw
    try dsimp only at hSw
    obtain ⟨-, RG, -⟩ := hSw
    have k0 := RG 0 _ rfl
    simp only [Nat.zero_add] at k0
    have k1 := RG 1 _ rfl
    simp only [Nat.zero_add] at k1
    have k2 := RG 2 _ rfl
    simp only [Nat.zero_add] at k2
    have k3 := RG 3 _ rfl
    simp only [Nat.zero_add] at k3
    have k4 := RG 4 _ rfl
    simp only [Nat.zero_add] at k4
    clear RG
    go_simp
  try simp only [Act.put, List.setIfInBounds_toArray, List.set_cons_zero, List.set_cons_succ, List.getElem_toArray, List.getElem_cons_zero, List.getElem_cons_succ]
  refine wpAnyH_take (i := 4) (v := .pointer (some ⟨w.heap.size, 0, none⟩)) rfl (by kernel_rfl) (by kernel_rfl) (by kernel_rfl) (fun _ _ _ h => h) (Or.inl ⟨by kernel_rfl, ?_⟩) (by assumption) ?_
  · intro w hSw
    try dsimp only at hSw
    skip
    go_simp
  try simp only [Act.put, List.setIfInBounds_toArray, List.set_cons_zero, List.set_cons_succ, List.getElem_toArray, List.getElem_cons_zero, List.getElem_cons_succ]
  refine wpAnyH_take (i := 5) (v := .pointer (some ⟨w.heap.size, 2, none⟩)) rfl (by kernel_rfl) (by kernel_rfl) (by kernel_rfl) (fun _ _ _ h => h) (Or.inl ⟨by kernel_rfl, ?_⟩) (by assumption) ?_
  · intro w hSw
    try dsimp only at hSw
    skip
    go_simp
  try simp only [Act.put, List.setIfInBounds_toArray, List.set_cons_zero, List.set_cons_succ, List.getElem_toArray, List.getElem_cons_zero, List.getElem_cons_succ]
  refine wpAnyH_take (i := 6) (v := .int .i64 B) rfl (by kernel_rfl) (by kernel_rfl) (by kernel_rfl) (fun _ _ _ h => h) (Or.inl ⟨by kernel_rfl, ?_⟩) (by assumption) ?_
  · intro w hSw
    try dsimp only at hSw
    obtain ⟨-, RG, -⟩ := hSw
    have k0 := RG 0 _ rfl
    simp only [Nat.zero_add] at k0
    have k1 := RG 1 _ rfl
    simp only [Nat.zero_add] at k1
    have k2 := RG 2 _ rfl
    simp only [Nat.zero_add] at k2
    have k3 := RG 3 _ rfl
    simp only [Nat.zero_add] at k3
    have k4 := RG 4 _ rfl
    simp only [Nat.zero_add] at k4
    clear RG
    go_simp
  try simp only [Act.put, List.setIfInBounds_toArray, List.set_cons_zero, List.set_cons_succ, List.getElem_toArray, List.getElem_cons_zero, List.getElem_cons_succ]
  refine wpAnyH_take (i := 7) (v := .int .i64 (n * B)) rfl (by kernel_rfl) (by kernel_rfl) (by kernel_rfl) (fun _ _ _ h => h) (Or.inl ⟨by kernel_rfl, ?_⟩) (by assumption) ?_
  · intro w hSw
    try dsimp only at hSw
    skip
    go_simp
    all_goals first | omega | exact IntWalk.i64_in _ (by omega)
  try simp only [Act.put, List.setIfInBounds_toArray, List.set_cons_zero, List.set_cons_succ, List.getElem_toArray, List.getElem_cons_zero, List.getElem_cons_succ]
  refine wpAnyH_take (i := 9) (v := .pointer (some ⟨w.heap.size, 4, none⟩)) rfl (by kernel_rfl) (by kernel_rfl) (by kernel_rfl) (fun _ _ _ h => h) (Or.inl ⟨by kernel_rfl, ?_⟩) (by assumption) ?_
  · intro w hSw
    try dsimp only at hSw
    skip
    go_simp
  try simp only [Act.put, List.setIfInBounds_toArray, List.set_cons_zero, List.set_cons_succ, List.getElem_toArray, List.getElem_cons_zero, List.getElem_cons_succ]
  refine wpAnyH_take (i := 10) (v := .int .i64 n) rfl (by kernel_rfl) (by kernel_rfl) (by kernel_rfl) (fun _ _ _ h => h) (Or.inl ⟨by kernel_rfl, ?_⟩) (by assumption) ?_
  · intro w hSw
    try dsimp only at hSw
    obtain ⟨-, RG, -⟩ := hSw
    have k0 := RG 0 _ rfl
    simp only [Nat.zero_add] at k0
    have k1 := RG 1 _ rfl
    simp only [Nat.zero_add] at k1
    have k2 := RG 2 _ rfl
    simp only [Nat.zero_add] at k2
    have k3 := RG 3 _ rfl
    simp only [Nat.zero_add] at k3
    have k4 := RG 4 _ rfl
    simp only [Nat.zero_add] at k4
    clear RG
    go_simp
  try simp only [Act.put, List.setIfInBounds_toArray, List.set_cons_zero, List.set_cons_succ, List.getElem_toArray, List.getElem_cons_zero, List.getElem_cons_succ]
  refine wpAnyH_ready (rs := [1]) (by kernel_rfl) (by simp) ?_
  refine AllReadyH.cons rfl (fun K hK => ?_) AllReadyH.nil
  go_simp
  go_at_call 97
  refine (HF.out _).mono ?_
  rintro e w1 ⟨rfl, hb⟩
  refine hK.out _ _ ?_ (fun hHeld' => ?_)
  · exact ⟨bnext hHeld.1 hb, range_below hHeld.2.1 hb, there_below hHeld.2.2 hb⟩
  clear hK K hHeld
  have hHeld := hHeld'
  clear hHeld'
  try simp only [Act.put, List.setIfInBounds_toArray, List.set_cons_zero, List.set_cons_succ, List.getElem_toArray, List.getElem_cons_zero, List.getElem_cons_succ]
  refine wpAnyH_ready (rs := [8]) (by kernel_rfl) (by simp) ?_
  refine AllReadyH.cons rfl (fun K hK => ?_) AllReadyH.nil
  go_simp
  go_at_call 142
  refine (MI.out _).mono ?_
  rintro e w2 ⟨rfl, hb⟩
  refine hK.out _ _ ?_ (fun hHeld' => ?_)
  · exact ⟨bnext hHeld.1 hb, range_below hHeld.2.1 hb, there_below hHeld.2.2 hb⟩
  clear hK K hHeld
  have hHeld := hHeld'
  clear hHeld'
  try simp only [Act.put, List.setIfInBounds_toArray, List.set_cons_zero, List.set_cons_succ, List.getElem_toArray, List.getElem_cons_zero, List.getElem_cons_succ]
  refine wpAnyH_ready (rs := [11]) (by kernel_rfl) (by simp) ?_
  refine AllReadyH.cons rfl (fun K hK => ?_) AllReadyH.nil
  go_simp
  go_at_call 131
  refine (OV.out _).mono ?_
  rintro e w3 ⟨rfl, hb⟩
  refine hK.out _ _ ?_ (fun hHeld' => ?_)
  · exact ⟨bnext hHeld.1 hb, range_below hHeld.2.1 hb, there_below hHeld.2.2 hb⟩
  clear hK K hHeld
  have hHeld := hHeld'
  clear hHeld'
  try simp only [Act.put, List.setIfInBounds_toArray, List.set_cons_zero, List.set_cons_succ, List.getElem_toArray, List.getElem_cons_zero, List.getElem_cons_succ]
  refine wpAnyH_ready (rs := [12]) (by kernel_rfl) (by simp) ?_
  refine AllReadyH.cons rfl (fun K hK => ?_) AllReadyH.nil
  obtain ⟨u0, x0, y0⟩ := there_at hHeld.2.2 (show 0 < 2 by omega)
  obtain ⟨u1, x1, y1⟩ := there_at hHeld.2.2 (show 1 < 2 by omega)
  go_simp
  refine hK.out _ _ ?_ (fun hHeld' => ?_)
  · exact ⟨(hHeld.1.setCell (by simp) _).setCell (by simp) _, range_other (range_other hHeld.2.1 (by omega)) (by omega), there_setM (there_setM hHeld.2.2 _ _) _ _⟩
  clear hK K hHeld
  have hHeld := hHeld'
  clear hHeld'
  try simp only [Act.put, List.setIfInBounds_toArray, List.set_cons_zero, List.set_cons_succ, List.getElem_toArray, List.getElem_cons_zero, List.getElem_cons_succ]
  refine wpAnyH_done (by kernel_rfl) ?_ _
  go_wp2
  refine bodyPost_ret (v := .agg #[.int .i64 U, .int .i64 V]) (by simp [results, Try.results130, go_sem, x0, x1]) rfl ⟨rfl, hHeld.1⟩
set_option maxRecDepth 100000 in
set_option maxHeartbeats 3200000 in
theorem inner_impl (R D B J n : Int) (r0 : 0 ≤ R ∧ R ≤ 5000) (b0 : 0 ≤ B ∧ B ≤ 250) (n0 : 1 ≤ n ∧ n ≤ 506) (w : World) : Calls Try.prog 98 #[.agg #[.int .i64 R, .int .i64 D, .int .i64 B, .int .i64 J, .int .i64 n]] w fun e w' => e = .returned (.agg #[.int .i64 (jN R B n), .int .i64 (jD R B n)]) ∧ Below w.heap.size w w' := by
  have JT := Lib.hid (joint_impl R D B J n R b0 n0 ⟨by omega, by omega⟩)
  obtain ⟨U, hU⟩ : ∃ U, jN R B n = U := ⟨_, rfl⟩
  obtain ⟨V, hV⟩ : ∃ V, jD R B n = V := ⟨_, rfl⟩
  rw [hU, hV] at JT ⊢
  clear hU hV
  have a0 := r0.1
  have a1 := r0.2
  skip
  skip
  have G0 := Lib.hid (World.rangeAt_alloc (range_new w #[.int .i64 R, .int .i64 D, .int .i64 B, .int .i64 J, .int .i64 n] 110) (.cells #[.int .i64 0, .int .i64 0] 26))
  have T0' := there_new (w.alloc (.cells #[.int .i64 R, .int .i64 D, .int .i64 B, .int .i64 J, .int .i64 n] 110)) #[.int .i64 0, .int .i64 0] 26 2 rfl
  rw [World.size_alloc] at T0'
  have T0 := Lib.hid T0'
  have E0 := Lib.hid (balloc (balloc0 w (.cells #[.int .i64 R, .int .i64 D, .int .i64 B, .int .i64 J, .int .i64 n] 110)) (.cells #[.int .i64 0, .int .i64 0] 26))
  clear T0'
  go_enter Try.func98, Try.ntmps98
  go_wp2_with fail
  refine (JT.out _).mono ?_
  rintro e w1 ⟨rfl, hb1⟩
  have B1 := bnext E0.out hb1
  have T1 := there_below T0.out hb1
  obtain ⟨u0, x0, y0⟩ := there_at T1 (show 0 < 2 by omega)
  obtain ⟨u1, x1, y1⟩ := there_at T1 (show 1 < 2 by omega)
  have B1 := Lib.hid B1
  clear hb1 T1
  go_wp2
  refine bodyPost_ret (v := .agg #[.int .i64 U, .int .i64 V]) (by simp [results, Try.results98, go_sem, x0, x1]) rfl ⟨rfl, ?_⟩
  exact (B1.out.setCell (by simp) _).setCell (by simp) _
set_option maxRecDepth 100000 in
set_option maxHeartbeats 3200000 in
theorem outer_impl (R D B J n : Int) (r0 : 0 ≤ R ∧ R ≤ 5000) (b0 : 0 ≤ B ∧ B ≤ 250) (n0 : 1 ≤ n ∧ n ≤ 506) (d0 : 0 ≤ D ∧ D ≤ 1000) (w : World) : Calls Try.prog 99 #[.agg #[.int .i64 R, .int .i64 D, .int .i64 B, .int .i64 J, .int .i64 n]] w fun e w' => e = .returned (.agg #[.int .i64 (jN (R + D) B n), .int .i64 (jD (R + D) B n)]) ∧ Below w.heap.size w w' := by
  have JT := Lib.hid (joint_impl R D B J n (R + D) b0 n0 ⟨by omega, by omega⟩)
  obtain ⟨U, hU⟩ : ∃ U, jN (R + D) B n = U := ⟨_, rfl⟩
  obtain ⟨V, hV⟩ : ∃ V, jD (R + D) B n = V := ⟨_, rfl⟩
  rw [hU, hV] at JT ⊢
  clear hU hV
  have a0 := r0.1
  have a1 := r0.2
  have a2 := d0.1
  have a3 := d0.2
  have G0 := Lib.hid (World.rangeAt_alloc (range_new w #[.int .i64 R, .int .i64 D, .int .i64 B, .int .i64 J, .int .i64 n] 110) (.cells #[.int .i64 0, .int .i64 0] 26))
  have T0' := there_new (w.alloc (.cells #[.int .i64 R, .int .i64 D, .int .i64 B, .int .i64 J, .int .i64 n] 110)) #[.int .i64 0, .int .i64 0] 26 2 rfl
  rw [World.size_alloc] at T0'
  have T0 := Lib.hid T0'
  have E0 := Lib.hid (balloc (balloc0 w (.cells #[.int .i64 R, .int .i64 D, .int .i64 B, .int .i64 J, .int .i64 n] 110)) (.cells #[.int .i64 0, .int .i64 0] 26))
  clear T0'
  go_enter Try.func99, Try.ntmps99
  go_wp2_with fail
  refine (JT.out _).mono ?_
  rintro e w1 ⟨rfl, hb1⟩
  have B1 := bnext E0.out hb1
  have T1 := there_below T0.out hb1
  obtain ⟨u0, x0, y0⟩ := there_at T1 (show 0 < 2 by omega)
  obtain ⟨u1, x1, y1⟩ := there_at T1 (show 1 < 2 by omega)
  have B1 := Lib.hid B1
  clear hb1 T1
  go_wp2
  refine bodyPost_ret (v := .agg #[.int .i64 U, .int .i64 V]) (by simp [results, Try.results99, go_sem, x0, x1]) rfl ⟨rfl, ?_⟩
  exact (B1.out.setCell (by simp) _).setCell (by simp) _
set_option maxRecDepth 100000 in
set_option maxHeartbeats 6400000 in
theorem taper_impl (R D B J n : Int) (d0 : 0 ≤ D ∧ D ≤ 1000) (n0 : 1 ≤ n ∧ n ≤ 506) (w : World) : Calls Try.prog 100 #[.agg #[.int .i64 R, .int .i64 D, .int .i64 B, .int .i64 J, .int .i64 n]] w fun e w' => e = .returned (.agg #[.int .i64 (lowN (355 * D) (113 * n)), .int .i64 (lowD (355 * D) (113 * n))]) ∧ Below w.heap.size w w' := by
  obtain ⟨d0, d1⟩ := d0
  obtain ⟨n0, n1⟩ := n0
  obtain ⟨N0, N1, E0, E1⟩ := half_facts D d0 (by omega)
  have LS := low_over (355 * D) 113 n (by omega)
  have HF := Lib.hid (half_impl D d0 (by omega))
  obtain ⟨N, hN⟩ : ∃ N, lowN (355 * D) 113 = N := ⟨_, rfl⟩
  obtain ⟨E, hE⟩ : ∃ E, lowD (355 * D) 113 = E := ⟨_, rfl⟩
  rw [hN] at N0 N1 LS HF
  rw [hE] at E0 E1 LS HF
  clear hN hE
  have q0 : 1 ≤ n * E := Int.mul_pos (by omega) E0
  have q1 : n * E ≤ 57178 := Int.le_trans (Int.mul_le_mul n1 E1 (by omega) (by omega)) (by omega)
  have OV := Lib.hid (over_impl N E n (by omega) (by omega))
  rw [LS.1, LS.2, Int.mul_comm n 113] at OV
  obtain ⟨U, hU⟩ : ∃ U, lowN (355 * D) (113 * n) = U := ⟨_, rfl⟩
  obtain ⟨V, hV⟩ : ∃ V, lowD (355 * D) (113 * n) = V := ⟨_, rfl⟩
  rw [hU, hV] at OV ⊢
  clear hU hV LS q0 q1 N0 N1 E0 E1
  have G0 := Lib.hid (World.rangeAt_alloc (range_new w #[.int .i64 R, .int .i64 D, .int .i64 B, .int .i64 J, .int .i64 n] 110) (.cells #[.int .i64 0, .int .i64 0] 26))
  have T0' := there_new (w.alloc (.cells #[.int .i64 R, .int .i64 D, .int .i64 B, .int .i64 J, .int .i64 n] 110)) #[.int .i64 0, .int .i64 0] 26 2 rfl
  rw [World.size_alloc] at T0'
  have T0 := Lib.hid T0'
  have E0 := Lib.hid (balloc (balloc0 w (.cells #[.int .i64 R, .int .i64 D, .int .i64 B, .int .i64 J, .int .i64 n] 110)) (.cells #[.int .i64 0, .int .i64 0] 26))
  clear T0'
  go_enter Try.func100, Try.ntmps100
  go_wp2_with fail
  refine wp_region_held_drew (S := fun W => Below w.heap.size w W ∧ W.rangeAt w.heap.size 0 [.int .i64 R, .int .i64 D, .int .i64 B, .int .i64 J, .int .i64 n] ∧ W.there (w.heap.size + 1) 0 2) (by kernel_rfl) ?_ (fun hHeld => ?_)
  · exact ⟨E0.out.drew, G0.out, T0.out⟩
  refine wpAnyH_take (i := 0) (v := .pointer (some ⟨w.heap.size, 0, none⟩)) rfl (by kernel_rfl) (by kernel_rfl) (by kernel_rfl) (fun _ _ _ h => h) (Or.inl ⟨by kernel_rfl, ?_⟩) (by assumption) ?_
  · intro w hSw
    try dsimp only at hSw
    skip
    go_simp
  try simp only [Act.put, List.setIfInBounds_toArray, List.set_cons_zero, List.set_cons_succ, List.getElem_toArray, List.getElem_cons_zero]
  refine wpAnyH_take (i := 1) (v := .pointer (some ⟨w.heap.size, 1, none⟩)) rfl (by kernel_rfl) (by kernel_rfl) (by kernel_rfl) (fun _ _ _ h => h) (Or.inl ⟨by kernel_rfl, ?_⟩) (by assumption) ?_
  · intro w hSw
    try dsimp only at hSw
    skip
    go_simp
  try simp only [Act.put, List.setIfInBounds_toArray, List.set_cons_zero, List.set_cons_succ, List.getElem_toArray, List.getElem_cons_zero, List.getElem_cons_succ]
  refine wpAnyH_take (i := 2) (v := .int .i64 D) rfl (by kernel_rfl) (by kernel_rfl) (by kernel_rfl) (fun _ _ _ h => h) (Or.inl ⟨by kernel_rfl, ?_⟩) (by assumption) ?_
  · intro w hSw
    try dsimp only at hSw
    obtain ⟨-, RG, -⟩ := hSw
    have k0 := RG 0 _ rfl
    simp only [Nat.zero_add] at k0
    have k1 := RG 1 _ rfl
    simp only [Nat.zero_add] at k1
    have k2 := RG 2 _ rfl
    simp only [Nat.zero_add] at k2
    have k3 := RG 3 _ rfl
    simp only [Nat.zero_add] at k3
    have k4 := RG 4 _ rfl
    simp only [Nat.zero_add] at k4
    clear RG
    go_simp
  try simp only [Act.put, List.setIfInBounds_toArray, List.set_cons_zero, List.set_cons_succ, List.getElem_toArray, List.getElem_cons_zero, List.getElem_cons_succ]
  refine wpAnyH_take (i := 4) (v := .pointer (some ⟨w.heap.size, 4, none⟩)) rfl (by kernel_rfl) (by kernel_rfl) (by kernel_rfl) (fun _ _ _ h => h) (Or.inl ⟨by kernel_rfl, ?_⟩) (by assumption) ?_
  · intro w hSw
    try dsimp only at hSw
    skip
    go_simp
  try simp only [Act.put, List.setIfInBounds_toArray, List.set_cons_zero, List.set_cons_succ, List.getElem_toArray, List.getElem_cons_zero, List.getElem_cons_succ]
  refine wpAnyH_take (i := 5) (v := .int .i64 n) rfl (by kernel_rfl) (by kernel_rfl) (by kernel_rfl) (fun _ _ _ h => h) (Or.inl ⟨by kernel_rfl, ?_⟩) (by assumption) ?_
  · intro w hSw
    try dsimp only at hSw
    obtain ⟨-, RG, -⟩ := hSw
    have k0 := RG 0 _ rfl
    simp only [Nat.zero_add] at k0
    have k1 := RG 1 _ rfl
    simp only [Nat.zero_add] at k1
    have k2 := RG 2 _ rfl
    simp only [Nat.zero_add] at k2
    have k3 := RG 3 _ rfl
    simp only [Nat.zero_add] at k3
    have k4 := RG 4 _ rfl
    simp only [Nat.zero_add] at k4
    clear RG
    go_simp
  try simp only [Act.put, List.setIfInBounds_toArray, List.set_cons_zero, List.set_cons_succ, List.getElem_toArray, List.getElem_cons_zero, List.getElem_cons_succ]
  refine wpAnyH_ready (rs := [3]) (by kernel_rfl) (by simp) ?_
  refine AllReadyH.cons rfl (fun K hK => ?_) AllReadyH.nil
  go_simp
  go_at_call 97
  refine (HF.out _).mono ?_
  rintro e w1 ⟨rfl, hb⟩
  refine hK.out _ _ ?_ (fun hHeld' => ?_)
  · exact ⟨bnext hHeld.1 hb, range_below hHeld.2.1 hb, there_below hHeld.2.2 hb⟩
  clear hK K hHeld
  have hHeld := hHeld'
  clear hHeld'
  try simp only [Act.put, List.setIfInBounds_toArray, List.set_cons_zero, List.set_cons_succ, List.getElem_toArray, List.getElem_cons_zero, List.getElem_cons_succ]
  refine wpAnyH_ready (rs := [6]) (by kernel_rfl) (by simp) ?_
  refine AllReadyH.cons rfl (fun K hK => ?_) AllReadyH.nil
  go_simp
  go_at_call 131
  refine (OV.out _).mono ?_
  rintro e w3 ⟨rfl, hb⟩
  refine hK.out _ _ ?_ (fun hHeld' => ?_)
  · exact ⟨bnext hHeld.1 hb, range_below hHeld.2.1 hb, there_below hHeld.2.2 hb⟩
  clear hK K hHeld
  have hHeld := hHeld'
  clear hHeld'
  try simp only [Act.put, List.setIfInBounds_toArray, List.set_cons_zero, List.set_cons_succ, List.getElem_toArray, List.getElem_cons_zero, List.getElem_cons_succ]
  refine wpAnyH_ready (rs := [7]) (by kernel_rfl) (by simp) ?_
  refine AllReadyH.cons rfl (fun K hK => ?_) AllReadyH.nil
  obtain ⟨u0, x0, y0⟩ := there_at hHeld.2.2 (show 0 < 2 by omega)
  obtain ⟨u1, x1, y1⟩ := there_at hHeld.2.2 (show 1 < 2 by omega)
  go_simp
  refine hK.out _ _ ?_ (fun hHeld' => ?_)
  · exact ⟨(hHeld.1.setCell (by simp) _).setCell (by simp) _, range_other (range_other hHeld.2.1 (by omega)) (by omega), there_setM (there_setM hHeld.2.2 _ _) _ _⟩
  clear hK K hHeld
  have hHeld := hHeld'
  clear hHeld'
  try simp only [Act.put, List.setIfInBounds_toArray, List.set_cons_zero, List.set_cons_succ, List.getElem_toArray, List.getElem_cons_zero, List.getElem_cons_succ]
  refine wpAnyH_done (by kernel_rfl) ?_ _
  go_wp2
  refine bodyPost_ret (v := .agg #[.int .i64 U, .int .i64 V]) (by simp [results, Try.results100, go_sem, x0, x1]) rfl ⟨rfl, hHeld.1⟩
end Go.Proofs.Ytdhikdaegmekbab
