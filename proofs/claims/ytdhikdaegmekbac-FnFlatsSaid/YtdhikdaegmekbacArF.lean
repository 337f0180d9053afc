/-
  Flat arches: widths and numbers of bricks, contracts of the program and of the model.
-/
import Derived.Test.YtdhikdaegmekbacArA
namespace Go.Proofs.Ytdhikdaegmekbac
open Go.ChangeShapes Go.WideShapes Go.ChangeAt Go.RowKit Go.Joins


def flB (s k j : Int) : Bool := inB s 100 5000 && (inB k 0 500 && inB j 0 20)
theorem flB_true {s k j : Int} : flB s k j = true ↔ ((100 ≤ s ∧ s ≤ 5000) ∧ (0 ≤ k ∧ k ≤ 500) ∧ (0 ≤ j ∧ j ≤ 20)) := by simp [flB, inB_true]
def fwC (s k j n : Int) : Int := if flB s k j = true ∧ inB n 1 400 = true then (if n % 2 = 0 ∨ s - (n + 1) * j ≤ 0 then 6 else 0) else 2
def fw0 (s k j n : Int) : Int := if fwC s k j n = 0 then lowN (s - (n + 1) * j) n else 0
def fd0 (s k j n : Int) : Int := if fwC s k j n = 0 then lowD (s - (n + 1) * j) n else 0
def fw1 (s k j n : Int) : Int := if fwC s k j n = 0 then lowN (s + 2 * k - (n + 1) * j) n else 0
def fd1 (s k j n : Int) : Int := if fwC s k j n = 0 then lowD (s + 2 * k - (n + 1) * j) n else 0
theorem nj_range {j n : Int} (j0 : 0 ≤ j ∧ j ≤ 20) (n0 : 1 ≤ n ∧ n ≤ 1000) : 0 ≤ (n + 1) * j ∧ (n + 1) * j ≤ 20020 :=
  ⟨Int.mul_nonneg (by omega) j0.1, Int.le_trans (Int.mul_le_mul (show n + 1 ≤ 1001 by omega) j0.2 j0.1 (by omega)) (by omega)⟩
theorem flat_impl (s k j : Int) (w : World) : Calls Try.prog 9 #[.agg #[.int .i64 s, .int .i64 k, .int .i64 j]] w fun e w' => e = .returned (.bool (flB s k j)) ∧ Below w.heap.size w w' := by
  cases h1 : inB s 100 5000 <;> cases h2 : inB k 0 500 <;> cases h3 : inB j 0 20
  all_goals
    go_enter Try.func9, Try.ntmps9
    go_wp2_with (first | (go_at_call 18; refine (skew_impl _ _).mono ?_; rintro e w' ⟨rfl, rfl⟩) | (go_at_call 10; refine (within_impl _ _ _ _).mono ?_; rintro e w' ⟨rfl, rfl⟩))
    go_ret
    exact ⟨ret_bool (by simp [flB, h1, h2, h3]), balloc0 _ _⟩
set_option maxRecDepth 100000 in
set_option maxHeartbeats 6400000 in
theorem fwidth_impl (s k j L n : Int) (l0 : -100000 ≤ L ∧ L ≤ 100000) (j0 : 0 ≤ j ∧ j ≤ 20) (n0 : 1 ≤ n ∧ n ≤ 1000) (w : World) : Calls Try.prog 20 #[.agg #[.int .i64 s, .int .i64 k, .int .i64 j], .int .i64 L, .int .i64 n] w fun e w' => e = .returned (.agg #[.int .i64 (lowN (L - (n + 1) * j) n), .int .i64 (lowD (L - (n + 1) * j) n)]) ∧ Below w.heap.size w w' := by
  obtain ⟨m0, m1⟩ := nj_range j0 n0
  obtain ⟨l0, l1⟩ := l0
  obtain ⟨n0, n1⟩ := n0
  clear j0
  have WH := Lib.hid (whole_impl L)
  have MI := Lib.hid (minus_impl L 1 ((n + 1) * j) (L - (n + 1) * j) (by omega) ⟨by omega, by omega⟩ ⟨by omega, by omega⟩)
  have OV := Lib.hid (over_impl (L - (n + 1) * j) 1 n ⟨by omega, by omega⟩ ⟨by omega, by omega⟩)
  rw [Int.mul_one] at OV
  obtain ⟨Z, hZ⟩ : ∃ Z, L - (n + 1) * j = Z := ⟨_, rfl⟩
  rw [hZ] at MI OV ⊢
  obtain ⟨U, hU⟩ : ∃ U, lowN Z n = U := ⟨_, rfl⟩
  obtain ⟨V, hV⟩ : ∃ U, lowD Z n = U := ⟨_, rfl⟩
  rw [hU, hV] at OV ⊢
  clear hZ hU hV
  have G0 := Lib.hid (World.rangeAt_alloc (range_new w #[.int .i64 s, .int .i64 k, .int .i64 j] 35) (.cells #[.int .i64 0, .int .i64 0] 28))
  have T0' := there_new (w.alloc (.cells #[.int .i64 s, .int .i64 k, .int .i64 j] 35)) #[.int .i64 0, .int .i64 0] 28 2 rfl
  rw [World.size_alloc] at T0'
  have T0 := Lib.hid T0'
  have E0 := Lib.hid (balloc (balloc0 w (.cells #[.int .i64 s, .int .i64 k, .int .i64 j] 35)) (.cells #[.int .i64 0, .int .i64 0] 28))
  clear T0'
  go_enter Try.func20, Try.ntmps20
  go_wp2_with fail
  refine wp_region_held_drew (S := fun W => Below w.heap.size w W ∧ W.rangeAt w.heap.size 0 [.int .i64 s, .int .i64 k, .int .i64 j] ∧ W.there (w.heap.size + 1) 0 2) (by kernel_rfl) ?_ (fun hHeld => ?_)
  · exact ⟨E0.out.drew, G0.out, T0.out⟩
  refine wpAnyH_take (i := 0) (v := .int .i64 L) rfl (by kernel_rfl) (by kernel_rfl) (by kernel_rfl) (fun _ _ _ h => h) (Or.inl ⟨by kernel_rfl, ?_⟩) (by assumption) ?_
  · intro w hSw
    try dsimp only at hSw
    skip
    go_simp
  try simp only [Act.put, List.setIfInBounds_toArray, List.set_cons_zero, List.set_cons_succ, List.getElem_toArray, List.getElem_cons_zero]
  refine wpAnyH_take (i := 2) (v := .int .i64 n) rfl (by kernel_rfl) (by kernel_rfl) (by kernel_rfl) (fun _ _ _ h => h) (Or.inl ⟨by kernel_rfl, ?_⟩) (by assumption) ?_
  · intro w hSw
    try dsimp only at hSw
    skip
    go_simp
  try simp only [Act.put, List.setIfInBounds_toArray, List.set_cons_zero, List.set_cons_succ, List.getElem_toArray, List.getElem_cons_zero, List.getElem_cons_succ]
  refine wpAnyH_take (i := 3) (v := .int .i64 (n + 1)) rfl (by kernel_rfl) (by kernel_rfl) (by kernel_rfl) (fun _ _ _ h => h) (Or.inl ⟨by kernel_rfl, ?_⟩) (by assumption) ?_
  · intro w hSw
    try dsimp only at hSw
    skip
    go_simp
    all_goals first | omega | exact IntWalk.i64_in _ (by omega)
  try simp only [Act.put, List.setIfInBounds_toArray, List.set_cons_zero, List.set_cons_succ, List.getElem_toArray, List.getElem_cons_zero, List.getElem_cons_succ]
  refine wpAnyH_take (i := 4) (v := .pointer (some ⟨w.heap.size, 2, none⟩)) rfl (by kernel_rfl) (by kernel_rfl) (by kernel_rfl) (fun _ _ _ h => h) (Or.inl ⟨by kernel_rfl, ?_⟩) (by assumption) ?_
  · intro w hSw
    try dsimp only at hSw
    skip
    go_simp
  try simp only [Act.put, List.setIfInBounds_toArray, List.set_cons_zero, List.set_cons_succ, List.getElem_toArray, List.getElem_cons_zero, List.getElem_cons_succ]
  refine wpAnyH_take (i := 5) (v := .int .i64 j) rfl (by kernel_rfl) (by kernel_rfl) (by kernel_rfl) (fun _ _ _ h => h) (Or.inl ⟨by kernel_rfl, ?_⟩) (by assumption) ?_
  · intro w hSw
    try dsimp only at hSw
    obtain ⟨-, RG, -⟩ := hSw
    have k0 := RG 0 _ rfl
    simp only [Nat.zero_add] at k0
    have k1 := RG 1 _ rfl
    simp only [Nat.zero_add] at k1
    have k2 := RG 2 _ rfl
    simp only [Nat.zero_add] at k2
    clear RG
    go_simp
  try simp only [Act.put, List.setIfInBounds_toArray, List.set_cons_zero, List.set_cons_succ, List.getElem_toArray, List.getElem_cons_zero, List.getElem_cons_succ]
  refine wpAnyH_take (i := 6) (v := .int .i64 ((n + 1) * j)) rfl (by kernel_rfl) (by kernel_rfl) (by kernel_rfl) (fun _ _ _ h => h) (Or.inl ⟨by kernel_rfl, ?_⟩) (by assumption) ?_
  · intro w hSw
    try dsimp only at hSw
    skip
    go_simp
    all_goals first | omega | exact IntWalk.i64_in _ (by omega)
  try simp only [Act.put, List.setIfInBounds_toArray, List.set_cons_zero, List.set_cons_succ, List.getElem_toArray, List.getElem_cons_zero, List.getElem_cons_succ]
  refine wpAnyH_take (i := 8) (v := .int .i64 n) rfl (by kernel_rfl) (by kernel_rfl) (by kernel_rfl) (fun _ _ _ h => h) (Or.inl ⟨by kernel_rfl, ?_⟩) (by assumption) ?_
  · intro w hSw
    try dsimp only at hSw
    skip
    go_simp
  try simp only [Act.put, List.setIfInBounds_toArray, List.set_cons_zero, List.set_cons_succ, List.getElem_toArray, List.getElem_cons_zero, List.getElem_cons_succ]
  refine wpAnyH_ready (rs := [1]) (by kernel_rfl) (by simp) ?_
  refine AllReadyH.cons rfl (fun K hK => ?_) AllReadyH.nil
  go_simp
  go_at_call 15
  refine (WH.out _).mono ?_
  rintro e w1 ⟨rfl, hb⟩
  refine hK.out _ _ ?_ (fun hHeld' => ?_)
  · exact ⟨bnext hHeld.1 hb, range_below hHeld.2.1 hb, there_below hHeld.2.2 hb⟩
  clear hK K hHeld
  have hHeld := hHeld'
  clear hHeld'
  try simp only [Act.put, List.setIfInBounds_toArray, List.set_cons_zero, List.set_cons_succ, List.getElem_toArray, List.getElem_cons_zero, List.getElem_cons_succ]
  refine wpAnyH_ready (rs := [7]) (by kernel_rfl) (by simp) ?_
  refine AllReadyH.cons rfl (fun K hK => ?_) AllReadyH.nil
  go_simp
  go_at_call 24
  refine (MI.out _).mono ?_
  rintro e w2 ⟨rfl, hb⟩
  refine hK.out _ _ ?_ (fun hHeld' => ?_)
  · exact ⟨bnext hHeld.1 hb, range_below hHeld.2.1 hb, there_below hHeld.2.2 hb⟩
  clear hK K hHeld
  have hHeld := hHeld'
  clear hHeld'
  try simp only [Act.put, List.setIfInBounds_toArray, List.set_cons_zero, List.set_cons_succ, List.getElem_toArray, List.getElem_cons_zero, List.getElem_cons_succ]
  refine wpAnyH_ready (rs := [9]) (by kernel_rfl) (by simp) ?_
  refine AllReadyH.cons rfl (fun K hK => ?_) AllReadyH.nil
  go_simp
  go_at_call 25
  refine (OV.out _).mono ?_
  rintro e w3 ⟨rfl, hb⟩
  refine hK.out _ _ ?_ (fun hHeld' => ?_)
  · exact ⟨bnext hHeld.1 hb, range_below hHeld.2.1 hb, there_below hHeld.2.2 hb⟩
  clear hK K hHeld
  have hHeld := hHeld'
  clear hHeld'
  try simp only [Act.put, List.setIfInBounds_toArray, List.set_cons_zero, List.set_cons_succ, List.getElem_toArray, List.getElem_cons_zero, List.getElem_cons_succ]
  refine wpAnyH_ready (rs := [10]) (by kernel_rfl) (by simp) ?_
  refine AllReadyH.cons rfl (fun K hK => ?_) AllReadyH.nil
  obtain ⟨u0, x0, y0⟩ := there_at hHeld.2.2 (show 0 < 2 by omega)
  obtain ⟨u1, x1, y1⟩ := there_at hHeld.2.2 (show 1 < 2 by omega)
  go_simp
  refine hK.out _ _ ?_ (fun hHeld' => ?_)
  · exact ⟨(hHeld.1.setCell (by simp) _).setCell (by simp) _, range_other (range_other hHeld.2.1 (by omega)) (by omega), there_setM (there_setM hHeld.2.2 _ _) _ _⟩
  clear hK K hHeld
  have hHeld := hHeld'
  clear hHeld'
  try simp only [Act.put, List.setIfInBounds_toArray, List.set_cons_zero, List.set_cons_succ, List.getElem_toArray, List.getElem_cons_zero, List.getElem_cons_succ]
  refine wpAnyH_done (by kernel_rfl) ?_ _
  go_wp2
  refine bodyPost_ret (v := .agg #[.int .i64 U, .int .i64 V]) (by simp [results, Try.results20, go_sem, x0, x1]) rfl ⟨rfl, hHeld.1⟩
set_option maxRecDepth 100000 in
set_option maxHeartbeats 6400000 in
theorem lower_impl (s k j n : Int) (h : flB s k j = true) (n0 : 1 ≤ n ∧ n ≤ 1000) (w : World) : Calls Try.prog 17 #[.agg #[.int .i64 s, .int .i64 k, .int .i64 j], .int .i64 n] w fun e w' => e = .returned (.agg #[.int .i64 (lowN (s - (n + 1) * j) n), .int .i64 (lowD (s - (n + 1) * j) n)]) ∧ Below w.heap.size w w' := by
  obtain ⟨⟨s0, s1⟩, ⟨k0, k1⟩, j0, j1⟩ := flB_true.1 h
  have WD := Lib.hid (fwidth_impl s k j s n ⟨by omega, by omega⟩ ⟨j0, j1⟩ n0)
  obtain ⟨U, hU⟩ : ∃ U, lowN (s - (n + 1) * j) n = U := ⟨_, rfl⟩
  obtain ⟨V, hV⟩ : ∃ U, lowD (s - (n + 1) * j) n = U := ⟨_, rfl⟩
  rw [hU, hV] at WD ⊢
  clear hU hV h n0
  have G0 := Lib.hid (World.rangeAt_alloc (range_new w #[.int .i64 s, .int .i64 k, .int .i64 j] 35) (.cells #[.int .i64 0, .int .i64 0] 28))
  have T0' := there_new (w.alloc (.cells #[.int .i64 s, .int .i64 k, .int .i64 j] 35)) #[.int .i64 0, .int .i64 0] 28 2 rfl
  rw [World.size_alloc] at T0'
  have T0 := Lib.hid T0'
  have E0 := Lib.hid (balloc (balloc0 w (.cells #[.int .i64 s, .int .i64 k, .int .i64 j] 35)) (.cells #[.int .i64 0, .int .i64 0] 28))
  clear T0'
  go_enter Try.func17, Try.ntmps17
  go_wp2_with fail
  refine (WD.out _).mono ?_
  rintro e w1 ⟨rfl, hb1⟩
  have B1 := bnext E0.out hb1
  have T1 := there_below T0.out hb1
  obtain ⟨u0, x0, y0⟩ := there_at T1 (show 0 < 2 by omega)
  obtain ⟨u1, x1, y1⟩ := there_at T1 (show 1 < 2 by omega)
  have B1 := Lib.hid B1
  clear hb1 T1
  go_wp2
  refine bodyPost_ret (v := .agg #[.int .i64 U, .int .i64 V]) (by simp [results, Try.results17, go_sem, x0, x1]) rfl ⟨rfl, ?_⟩
  exact (B1.out.setCell (by simp) _).setCell (by simp) _
set_option maxRecDepth 100000 in
set_option maxHeartbeats 6400000 in
theorem upper_impl (s k j n : Int) (h : flB s k j = true) (n0 : 1 ≤ n ∧ n ≤ 1000) (w : World) : Calls Try.prog 13 #[.agg #[.int .i64 s, .int .i64 k, .int .i64 j], .int .i64 n] w fun e w' => e = .returned (.agg #[.int .i64 (lowN (s + 2 * k - (n + 1) * j) n), .int .i64 (lowD (s + 2 * k - (n + 1) * j) n)]) ∧ Below w.heap.size w w' := by
  obtain ⟨⟨s0, s1⟩, ⟨k0, k1⟩, j0, j1⟩ := flB_true.1 h
  have WD := Lib.hid (fwidth_impl s k j (s + 2 * k) n ⟨by omega, by omega⟩ ⟨j0, j1⟩ n0)
  obtain ⟨U, hU⟩ : ∃ U, lowN (s + 2 * k - (n + 1) * j) n = U := ⟨_, rfl⟩
  obtain ⟨V, hV⟩ : ∃ U, lowD (s + 2 * k - (n + 1) * j) n = U := ⟨_, rfl⟩
  rw [hU, hV] at WD ⊢
  clear hU hV h n0
  have G0 := Lib.hid (World.rangeAt_alloc (range_new w #[.int .i64 s, .int .i64 k, .int .i64 j] 35) (.cells #[.int .i64 0, .int .i64 0] 28))
  have T0' := there_new (w.alloc (.cells #[.int .i64 s, .int .i64 k, .int .i64 j] 35)) #[.int .i64 0, .int .i64 0] 28 2 rfl
  rw [World.size_alloc] at T0'
  have T0 := Lib.hid T0'
  have E0 := Lib.hid (balloc (balloc0 w (.cells #[.int .i64 s, .int .i64 k, .int .i64 j] 35)) (.cells #[.int .i64 0, .int .i64 0] 28))
  clear T0'
  go_enter Try.func13, Try.ntmps13
  go_wp2_with fail
  refine (WD.out _).mono ?_
  rintro e w1 ⟨rfl, hb1⟩
  have B1 := bnext E0.out hb1
  have T1 := there_below T0.out hb1
  obtain ⟨u0, x0, y0⟩ := there_at T1 (show 0 < 2 by omega)
  obtain ⟨u1, x1, y1⟩ := there_at T1 (show 1 < 2 by omega)
  have B1 := Lib.hid B1
  clear hb1 T1
  go_wp2
  refine bodyPost_ret (v := .agg #[.int .i64 U, .int .i64 V]) (by simp [results, Try.results13, go_sem, x0, x1]) rfl ⟨rfl, ?_⟩
  exact (B1.out.setCell (by simp) _).setCell (by simp) _
theorem fieldF (n d : Int) (w : World) : Sem.run Try.prog (Instr.field 28 (.agg #[.int .i64 n, .int .i64 d]) 0) w = .ok (.int .i64 n) w := by kernel_rfl
theorem fw_cases (s k j n : Int) : (flB s k j = false ∧ fwC s k j n = 2) ∨ (flB s k j = true ∧ inB n 1 400 = false ∧ fwC s k j n = 2) ∨ (flB s k j = true ∧ inB n 1 400 = true ∧ n % 2 = 0 ∧ fwC s k j n = 6) ∨ (flB s k j = true ∧ inB n 1 400 = true ∧ ¬ n % 2 = 0 ∧ s - (n + 1) * j ≤ 0 ∧ fwC s k j n = 6) ∨ (flB s k j = true ∧ inB n 1 400 = true ∧ ¬ n % 2 = 0 ∧ ¬ s - (n + 1) * j ≤ 0 ∧ fwC s k j n = 0) := by
  cases h1 : flB s k j
  · exact .inl ⟨rfl, by simp [fwC, h1]⟩
  · cases h2 : inB n 1 400
    · exact .inr (.inl ⟨rfl, rfl, by simp [fwC, h2]⟩)
    · by_cases h3 : n % 2 = 0
      · exact .inr (.inr (.inl ⟨rfl, rfl, h3, by simp [fwC, h1, h2, h3]⟩))
      · by_cases h4 : s - (n + 1) * j ≤ 0
        · exact .inr (.inr (.inr (.inl ⟨rfl, rfl, h3, h4, by rw [fwC, if_pos ⟨h1, h2⟩, if_pos (Or.inr h4)]⟩)))
        · exact .inr (.inr (.inr (.inr ⟨rfl, rfl, h3, h4, by rw [fwC, if_pos ⟨h1, h2⟩, if_neg (fun h => h.elim h3 h4)]⟩)))
theorem low_nonpos (a b : Int) (hb : 0 < b) : lowN a b ≤ 0 ↔ a ≤ 0 := by
  have := low_le a b 0 hb
  simpa using this
set_option maxRecDepth 100000 in
set_option maxHeartbeats 6400000 in
theorem fwidths_impl (s k j n : Int) (w : World) : Calls Try.prog 7 #[.int .i64 s, .int .i64 k, .int .i64 j, .int .i64 n] w fun e w' => e = .returned (.tuple #[.agg #[.int .i64 (fw0 s k j n), .int .i64 (fd0 s k j n)], .agg #[.int .i64 (fw1 s k j n), .int .i64 (fd1 s k j n)], .int .i64 (fwC s k j n)]) ∧ Below w.heap.size w w' := by
  have AB0 : Hid (ArB w (w.heap.size + 1 + 1) [.int .i64 s, .int .i64 k, .int .i64 j] w.heap.size (w.heap.size + 1) (((w.alloc (.cells #[.int .i64 0, .int .i64 0] 28)).alloc (.cells #[.int .i64 0, .int .i64 0] 28)).alloc (.cells #[.int .i64 s, .int .i64 k, .int .i64 j] 35))) := by
    have g := range_new ((w.alloc (.cells #[.int .i64 0, .int .i64 0] 28)).alloc (.cells #[.int .i64 0, .int .i64 0] 28)) #[.int .i64 s, .int .i64 k, .int .i64 j] 35
    have tb := there_new (w.alloc (.cells #[.int .i64 0, .int .i64 0] 28)) #[.int .i64 0, .int .i64 0] 28 2 rfl
    simp only [World.size_alloc] at g tb
    exact ⟨balloc (balloc (balloc0 _ _) _) _, g, ⟨there_below (there_below (there_new w #[.int .i64 0, .int .i64 0] 28 2 rfl) (balloc0 _ _)) (balloc0 _ _), there_below tb (balloc0 _ _)⟩, by omega, by omega, by omega, by omega, by omega⟩
  have VF := Lib.hid (flat_impl s k j)
  rcases fw_cases s k j n with ⟨h1, hc⟩ | ⟨h1, h2, hc⟩ | ⟨h1, h2, h3, hc⟩ | ⟨h1, h2, h3, h4, hc⟩ | ⟨h1, h2, h3, h4, hc⟩
  · have F : Hid ((0 : Int) = fw0 s k j n ∧ (0 : Int) = fd0 s k j n ∧ (0 : Int) = fw1 s k j n ∧ (0 : Int) = fd1 s k j n) := ⟨by simp [fw0, hc], by simp [fd0, hc], by simp [fw1, hc], by simp [fd1, hc]⟩
    rw [hc]
    rw [h1] at VF
    clear h1 hc
    go_enter Try.func7, Try.ntmps7
    go_wp2_with fail
    refine (VF.out _).mono ?_
    rintro e w1 ⟨rfl, hb1⟩
    have A1 := Lib.hid (AB0.out.later hb1)
    clear hb1
    obtain ⟨-, RG, ⟨T1, T2⟩, -⟩ := A1.out
    have k0 := RG 0 _ rfl
    have k1 := RG 1 _ rfl
    have k2 := RG 2 _ rfl
    simp only [Nat.zero_add] at k0 k1 k2
    obtain ⟨ua0, xa0, ya0⟩ := there_at T1 (show 0 < 2 by omega)
    obtain ⟨ua1, xa1, ya1⟩ := there_at T1 (show 1 < 2 by omega)
    obtain ⟨ub0, xb0, yb0⟩ := there_at T2 (show 0 < 2 by omega)
    obtain ⟨ub1, xb1, yb1⟩ := there_at T2 (show 1 < 2 by omega)
    clear RG T1 T2
    go_wp2
    refine bodyPost_ret (v := .tuple #[.agg #[.int .i64 0, .int .i64 0], .agg #[.int .i64 0, .int .i64 0], .int .i64 2]) (by simp [results, Try.results7, go_sem, xa0, xa1, xb0, xb1]) rfl ⟨arf2 F.out.1 F.out.2.1 F.out.2.2.1 F.out.2.2.2 rfl, ?_⟩
    exact A1.out.seta.seta.setb.setb.1
  · have F : Hid ((0 : Int) = fw0 s k j n ∧ (0 : Int) = fd0 s k j n ∧ (0 : Int) = fw1 s k j n ∧ (0 : Int) = fd1 s k j n) := ⟨by simp [fw0, hc], by simp [fd0, hc], by simp [fw1, hc], by simp [fd1, hc]⟩
    rw [hc]
    rw [h1] at VF
    clear h1 hc
    go_enter Try.func7, Try.ntmps7
    go_wp2_with fail
    refine (VF.out _).mono ?_
    rintro e w1 ⟨rfl, hb1⟩
    have A1 := Lib.hid (AB0.out.later hb1)
    clear hb1
    obtain ⟨-, RG, ⟨T1, T2⟩, -⟩ := A1.out
    have k0 := RG 0 _ rfl
    have k1 := RG 1 _ rfl
    have k2 := RG 2 _ rfl
    simp only [Nat.zero_add] at k0 k1 k2
    obtain ⟨ua0, xa0, ya0⟩ := there_at T1 (show 0 < 2 by omega)
    obtain ⟨ua1, xa1, ya1⟩ := there_at T1 (show 1 < 2 by omega)
    obtain ⟨ub0, xb0, yb0⟩ := there_at T2 (show 0 < 2 by omega)
    obtain ⟨ub1, xb1, yb1⟩ := there_at T2 (show 1 < 2 by omega)
    clear RG T1 T2
    go_wp2_with (go_at_call 10; refine (within_impl _ _ _ _).mono ?_; rintro e w' ⟨rfl, rfl⟩)
    try go_wp2
    refine bodyPost_ret (v := .tuple #[.agg #[.int .i64 0, .int .i64 0], .agg #[.int .i64 0, .int .i64 0], .int .i64 2]) (by simp [results, Try.results7, go_sem, xa0, xa1, xb0, xb1]) rfl ⟨arf2 F.out.1 F.out.2.1 F.out.2.2.1 F.out.2.2.2 rfl, ?_⟩
    exact A1.out.seta.seta.setb.setb.1
  · have F : Hid ((0 : Int) = fw0 s k j n ∧ (0 : Int) = fd0 s k j n ∧ (0 : Int) = fw1 s k j n ∧ (0 : Int) = fd1 s k j n) := ⟨by simp [fw0, hc], by simp [fd0, hc], by simp [fw1, hc], by simp [fd1, hc]⟩
    obtain ⟨n0, n1⟩ := inB_true.1 h2
    have EV := Lib.hid (even_implZ n (by omega))
    rw [decide_eq_true h3] at EV
    rw [hc]
    rw [h1] at VF
    clear h1 hc h3
    go_enter Try.func7, Try.ntmps7
    go_wp2_with fail
    refine (VF.out _).mono ?_
    rintro e w1 ⟨rfl, hb1⟩
    have A1 := Lib.hid (AB0.out.later hb1)
    clear hb1
    obtain ⟨-, RG, ⟨T1, T2⟩, -⟩ := A1.out
    have k0 := RG 0 _ rfl
    have k1 := RG 1 _ rfl
    have k2 := RG 2 _ rfl
    simp only [Nat.zero_add] at k0 k1 k2
    obtain ⟨ua0, xa0, ya0⟩ := there_at T1 (show 0 < 2 by omega)
    obtain ⟨ua1, xa1, ya1⟩ := there_at T1 (show 1 < 2 by omega)
    obtain ⟨ub0, xb0, yb0⟩ := there_at T2 (show 0 < 2 by omega)
    obtain ⟨ub1, xb1, yb1⟩ := there_at T2 (show 1 < 2 by omega)
    clear RG T1 T2
    go_wp2_with (first | (go_at_call 16; refine (EV.out _).mono ?_; rintro e w' ⟨rfl, rfl⟩) | (go_at_call 10; refine (within_impl _ _ _ _).mono ?_; rintro e w' ⟨rfl, rfl⟩))
    try go_wp2
    refine bodyPost_ret (v := .tuple #[.agg #[.int .i64 0, .int .i64 0], .agg #[.int .i64 0, .int .i64 0], .int .i64 6]) (by simp [results, Try.results7, go_sem, xa0, xa1, xb0, xb1]) rfl ⟨arf2 F.out.1 F.out.2.1 F.out.2.2.1 F.out.2.2.2 rfl, ?_⟩
    exact A1.out.seta.seta.setb.setb.1
  · have F : Hid ((0 : Int) = fw0 s k j n ∧ (0 : Int) = fd0 s k j n ∧ (0 : Int) = fw1 s k j n ∧ (0 : Int) = fd1 s k j n) := ⟨by simp [fw0, hc], by simp [fd0, hc], by simp [fw1, hc], by simp [fd1, hc]⟩
    obtain ⟨n0, n1⟩ := inB_true.1 h2
    have EV := Lib.hid (even_implZ n (by omega))
    rw [decide_eq_false h3] at EV
    have LW := Lib.hid (lower_impl s k j n h1 ⟨n0, by omega⟩)
    have l0 := (low_nonpos (s - (n + 1) * j) n (by omega)).2 h4
    obtain ⟨U, hU⟩ : ∃ U, lowN (s - (n + 1) * j) n = U := ⟨_, rfl⟩
    obtain ⟨V, hV⟩ : ∃ U, lowD (s - (n + 1) * j) n = U := ⟨_, rfl⟩
    rw [hU, hV] at LW
    rw [hU] at l0
    rw [hc]
    rw [h1] at VF
    clear h1 hc h3 h4 hU hV
    go_enter Try.func7, Try.ntmps7
    go_wp2_with fail
    refine (VF.out _).mono ?_
    rintro e w1 ⟨rfl, hb1⟩
    have A1 := Lib.hid (AB0.out.later hb1)
    clear hb1
    obtain ⟨-, RG, ⟨T1, T2⟩, -⟩ := A1.out
    have k0 := RG 0 _ rfl
    have k1 := RG 1 _ rfl
    have k2 := RG 2 _ rfl
    simp only [Nat.zero_add] at k0 k1 k2
    obtain ⟨ua0, xa0, ya0⟩ := there_at T1 (show 0 < 2 by omega)
    obtain ⟨ua1, xa1, ya1⟩ := there_at T1 (show 1 < 2 by omega)
    obtain ⟨ub0, xb0, yb0⟩ := there_at T2 (show 0 < 2 by omega)
    obtain ⟨ub1, xb1, yb1⟩ := there_at T2 (show 1 < 2 by omega)
    clear RG T1 T2
    go_wp2_with (first | (go_at_call 16; refine (EV.out _).mono ?_; rintro e w' ⟨rfl, rfl⟩) | (go_at_call 10; refine (within_impl _ _ _ _).mono ?_; rintro e w' ⟨rfl, rfl⟩))
    refine (LW.out _).mono ?_
    rintro e w2 ⟨rfl, hb2⟩
    have A2 := Lib.hid (A1.out.later hb2)
    clear hb2 k0 k1 k2 xa0 ya0 xa1 ya1 xb0 yb0 xb1 yb1
    obtain ⟨-, RG, ⟨T1, T2⟩, -⟩ := A2.out
    have k0 := RG 0 _ rfl
    have k1 := RG 1 _ rfl
    have k2 := RG 2 _ rfl
    simp only [Nat.zero_add] at k0 k1 k2
    obtain ⟨ua0, xa0, ya0⟩ := there_at T1 (show 0 < 2 by omega)
    obtain ⟨ua1, xa1, ya1⟩ := there_at T1 (show 1 < 2 by omega)
    obtain ⟨ub0, xb0, yb0⟩ := there_at T2 (show 0 < 2 by omega)
    obtain ⟨ub1, xb1, yb1⟩ := there_at T2 (show 1 < 2 by omega)
    clear RG T1 T2
    go_wp2_with fail
    rw [fieldF]
    go_wp2
    refine bodyPost_ret (v := .tuple #[.agg #[.int .i64 0, .int .i64 0], .agg #[.int .i64 0, .int .i64 0], .int .i64 6]) (by simp [results, Try.results7, go_sem, xa0, xa1, xb0, xb1]) rfl ⟨arf2 F.out.1 F.out.2.1 F.out.2.2.1 F.out.2.2.2 rfl, ?_⟩
    exact A2.out.seta.seta.setb.setb.1
  · obtain ⟨n0, n1⟩ := inB_true.1 h2
    have EV := Lib.hid (even_implZ n (by omega))
    rw [decide_eq_false h3] at EV
    have LW := Lib.hid (lower_impl s k j n h1 ⟨n0, by omega⟩)
    have UW := Lib.hid (upper_impl s k j n h1 ⟨n0, by omega⟩)
    have l0 : ¬ lowN (s - (n + 1) * j) n ≤ 0 := fun h => h4 ((low_nonpos (s - (n + 1) * j) n (by omega)).1 h)
    obtain ⟨U1, hU1⟩ : ∃ U, lowN (s - (n + 1) * j) n = U := ⟨_, rfl⟩
    obtain ⟨V1, hV1⟩ : ∃ U, lowD (s - (n + 1) * j) n = U := ⟨_, rfl⟩
    obtain ⟨U2, hU2⟩ : ∃ U, lowN (s + 2 * k - (n + 1) * j) n = U := ⟨_, rfl⟩
    obtain ⟨V2, hV2⟩ : ∃ U, lowD (s + 2 * k - (n + 1) * j) n = U := ⟨_, rfl⟩
    have F : Hid (U1 = fw0 s k j n ∧ V1 = fd0 s k j n ∧ U2 = fw1 s k j n ∧ V2 = fd1 s k j n) := ⟨by simp [fw0, hc, hU1], by simp [fd0, hc, hV1], by simp [fw1, hc, hU2], by simp [fd1, hc, hV2]⟩
    rw [hU1, hV1] at LW
    rw [hU2, hV2] at UW
    rw [hU1] at l0
    rw [hc]
    rw [h1] at VF
    clear h1 hc h3 h4 hU1 hV1 hU2 hV2
    go_enter Try.func7, Try.ntmps7
    go_wp2_with fail
    refine (VF.out _).mono ?_
    rintro e w1 ⟨rfl, hb1⟩
    have A1 := Lib.hid (AB0.out.later hb1)
    clear hb1
    obtain ⟨-, RG, ⟨T1, T2⟩, -⟩ := A1.out
    have k0 := RG 0 _ rfl
    have k1 := RG 1 _ rfl
    have k2 := RG 2 _ rfl
    simp only [Nat.zero_add] at k0 k1 k2
    obtain ⟨ua0, xa0, ya0⟩ := there_at T1 (show 0 < 2 by omega)
    obtain ⟨ua1, xa1, ya1⟩ := there_at T1 (show 1 < 2 by omega)
    obtain ⟨ub0, xb0, yb0⟩ := there_at T2 (show 0 < 2 by omega)
    obtain ⟨ub1, xb1, yb1⟩ := there_at T2 (show 1 < 2 by omega)
    clear RG T1 T2
    go_wp2_with (first | (go_at_call 16; refine (EV.out _).mono ?_; rintro e w' ⟨rfl, rfl⟩) | (go_at_call 10; refine (within_impl _ _ _ _).mono ?_; rintro e w' ⟨rfl, rfl⟩))
    refine (LW.out _).mono ?_
    rintro e w2 ⟨rfl, hb2⟩
    have A2 := Lib.hid (A1.out.later hb2)
    clear hb2 k0 k1 k2 xa0 ya0 xa1 ya1 xb0 yb0 xb1 yb1
    obtain ⟨-, RG, ⟨T1, T2⟩, -⟩ := A2.out
    have k0 := RG 0 _ rfl
    have k1 := RG 1 _ rfl
    have k2 := RG 2 _ rfl
    simp only [Nat.zero_add] at k0 k1 k2
    obtain ⟨ua0, xa0, ya0⟩ := there_at T1 (show 0 < 2 by omega)
    obtain ⟨ua1, xa1, ya1⟩ := there_at T1 (show 1 < 2 by omega)
    obtain ⟨ub0, xb0, yb0⟩ := there_at T2 (show 0 < 2 by omega)
    obtain ⟨ub1, xb1, yb1⟩ := there_at T2 (show 1 < 2 by omega)
    clear RG T1 T2
    have AB := A2
    have l0b : (U1 ≤ 0) = False := by simp; omega
    go_wp2_with fail
    rw [fieldF]
    go_wp2_with fail
    clear k0 k1 k2 xa0 ya0 xa1 ya1 xb0 yb0 xb1 yb1
    refine wp_region_held_drew (S := ArB w (w.heap.size + 1 + 1) [.int .i64 s, .int .i64 k, .int .i64 j] w.heap.size (w.heap.size + 1)) (by kernel_rfl) ?_ (fun hHeld => ?_)
    · exact AB.out.drew
    refine wpAnyH_take (i := 0) (v := .agg #[.int .i64 s, .int .i64 k, .int .i64 j]) rfl (by kernel_rfl) (by kernel_rfl) (by kernel_rfl) (fun _ _ _ h => h) (Or.inl ⟨by kernel_rfl, ?_⟩) (by assumption) ?_
    · intro w hSw
      try dsimp only at hSw
      obtain ⟨-, RG, -, -⟩ := hSw
      have k0 := RG 0 _ rfl
      simp only [Nat.zero_add] at k0
      have k1 := RG 1 _ rfl
      simp only [Nat.zero_add] at k1
      have k2 := RG 2 _ rfl
      simp only [Nat.zero_add] at k2
      clear RG
      go_simp
    try simp only [Act.put, List.setIfInBounds_toArray, List.set_cons_zero, List.set_cons_succ, List.getElem_toArray, List.getElem_cons_zero]
    refine wpAnyH_take (i := 1) (v := .int .i64 n) rfl (by kernel_rfl) (by kernel_rfl) (by kernel_rfl) (fun _ _ _ h => h) (Or.inl ⟨by kernel_rfl, ?_⟩) (by assumption) ?_
    · intro w hSw
      try dsimp only at hSw
      skip
      go_simp
    try simp only [Act.put, List.setIfInBounds_toArray, List.set_cons_zero, List.set_cons_succ, List.getElem_toArray, List.getElem_cons_zero, List.getElem_cons_succ]
    refine wpAnyH_take (i := 3) (v := .agg #[.int .i64 s, .int .i64 k, .int .i64 j]) rfl (by kernel_rfl) (by kernel_rfl) (by kernel_rfl) (fun _ _ _ h => h) (Or.inl ⟨by kernel_rfl, ?_⟩) (by assumption) ?_
    · intro w hSw
      try dsimp only at hSw
      obtain ⟨-, RG, -, -⟩ := hSw
      have k0 := RG 0 _ rfl
      simp only [Nat.zero_add] at k0
      have k1 := RG 1 _ rfl
      simp only [Nat.zero_add] at k1
      have k2 := RG 2 _ rfl
      simp only [Nat.zero_add] at k2
      clear RG
      go_simp
    try simp only [Act.put, List.setIfInBounds_toArray, List.set_cons_zero, List.set_cons_succ, List.getElem_toArray, List.getElem_cons_zero, List.getElem_cons_succ]
    refine wpAnyH_take (i := 4) (v := .int .i64 n) rfl (by kernel_rfl) (by kernel_rfl) (by kernel_rfl) (fun _ _ _ h => h) (Or.inl ⟨by kernel_rfl, ?_⟩) (by assumption) ?_
    · intro w hSw
      try dsimp only at hSw
      skip
      go_simp
    try simp only [Act.put, List.setIfInBounds_toArray, List.set_cons_zero, List.set_cons_succ, List.getElem_toArray, List.getElem_cons_zero, List.getElem_cons_succ]
    refine wpAnyH_ready (rs := [2]) (by kernel_rfl) (by simp) ?_
    refine AllReadyH.cons rfl (fun K hK => ?_) AllReadyH.nil
    go_simp
    go_at_call 17
    refine (LW.out _).mono ?_
    rintro e w2 ⟨rfl, hb⟩
    refine hK.out _ _ ?_ (fun hHeld' => ?_)
    · exact hHeld.later hb
    clear hK K hHeld
    have hHeld := hHeld'
    clear hHeld'
    try simp only [Act.put, List.setIfInBounds_toArray, List.set_cons_zero, List.set_cons_succ, List.getElem_toArray, List.getElem_cons_zero, List.getElem_cons_succ]
    refine wpAnyH_ready (rs := [5]) (by kernel_rfl) (by simp) ?_
    refine AllReadyH.cons rfl (fun K hK => ?_) AllReadyH.nil
    go_simp
    go_at_call 13
    refine (UW.out _).mono ?_
    rintro e w3 ⟨rfl, hb⟩
    refine hK.out _ _ ?_ (fun hHeld' => ?_)
    · exact hHeld.later hb
    clear hK K hHeld
    have hHeld := hHeld'
    clear hHeld'
    try simp only [Act.put, List.setIfInBounds_toArray, List.set_cons_zero, List.set_cons_succ, List.getElem_toArray, List.getElem_cons_zero, List.getElem_cons_succ]
    refine wpAnyH_ready (rs := [6]) (by kernel_rfl) (by simp) ?_
    refine AllReadyH.cons rfl (fun K hK => ?_) AllReadyH.nil
    have T1 := hHeld.2.2.1.1
    obtain ⟨ua0, xa0, ya0⟩ := there_at T1 (show 0 < 2 by omega)
    obtain ⟨ua1, xa1, ya1⟩ := there_at T1 (show 1 < 2 by omega)
    clear T1
    go_simp
    refine hK.out _ _ ?_ (fun hHeld' => ?_)
    · exact hHeld.seta.seta
    clear hK K hHeld
    have hHeld := hHeld'
    clear hHeld'
    try simp only [Act.put, List.setIfInBounds_toArray, List.set_cons_zero, List.set_cons_succ, List.getElem_toArray, List.getElem_cons_zero, List.getElem_cons_succ]
    refine wpAnyH_ready (rs := [7]) (by kernel_rfl) (by simp) ?_
    refine AllReadyH.cons rfl (fun K hK => ?_) AllReadyH.nil
    have T1 := hHeld.2.2.1.2
    obtain ⟨ub0, xb0, yb0⟩ := there_at T1 (show 0 < 2 by omega)
    obtain ⟨ub1, xb1, yb1⟩ := there_at T1 (show 1 < 2 by omega)
    clear T1
    go_simp
    refine hK.out _ _ ?_ (fun hHeld' => ?_)
    · exact hHeld.setb.setb
    clear hK K hHeld
    have hHeld := hHeld'
    clear hHeld'
    try simp only [Act.put, List.setIfInBounds_toArray, List.set_cons_zero, List.set_cons_succ, List.getElem_toArray, List.getElem_cons_zero, List.getElem_cons_succ]
    refine wpAnyH_take (i := 8) (v := .int .i64 0) rfl (by kernel_rfl) (by kernel_rfl) (by kernel_rfl) (fun _ _ _ h => h) (Or.inl ⟨by kernel_rfl, ?_⟩) (by assumption) ?_
    · intro w hSw
      try dsimp only at hSw
      skip
      go_simp
    try simp only [Act.put, List.setIfInBounds_toArray, List.set_cons_zero, List.set_cons_succ, List.getElem_toArray, List.getElem_cons_zero, List.getElem_cons_succ]
    refine wpAnyH_done (by kernel_rfl) ?_ _
    go_wp2
    refine bodyPost_ret (v := .tuple #[.agg #[.int .i64 U1, .int .i64 V1], .agg #[.int .i64 U2, .int .i64 V2], .int .i64 0]) (by simp [results, Try.results7, go_sem, xa0, xa1, xb0, xb1]) rfl ⟨arf2 F.out.1 F.out.2.1 F.out.2.2.1 F.out.2.2.2 rfl, hHeld.1⟩
end Go.Proofs.Ytdhikdaegmekbac
