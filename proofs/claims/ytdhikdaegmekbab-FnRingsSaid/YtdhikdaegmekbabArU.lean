/-
  JointsOf, TaperOf, MustTaper: contracts of the program and of the model.
-/
import Derived.Test.YtdhikdaegmekbabArT
namespace Go.Proofs.Ytdhikdaegmekbab
open Go.ChangeShapes Go.WideShapes Go.ChangeAt Go.RowKit Go.Joins


theorem rN_none {R D B J : Int} (h : ¬ rC R D B J = 0) : rN R D B J = 0 := by rcases ring_cases R D B J with ⟨_, _, h3⟩ | ⟨_, _, _, h4⟩ | ⟨_, _, h3, _⟩ <;> omega
theorem rN_some {R D B J : Int} (h : rC R D B J = 0) : okR R D B J = true ∧ 1 ≤ rN R D B J ∧ rN R D B J ≤ 506 := by
  rcases ring_cases R D B J with ⟨_, h3, _⟩ | ⟨_, _, h4, _⟩ | ⟨h1, _, _, _, h5, h6, _⟩
  · omega
  · omega
  · exact ⟨h1, h5, h6⟩
set_option maxRecDepth 100000 in
set_option maxHeartbeats 6400000 in
theorem joints_impl (R D B J : Int) (w : World) : Calls Try.prog 48 #[.agg #[.int .i64 R, .int .i64 D, .int .i64 B, .int .i64 J]] w fun e w' => e = .returned (.tuple #[.agg #[.int .i64 (joN R R D B J), .int .i64 (joD R R D B J)], .agg #[.int .i64 (joN (R + D) R D B J), .int .i64 (joD (R + D) R D B J)], .int .i64 (rC R D B J)]) ∧ Below w.heap.size w w' := by
  by_cases h : rC R D B J = 0
  case neg =>
    have LY := Lib.hid (lay_none R D B J h)
    have F : Hid ((0 : Int) = joN R R D B J ∧ (0 : Int) = joD R R D B J ∧ (0 : Int) = joN (R + D) R D B J ∧ (0 : Int) = joD (R + D) R D B J) := ⟨by simp [joN, h], by simp [joD, h], by simp [joN, h], by simp [joD, h]⟩
    obtain ⟨c, hc⟩ : ∃ c, rC R D B J = c := ⟨_, rfl⟩
    rw [hc] at LY h ⊢
    clear hc
    have G0 := Lib.hid (range_new w #[.int .i64 R, .int .i64 D, .int .i64 B, .int .i64 J] 60)
    have E0 := Lib.hid (balloc0 w (.cells #[.int .i64 R, .int .i64 D, .int .i64 B, .int .i64 J] 60))
    have G0 := Lib.hid (World.rangeAt_alloc G0.out (.cells #[.int .i64 0, .int .i64 0] 26))
    have E0 := Lib.hid (balloc E0.out (.cells #[.int .i64 0, .int .i64 0] 26))
    have T0' := there_new (w.alloc (.cells #[.int .i64 R, .int .i64 D, .int .i64 B, .int .i64 J] 60)) #[.int .i64 0, .int .i64 0] 26 2 rfl
    rw [World.size_alloc] at T0'
    have T0_0 := Lib.hid T0'
    clear T0'
    have G0 := Lib.hid (World.rangeAt_alloc G0.out (.cells #[.int .i64 0, .int .i64 0] 26))
    have E0 := Lib.hid (balloc E0.out (.cells #[.int .i64 0, .int .i64 0] 26))
    have T0_0 := Lib.hid (there_below T0_0.out (balloc0 ((w.alloc (.cells #[.int .i64 R, .int .i64 D, .int .i64 B, .int .i64 J] 60)).alloc (.cells #[.int .i64 0, .int .i64 0] 26)) (.cells #[.int .i64 0, .int .i64 0] 26)))
    have T1' := there_new ((w.alloc (.cells #[.int .i64 R, .int .i64 D, .int .i64 B, .int .i64 J] 60)).alloc (.cells #[.int .i64 0, .int .i64 0] 26)) #[.int .i64 0, .int .i64 0] 26 2 rfl
    rw [World.size_alloc, World.size_alloc] at T1'
    have T1_0 := Lib.hid T1'
    clear T1'
    go_enter Try.func48, Try.ntmps48
    go_wp2_with fail
    refine (LY.out _).mono ?_
    rintro e w1 ⟨rfl, hb1⟩
    have G1 := Lib.hid (range_below G0.out hb1)
    have E1 := Lib.hid (bnext E0.out hb1)
    have T0_1 := Lib.hid (there_below T0_0.out hb1)
    have T1_1 := Lib.hid (there_below T1_0.out hb1)
    have z1 : w.heap.size + 3 ≤ w1.heap.size := by have := hb1.size; (try simp at this); omega
    clear hb1
    have k0 := G1.out 0 _ rfl
    have k1 := G1.out 1 _ rfl
    have k2 := G1.out 2 _ rfl
    have k3 := G1.out 3 _ rfl
    simp only [Nat.zero_add] at k0 k1 k2 k3
    obtain ⟨u00, x00, y00⟩ := there_at T0_1.out (show 0 < 2 by omega)
    obtain ⟨u01, x01, y01⟩ := there_at T0_1.out (show 1 < 2 by omega)
    obtain ⟨u10, x10, y10⟩ := there_at T1_1.out (show 0 < 2 by omega)
    obtain ⟨u11, x11, y11⟩ := there_at T1_1.out (show 1 < 2 by omega)
    have E1p := Lib.hid (balloc E1.out (.cells #[.int .i64 0, .int .i64 0, .int .i64 0, .int .i64 0, .int .i64 0] 110))
    have T0p := there_below T0_1.out (balloc0 w1 (.cells #[.int .i64 0, .int .i64 0, .int .i64 0, .int .i64 0, .int .i64 0] 110))
    have T1p := there_below T1_1.out (balloc0 w1 (.cells #[.int .i64 0, .int .i64 0, .int .i64 0, .int .i64 0, .int .i64 0] 110))
    clear k0 k1 k2 k3 x00 y00 x01 y01 x10 y10 x11 y11
    obtain ⟨u00, x00, y00⟩ := there_at T0p (show 0 < 2 by omega)
    obtain ⟨u01, x01, y01⟩ := there_at T0p (show 1 < 2 by omega)
    obtain ⟨u10, x10, y10⟩ := there_at T1p (show 0 < 2 by omega)
    obtain ⟨u11, x11, y11⟩ := there_at T1p (show 1 < 2 by omega)
    clear T0p T1p
    go_wp2
    refine bodyPost_ret (v := .tuple #[.agg #[.int .i64 0, .int .i64 0], .agg #[.int .i64 0, .int .i64 0], .int .i64 c]) (by simp [results, Try.results48, go_sem, x00, x01, x10, x11]) rfl ⟨arf2 F.out.1 F.out.2.1 F.out.2.2.1 F.out.2.2.2 rfl, ?_⟩
    exact (((E1p.out.setCell (by simp <;> omega) _).setCell (by simp <;> omega) _).setCell (by simp <;> omega) _).setCell (by simp <;> omega) _
  case pos =>
    have LY := Lib.hid (lay_some R D B J h)
    obtain ⟨h1, g0, g1⟩ := rN_some h
    obtain ⟨⟨r0, r1⟩, ⟨d0, d1⟩, ⟨b0, b1⟩, -⟩ := okR_true.1 h1
    have IJ := Lib.hid (inner_impl R D B J (rN R D B J) ⟨by omega, r1⟩ ⟨by omega, b1⟩ ⟨g0, g1⟩)
    have OJ := Lib.hid (outer_impl R D B J (rN R D B J) ⟨by omega, r1⟩ ⟨by omega, b1⟩ ⟨g0, g1⟩ ⟨by omega, d1⟩)
    obtain ⟨n, hn⟩ : ∃ n, rN R D B J = n := ⟨_, rfl⟩
    obtain ⟨U1, hU1⟩ : ∃ U, jN R B n = U := ⟨_, rfl⟩
    obtain ⟨V1, hV1⟩ : ∃ U, jD R B n = U := ⟨_, rfl⟩
    obtain ⟨U2, hU2⟩ : ∃ U, jN (R + D) B n = U := ⟨_, rfl⟩
    obtain ⟨V2, hV2⟩ : ∃ U, jD (R + D) B n = U := ⟨_, rfl⟩
    have F : Hid (U1 = joN R R D B J ∧ V1 = joD R R D B J ∧ U2 = joN (R + D) R D B J ∧ V2 = joD (R + D) R D B J) := ⟨by simp [joN, h, hn, hU1], by simp [joD, h, hn, hV1], by simp [joN, h, hn, hU2], by simp [joD, h, hn, hV2]⟩
    rw [h]
    rw [hn] at LY IJ OJ
    rw [hU1, hV1] at IJ
    rw [hU2, hV2] at OJ
    clear hn hU1 hV1 hU2 hV2 h h1 g0 g1
    have G0 := Lib.hid (range_new w #[.int .i64 R, .int .i64 D, .int .i64 B, .int .i64 J] 60)
    have E0 := Lib.hid (balloc0 w (.cells #[.int .i64 R, .int .i64 D, .int .i64 B, .int .i64 J] 60))
    have G0 := Lib.hid (World.rangeAt_alloc G0.out (.cells #[.int .i64 0, .int .i64 0] 26))
    have E0 := Lib.hid (balloc E0.out (.cells #[.int .i64 0, .int .i64 0] 26))
    have T0' := there_new (w.alloc (.cells #[.int .i64 R, .int .i64 D, .int .i64 B, .int .i64 J] 60)) #[.int .i64 0, .int .i64 0] 26 2 rfl
    rw [World.size_alloc] at T0'
    have T0_0 := Lib.hid T0'
    clear T0'
    have G0 := Lib.hid (World.rangeAt_alloc G0.out (.cells #[.int .i64 0, .int .i64 0] 26))
    have E0 := Lib.hid (balloc E0.out (.cells #[.int .i64 0, .int .i64 0] 26))
    have T0_0 := Lib.hid (there_below T0_0.out (balloc0 ((w.alloc (.cells #[.int .i64 R, .int .i64 D, .int .i64 B, .int .i64 J] 60)).alloc (.cells #[.int .i64 0, .int .i64 0] 26)) (.cells #[.int .i64 0, .int .i64 0] 26)))
    have T1' := there_new ((w.alloc (.cells #[.int .i64 R, .int .i64 D, .int .i64 B, .int .i64 J] 60)).alloc (.cells #[.int .i64 0, .int .i64 0] 26)) #[.int .i64 0, .int .i64 0] 26 2 rfl
    rw [World.size_alloc, World.size_alloc] at T1'
    have T1_0 := Lib.hid T1'
    clear T1'
    go_enter Try.func48, Try.ntmps48
    go_wp2_with fail
    refine (LY.out _).mono ?_
    rintro e w1 ⟨rfl, hb1⟩
    have G1 := Lib.hid (range_below G0.out hb1)
    have E1 := Lib.hid (bnext E0.out hb1)
    have T0_1 := Lib.hid (there_below T0_0.out hb1)
    have T1_1 := Lib.hid (there_below T1_0.out hb1)
    have z1 : w.heap.size + 3 ≤ w1.heap.size := by have := hb1.size; (try simp at this); omega
    clear hb1
    have k0 := G1.out 0 _ rfl
    have k1 := G1.out 1 _ rfl
    have k2 := G1.out 2 _ rfl
    have k3 := G1.out 3 _ rfl
    simp only [Nat.zero_add] at k0 k1 k2 k3
    obtain ⟨u00, x00, y00⟩ := there_at T0_1.out (show 0 < 2 by omega)
    obtain ⟨u01, x01, y01⟩ := there_at T0_1.out (show 1 < 2 by omega)
    obtain ⟨u10, x10, y10⟩ := there_at T1_1.out (show 0 < 2 by omega)
    obtain ⟨u11, x11, y11⟩ := there_at T1_1.out (show 1 < 2 by omega)
    have AB : Hid (ArB w w1.heap.size [.int .i64 R, .int .i64 D, .int .i64 B, .int .i64 J, .int .i64 n] (w.heap.size + 1) (w.heap.size + 1 + 1) (w1.alloc (.cells #[.int .i64 R, .int .i64 D, .int .i64 B, .int .i64 J, .int .i64 n] 110))) := ⟨balloc E1.out _, range_new w1 #[.int .i64 R, .int .i64 D, .int .i64 B, .int .i64 J, .int .i64 n] 110, ⟨there_below T0_1.out (balloc0 _ _), there_below T1_1.out (balloc0 _ _)⟩, by omega, by omega, by omega, by omega, by omega⟩
    go_wp2_with fail
    clear k0 k1 k2 k3 x00 y00 x01 y01 x10 y10 x11 y11
    refine wp_region_held_drew (S := ArB w w1.heap.size [.int .i64 R, .int .i64 D, .int .i64 B, .int .i64 J, .int .i64 n] (w.heap.size + 1) (w.heap.size + 1 + 1)) (by kernel_rfl) ?_ (fun hHeld => ?_)
    · exact AB.out.drew
    refine wpAnyH_take (i := 0) (v := .agg #[.int .i64 R, .int .i64 D, .int .i64 B, .int .i64 J, .int .i64 n]) rfl (by kernel_rfl) (by kernel_rfl) (by kernel_rfl) (fun _ _ _ h => h) (Or.inl ⟨by kernel_rfl, ?_⟩) (by assumption) ?_
    · intro w hSw
      try dsimp only at hSw
      obtain ⟨-, RG, -, -⟩ := hSw
      have k0 := RG 0 _ rfl
      simp only [Nat.zero_add] at k0
      have k1 := RG 1 _ rfl
      simp only [Nat.zero_add] at k1
      have k2 := RG 2 _ rfl
      simp only [Nat.zero_add] at k2
      have k3 := RG 3 _ rfl
      simp only [Nat.zero_add] at k3
      have k4 := RG 4 _ rfl
      simp only [Nat.zero_add] at k4
      clear RG
      go_simp
    try simp only [Act.put, List.setIfInBounds_toArray, List.set_cons_zero, List.set_cons_succ, List.getElem_toArray, List.getElem_cons_zero]
    refine wpAnyH_take (i := 2) (v := .agg #[.int .i64 R, .int .i64 D, .int .i64 B, .int .i64 J, .int .i64 n]) rfl (by kernel_rfl) (by kernel_rfl) (by kernel_rfl) (fun _ _ _ h => h) (Or.inl ⟨by kernel_rfl, ?_⟩) (by assumption) ?_
    · intro w hSw
      try dsimp only at hSw
      obtain ⟨-, RG, -, -⟩ := hSw
      have k0 := RG 0 _ rfl
      simp only [Nat.zero_add] at k0
      have k1 := RG 1 _ rfl
      simp only [Nat.zero_add] at k1
      have k2 := RG 2 _ rfl
      simp only [Nat.zero_add] at k2
      have k3 := RG 3 _ rfl
      simp only [Nat.zero_add] at k3
      have k4 := RG 4 _ rfl
      simp only [Nat.zero_add] at k4
      clear RG
      go_simp
    try simp only [Act.put, List.setIfInBounds_toArray, List.set_cons_zero, List.set_cons_succ, List.getElem_toArray, List.getElem_cons_zero, List.getElem_cons_succ]
    refine wpAnyH_ready (rs := [1]) (by kernel_rfl) (by simp) ?_
    refine AllReadyH.cons rfl (fun K hK => ?_) AllReadyH.nil
    go_simp
    go_at_call 98
    refine (IJ.out _).mono ?_
    rintro e w2 ⟨rfl, hb⟩
    refine hK.out _ _ ?_ (fun hHeld' => ?_)
    · exact hHeld.later hb
    clear hK K hHeld
    have hHeld := hHeld'
    clear hHeld'
    try simp only [Act.put, List.setIfInBounds_toArray, List.set_cons_zero, List.set_cons_succ, List.getElem_toArray, List.getElem_cons_zero, List.getElem_cons_succ]
    refine wpAnyH_ready (rs := [3]) (by kernel_rfl) (by simp) ?_
    refine AllReadyH.cons rfl (fun K hK => ?_) AllReadyH.nil
    go_simp
    go_at_call 99
    refine (OJ.out _).mono ?_
    rintro e w3 ⟨rfl, hb⟩
    refine hK.out _ _ ?_ (fun hHeld' => ?_)
    · exact hHeld.later hb
    clear hK K hHeld
    have hHeld := hHeld'
    clear hHeld'
    try simp only [Act.put, List.setIfInBounds_toArray, List.set_cons_zero, List.set_cons_succ, List.getElem_toArray, List.getElem_cons_zero, List.getElem_cons_succ]
    refine wpAnyH_ready (rs := [4]) (by kernel_rfl) (by simp) ?_
    refine AllReadyH.cons rfl (fun K hK => ?_) AllReadyH.nil
    have T1 := hHeld.2.2.1.1
    obtain ⟨ua0, xa0, ya0⟩ := there_at T1 (show 0 < 2 by omega)
    obtain ⟨ua1, xa1, ya1⟩ := there_at T1 (show 1 < 2 by omega)
    clear T1
    go_simp
    refine hK.out _ _ ?_ (fun hHeld' => ?_)
    · exact hHeld.seta.seta
    clear hK K hHeld
    have hHeld := hHeld'
    clear hHeld'
    try simp only [Act.put, List.setIfInBounds_toArray, List.set_cons_zero, List.set_cons_succ, List.getElem_toArray, List.getElem_cons_zero, List.getElem_cons_succ]
    refine wpAnyH_ready (rs := [5]) (by kernel_rfl) (by simp) ?_
    refine AllReadyH.cons rfl (fun K hK => ?_) AllReadyH.nil
    have T1 := hHeld.2.2.1.2
    obtain ⟨ub0, xb0, yb0⟩ := there_at T1 (show 0 < 2 by omega)
    obtain ⟨ub1, xb1, yb1⟩ := there_at T1 (show 1 < 2 by omega)
    clear T1
    go_simp
    refine hK.out _ _ ?_ (fun hHeld' => ?_)
    · exact hHeld.setb.setb
    clear hK K hHeld
    have hHeld := hHeld'
    clear hHeld'
    try simp only [Act.put, List.setIfInBounds_toArray, List.set_cons_zero, List.set_cons_succ, List.getElem_toArray, List.getElem_cons_zero, List.getElem_cons_succ]
    refine wpAnyH_take (i := 6) (v := .int .i64 0) rfl (by kernel_rfl) (by kernel_rfl) (by kernel_rfl) (fun _ _ _ h => h) (Or.inl ⟨by kernel_rfl, ?_⟩) (by assumption) ?_
    · intro w hSw
      try dsimp only at hSw
      skip
      go_simp
    try simp only [Act.put, List.setIfInBounds_toArray, List.set_cons_zero, List.set_cons_succ, List.getElem_toArray, List.getElem_cons_zero, List.getElem_cons_succ]
    refine wpAnyH_done (by kernel_rfl) ?_ _
    go_wp2
    refine bodyPost_ret (v := .tuple #[.agg #[.int .i64 U1, .int .i64 V1], .agg #[.int .i64 U2, .int .i64 V2], .int .i64 0]) (by simp [results, Try.results48, go_sem, xa0, xa1, xb0, xb1]) rfl ⟨arf2 F.out.1 F.out.2.1 F.out.2.2.1 F.out.2.2.2 rfl, hHeld.1⟩
set_option maxRecDepth 100000 in
set_option maxHeartbeats 6400000 in
theorem taperof_impl (R D B J : Int) (w : World) : Calls Try.prog 49 #[.agg #[.int .i64 R, .int .i64 D, .int .i64 B, .int .i64 J]] w fun e w' => e = .returned (.tuple #[.agg #[.int .i64 (taN R D B J), .int .i64 (taD R D B J)], .int .i64 (rC R D B J)]) ∧ Below w.heap.size w w' := by
  skip
  by_cases h : rC R D B J = 0
  case neg =>
    have LY := Lib.hid (lay_none R D B J h)
    have F : Hid ((0 : Int) = taN R D B J ∧ (0 : Int) = taD R D B J) := ⟨by simp [taN, h], by simp [taD, h]⟩
    obtain ⟨c, hc⟩ : ∃ c, rC R D B J = c := ⟨_, rfl⟩
    rw [hc] at LY h ⊢
    clear hc
    have G0 := Lib.hid (range_new w #[.int .i64 R, .int .i64 D, .int .i64 B, .int .i64 J] 60)
    have E0 := Lib.hid (balloc0 w (.cells #[.int .i64 R, .int .i64 D, .int .i64 B, .int .i64 J] 60))
    have G0 := Lib.hid (World.rangeAt_alloc G0.out (.cells #[.int .i64 0, .int .i64 0] 26))
    have E0 := Lib.hid (balloc E0.out (.cells #[.int .i64 0, .int .i64 0] 26))
    have T0' := there_new (w.alloc (.cells #[.int .i64 R, .int .i64 D, .int .i64 B, .int .i64 J] 60)) #[.int .i64 0, .int .i64 0] 26 2 rfl
    rw [World.size_alloc] at T0'
    have T0_0 := Lib.hid T0'
    clear T0'
    go_enter Try.func49, Try.ntmps49
    go_wp2_with fail
    refine (LY.out _).mono ?_
    rintro e w1 ⟨rfl, hb1⟩
    have G1 := Lib.hid (range_below G0.out hb1)
    have E1 := Lib.hid (bnext E0.out hb1)
    have T0_1 := Lib.hid (there_below T0_0.out hb1)
    have z1 : w.heap.size + 2 ≤ w1.heap.size := by have := hb1.size; (try simp at this); omega
    clear hb1
    have k0 := G1.out 0 _ rfl
    have k1 := G1.out 1 _ rfl
    have k2 := G1.out 2 _ rfl
    have k3 := G1.out 3 _ rfl
    simp only [Nat.zero_add] at k0 k1 k2 k3
    obtain ⟨u00, x00, y00⟩ := there_at T0_1.out (show 0 < 2 by omega)
    obtain ⟨u01, x01, y01⟩ := there_at T0_1.out (show 1 < 2 by omega)
    have E1p := Lib.hid (balloc E1.out (.cells #[.int .i64 0, .int .i64 0, .int .i64 0, .int .i64 0, .int .i64 0] 110))
    have T0p := there_below T0_1.out (balloc0 w1 (.cells #[.int .i64 0, .int .i64 0, .int .i64 0, .int .i64 0, .int .i64 0] 110))
    clear k0 k1 k2 k3 x00 y00 x01 y01
    obtain ⟨u00, x00, y00⟩ := there_at T0p (show 0 < 2 by omega)
    obtain ⟨u01, x01, y01⟩ := there_at T0p (show 1 < 2 by omega)
    clear T0p
    go_wp2
    refine bodyPost_ret (v := .tuple #[.agg #[.int .i64 0, .int .i64 0], .int .i64 c]) (by simp [results, Try.results49, go_sem, x00, x01]) rfl ⟨arf1 F.out.1 F.out.2 rfl, ?_⟩
    exact (E1p.out.setCell (by simp <;> omega) _).setCell (by simp <;> omega) _
  case pos =>
    have LY := Lib.hid (lay_some R D B J h)
    obtain ⟨h1, g0, g1⟩ := rN_some h
    obtain ⟨⟨r0, r1⟩, ⟨d0, d1⟩, ⟨b0, b1⟩, -⟩ := okR_true.1 h1
    have TP := Lib.hid (taper_impl R D B J (rN R D B J) ⟨by omega, d1⟩ ⟨g0, g1⟩)
    obtain ⟨U, hU⟩ : ∃ U, lowN (355 * D) (113 * rN R D B J) = U := ⟨_, rfl⟩
    obtain ⟨V, hV⟩ : ∃ U, lowD (355 * D) (113 * rN R D B J) = U := ⟨_, rfl⟩
    have F : Hid (U = taN R D B J ∧ V = taD R D B J) := ⟨by simp [taN, h, hU], by simp [taD, h, hV]⟩
    rw [hU, hV] at TP
    clear hU hV
    rw [h]
    obtain ⟨n, hn⟩ : ∃ n, rN R D B J = n := ⟨_, rfl⟩
    rw [hn] at LY TP g0 g1
    clear hn h h1
    have G0 := Lib.hid (range_new w #[.int .i64 R, .int .i64 D, .int .i64 B, .int .i64 J] 60)
    have E0 := Lib.hid (balloc0 w (.cells #[.int .i64 R, .int .i64 D, .int .i64 B, .int .i64 J] 60))
    have G0 := Lib.hid (World.rangeAt_alloc G0.out (.cells #[.int .i64 0, .int .i64 0] 26))
    have E0 := Lib.hid (balloc E0.out (.cells #[.int .i64 0, .int .i64 0] 26))
    have T0' := there_new (w.alloc (.cells #[.int .i64 R, .int .i64 D, .int .i64 B, .int .i64 J] 60)) #[.int .i64 0, .int .i64 0] 26 2 rfl
    rw [World.size_alloc] at T0'
    have T0_0 := Lib.hid T0'
    clear T0'
    go_enter Try.func49, Try.ntmps49
    go_wp2_with fail
    refine (LY.out _).mono ?_
    rintro e w1 ⟨rfl, hb1⟩
    have G1 := Lib.hid (range_below G0.out hb1)
    have E1 := Lib.hid (bnext E0.out hb1)
    have T0_1 := Lib.hid (there_below T0_0.out hb1)
    have z1 : w.heap.size + 2 ≤ w1.heap.size := by have := hb1.size; (try simp at this); omega
    clear hb1
    have k0 := G1.out 0 _ rfl
    have k1 := G1.out 1 _ rfl
    have k2 := G1.out 2 _ rfl
    have k3 := G1.out 3 _ rfl
    simp only [Nat.zero_add] at k0 k1 k2 k3
    obtain ⟨u00, x00, y00⟩ := there_at T0_1.out (show 0 < 2 by omega)
    obtain ⟨u01, x01, y01⟩ := there_at T0_1.out (show 1 < 2 by omega)
    have E1' := Lib.hid (balloc E1.out (.cells #[.int .i64 R, .int .i64 D, .int .i64 B, .int .i64 J, .int .i64 n] 110))
    have T1' := Lib.hid (there_below T0_1.out (balloc0 w1 (.cells #[.int .i64 R, .int .i64 D, .int .i64 B, .int .i64 J, .int .i64 n] 110)))
    go_wp2_with fail
    refine (TP.out _).mono ?_
    rintro e w2 ⟨rfl, hb2⟩
    have E2 := Lib.hid (bnext E1'.out hb2)
    have T2 := there_below T1'.out hb2
    clear k0 k1 k2 k3 x00 y00 x01 y01 hb2
    obtain ⟨u00, x00, y00⟩ := there_at T2 (show 0 < 2 by omega)
    obtain ⟨u01, x01, y01⟩ := there_at T2 (show 1 < 2 by omega)
    clear T2
    go_wp2
    refine bodyPost_ret (v := .tuple #[.agg #[.int .i64 U, .int .i64 V], .int .i64 0]) (by simp [results, Try.results49, go_sem, x00, x01]) rfl ⟨arf1 F.out.1 F.out.2 rfl, ?_⟩
    exact ((E2.out).setCell (by simp) _).setCell (by simp) _
end Go.Proofs.Ytdhikdaegmekbab
