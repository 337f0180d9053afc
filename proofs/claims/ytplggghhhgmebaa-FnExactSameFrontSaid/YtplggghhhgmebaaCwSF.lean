/-
  The walk of the law on SameFront.
-/
import Derived.Test.YtplggghhhgmebaaSmf
import Derived.Test.YtplggghhhgmebaaFr
import Derived.Deep.RegionWith
import Derived.Deep.RegionHeld3
namespace Go.Proofs.Ytplggghhhgmebaa
open Go.ChangeShapes Go.WideShapes Go.ChangeAt Go.RowKit Go.Joins

set_option maxRecDepth 100000 in
set_option maxHeartbeats 12800000 in
theorem walk_FnExactSameFront (F C : Int) (L : List Og) (a : Option Addr) (cap : Nat) (hl : L.length ≤ maxLen) (F' C' : Int) (M : List Og) (a' : Option Addr) (cap' : Nat) (hm : M.length ≤ maxLen) (w : World) (ha : OgArg w a L) (ha' : OgArg w a' M) :
    Calls Try.prog 4 #[.agg #[.int .i64 F, .int .i64 C, .slice a L.length cap], .agg #[.int .i64 F', .int .i64 C', .slice a' M.length cap']] w fun e w' => e = .returned (.bool true) ∧ Below w.heap.size w w' := by
  have E0' := Lib.hid (balloc (balloc0 w (.cells #[.int .i64 F, .int .i64 C, .slice a L.length cap] 24)) (.cells #[.int .i64 F', .int .i64 C', .slice a' M.length cap'] 24))
  have K' : Hid (∀ wx, Below ((w.alloc (.cells #[.int .i64 F, .int .i64 C, .slice a L.length cap] 24)).alloc (.cells #[.int .i64 F', .int .i64 C', .slice a' M.length cap'] 24)).heap.size ((w.alloc (.cells #[.int .i64 F, .int .i64 C, .slice a L.length cap] 24)).alloc (.cells #[.int .i64 F', .int .i64 C', .slice a' M.length cap'] 24)) wx → FrBox w.heap.size F C a cap L wx ∧ FrBox (w.heap.size + 1) F' C' a' cap' M wx) := fun wx hx => by
    have h1 := ((FrBox.new w F C a cap L 24).later (balloc0 (w.alloc (.cells #[.int .i64 F, .int .i64 C, .slice a L.length cap] 24)) (.cells #[.int .i64 F', .int .i64 C', .slice a' M.length cap'] 24))).later hx
    have h2 := (FrBox.new (w.alloc (.cells #[.int .i64 F, .int .i64 C, .slice a L.length cap] 24)) F' C' a' cap' M 24).later hx
    rw [World.size_alloc] at h2
    exact ⟨h1, h2⟩
  obtain ⟨W0, hW⟩ : ∃ W0, ((w.alloc (.cells #[.int .i64 F, .int .i64 C, .slice a L.length cap] 24)).alloc (.cells #[.int .i64 F', .int .i64 C', .slice a' M.length cap'] 24)) = W0 := ⟨_, rfl⟩
  rw [hW] at E0' K'
  have K := Lib.hid K'.out
  have E0 := Lib.hid E0'.out
  have HA := Lib.hid (ha.later E0.out)
  have HA' := Lib.hid (ha'.later E0.out)
  have HW := Lib.hid hW
  have Z := Lib.hid (sz_front F C L a cap 1048576 (by omega) (by omega) hl W0)
  have Z' := Lib.hid (fun left h0 h1 wx => sz_front F' C' M a' cap' left h0 h1 hm wx)
  clear hW E0' K' ha ha' hl hm
  obtain ⟨⟨k0, k1, k2⟩, j0, j1, j2⟩ := K.out _ (Below.refl _ _)
  go_enter Try.func4, Try.ntmps4
  go_wp2_with fail
  rw [HW.out]
  go_wp2_with fail
  refine Z.out.mono ?_
  rintro e w1 ⟨r, rfl, r0, r1, r2, hb1⟩
  have B1 := Lib.hid hb1
  have R2 := Lib.hid r2
  clear hb1 r2 k0 k1 k2 j0 j1 j2
  by_cases hr : r < 0
  · go_wp2
    go_ret
    exact ⟨rfl, bnext E0.out B1.out⟩
  have hL := R2.out (by omega)
  obtain ⟨⟨k0, k1, k2⟩, j0, j1, j2⟩ := K.out _ B1.out
  go_wp2_with fail
  refine (Z'.out r (by omega) (by omega) _).mono ?_
  rintro e w2 ⟨r', rfl, r0', r1', r2', hb2⟩
  have B2 := Lib.hid (bnext B1.out hb2)
  have R3 := Lib.hid r2'
  clear hb2 r2' k0 k1 k2 j0 j1 j2
  by_cases hr' : r' < 0
  · go_wp2
    go_ret
    exact ⟨rfl, bnext E0.out B2.out⟩
  have hM := R3.out (by omega)
  have S := Lib.hid (fun g g' wx (h : OgArg wx g L) (h' : OgArg wx g' M) => same_front_spec F C L g L.length hL F' C' M g' M.length hM wx h h')
  have I := Lib.hid (fun g g' wx (h : OgArg wx g L) (h' : OgArg wx g' M) => same_front_impl F C L g L.length hL F' C' M g' M.length hM wx h h')
  obtain ⟨b, hb⟩ : ∃ b : Bool, sameFrB F C L F' C' M = b := ⟨_, rfl⟩
  rw [hb] at S I
  clear hb
  go_wp2_with fail
  refine wp_region_held_drew (S := fun W => Below W0.heap.size W0 W) (by kernel_rfl) ?_ (fun hHeld => ?_)
  · exact B2.out.drew
  refine wpAnyH_take (i := 0) (v := .agg #[.int .i64 F, .int .i64 C, .slice a L.length cap]) rfl (by kernel_rfl) (by kernel_rfl) (by kernel_rfl) (fun _ _ _ h => h) (Or.inl ⟨by kernel_rfl, ?_⟩) (by assumption) ?_
  · intro w hSw
    try dsimp only at hSw
    obtain ⟨⟨k0, k1, k2⟩, j0, j1, j2⟩ := K.out _ hSw
    go_simp
  try simp only [Act.put, List.setIfInBounds_toArray, List.set_cons_zero, List.set_cons_succ, List.getElem_toArray, List.getElem_cons_zero]
  refine wpAnyH_take (i := 2) (v := .agg #[.int .i64 F', .int .i64 C', .slice a' M.length cap']) rfl (by kernel_rfl) (by kernel_rfl) (by kernel_rfl) (fun _ _ _ h => h) (Or.inl ⟨by kernel_rfl, ?_⟩) (by assumption) ?_
  · intro w hSw
    try dsimp only at hSw
    obtain ⟨⟨k0, k1, k2⟩, j0, j1, j2⟩ := K.out _ hSw
    go_simp
  try simp only [Act.put, List.setIfInBounds_toArray, List.set_cons_zero, List.set_cons_succ, List.getElem_toArray, List.getElem_cons_zero, List.getElem_cons_succ]
  refine wpAnyH_ready (rs := [1]) (by kernel_rfl) (by simp) ?_
  refine AllReadyH.cons rfl (fun K hK => ?_) AllReadyH.nil
  go_simp
  go_at_call 15
  refine (to_front F C L a cap hL _ (HA.out.later hHeld)).mono ?_
  rintro e w3 ⟨g3, rfl, o3, hb3⟩
  refine hK.out _ _ ?_ (fun hHeld' => ?_)
  · exact bnext hHeld hb3
  clear hK K hHeld
  have hHeld := hHeld'
  clear hHeld'
  have O3 := Lib.hid o3.arg
  clear o3 hb3
  try simp only [Act.put, List.setIfInBounds_toArray, List.set_cons_zero, List.set_cons_succ, List.getElem_toArray, List.getElem_cons_zero, List.getElem_cons_succ]
  refine wpAnyH_ready (rs := [3]) (by kernel_rfl) (by simp) ?_
  refine AllReadyH.cons rfl (fun K hK => ?_) AllReadyH.nil
  go_simp
  go_at_call 15
  refine (to_front F' C' M a' cap' hM _ (HA'.out.later hHeld)).mono ?_
  rintro e w4 ⟨g4, rfl, o4, hb4⟩
  refine hK.out _ _ ?_ (fun hHeld' => ?_)
  · exact bnext hHeld hb4
  clear hK K hHeld
  have hHeld := hHeld'
  clear hHeld'
  have O4 := Lib.hid o4.arg
  have P4 := Lib.hid (O3.out.later hb4)
  clear o4 hb4
  try simp only [Act.put, List.setIfInBounds_toArray, List.set_cons_zero, List.set_cons_succ, List.getElem_toArray, List.getElem_cons_zero, List.getElem_cons_succ]
  refine wpAnyH_ready (rs := [4]) (by kernel_rfl) (by simp) ?_
  refine AllReadyH.cons rfl (fun K hK => ?_) AllReadyH.nil
  go_simp
  go_at_call 18
  refine (S.out _ _ _ P4.out O4.out).mono ?_
  rintro e w5 ⟨rfl, hb5⟩
  refine hK.out _ _ ?_ (fun hHeld' => ?_)
  · exact bnext hHeld hb5
  clear hK K hHeld
  have hHeld := hHeld'
  clear hHeld'
  clear hb5
  try simp only [Act.put, List.setIfInBounds_toArray, List.set_cons_zero, List.set_cons_succ, List.getElem_toArray, List.getElem_cons_zero, List.getElem_cons_succ]
  refine wpAnyH_take (i := 5) (v := .bool b) rfl (by kernel_rfl) (by kernel_rfl) (by kernel_rfl) (fun _ _ _ h => h) (Or.inl ⟨by kernel_rfl, ?_⟩) (by assumption) ?_
  · intro w hSw
    try dsimp only at hSw
    skip
    go_simp
  try simp only [Act.put, List.setIfInBounds_toArray, List.set_cons_zero, List.set_cons_succ, List.getElem_toArray, List.getElem_cons_zero, List.getElem_cons_succ]
  refine wpAnyH_done (by kernel_rfl) ?_ _
  have B5 := Lib.hid hHeld
  clear hHeld
  obtain ⟨⟨k0, k1, k2⟩, j0, j1, j2⟩ := K.out _ B5.out
  go_wp2_with fail
  refine (to_front F C L a cap hL _ (HA.out.later B5.out)).mono ?_; rintro e w6 ⟨g6, rfl, o6, hb6⟩
  have B6 := Lib.hid (balloc (bnext B5.out hb6) (.cells #[.int .i64 F, .int .i64 C, .slice (some ⟨g6, 0, none⟩) L.length L.length] 29))
  have O6 := Lib.hid (o6.arg.later (balloc0 w6 (.cells #[.int .i64 F, .int .i64 C, .slice (some ⟨g6, 0, none⟩) L.length L.length] 29)))
  have X6 := Lib.hid (FrBox.new w6 F C (some ⟨g6, 0, none⟩) L.length L 29)
  clear hb6 o6 k0 k1 k2 j0 j1 j2
  obtain ⟨⟨k0, k1, k2⟩, j0, j1, j2⟩ := K.out _ B6.out
  go_wp2_with fail
  obtain ⟨V6, hV6⟩ : ∃ V6, w6.alloc (.cells #[.int .i64 F, .int .i64 C, .slice (some ⟨g6, 0, none⟩) L.length L.length] 29) = V6 := ⟨_, rfl⟩
  rw [hV6] at B6 O6 X6
  try rw [hV6]
  clear hV6 k0 k1 k2 j0 j1 j2
  refine (to_front F' C' M a' cap' hM _ (HA'.out.later B6.out)).mono ?_; rintro e w7 ⟨g7, rfl, o7, hb7⟩
  have B7 := Lib.hid (balloc (bnext B6.out hb7) (.cells #[.int .i64 F', .int .i64 C', .slice (some ⟨g7, 0, none⟩) M.length M.length] 29))
  have O7 := Lib.hid (o7.arg.later (balloc0 w7 (.cells #[.int .i64 F', .int .i64 C', .slice (some ⟨g7, 0, none⟩) M.length M.length] 29)))
  have P7 := Lib.hid ((O6.out.later hb7).later (balloc0 w7 (.cells #[.int .i64 F', .int .i64 C', .slice (some ⟨g7, 0, none⟩) M.length M.length] 29)))
  have X7 := Lib.hid ((X6.out.later hb7).later (balloc0 w7 (.cells #[.int .i64 F', .int .i64 C', .slice (some ⟨g7, 0, none⟩) M.length M.length] 29)))
  have Y7 := Lib.hid (FrBox.new w7 F' C' (some ⟨g7, 0, none⟩) M.length M 29)
  clear hb7 o7
  obtain ⟨x0, x1, x2⟩ := X7.out
  obtain ⟨y0, y1, y2⟩ := Y7.out
  go_wp2_with fail
  obtain ⟨V7, hV7⟩ : ∃ V7, w7.alloc (.cells #[.int .i64 F', .int .i64 C', .slice (some ⟨g7, 0, none⟩) M.length M.length] 29) = V7 := ⟨_, rfl⟩
  rw [hV7] at B7 O7 P7 X7 Y7
  try rw [hV7]
  clear hV7 x0 x1 x2 y0 y1 y2
  refine (I.out _ _ _ P7.out O7.out).mono ?_
  rintro e w8 ⟨rfl, hb8⟩
  have B8 := Lib.hid (bnext B7.out hb8)
  have A8 := Lib.hid (P7.out.later hb8)
  have A8' := Lib.hid (O7.out.later hb8)
  have X8 := Lib.hid (X7.out.later hb8)
  have Y8 := Lib.hid (Y7.out.later hb8)
  clear hb8
  go_wp2_with fail
  refine wp_region_held_drew (S := fun W => Below w8.heap.size w8 W) (by kernel_rfl) ?_ (fun hHeld => ?_)
  · exact (Below.refl _ _).drew
  refine wpAnyH_take (i := 0) (v := .agg #[.int .i64 F, .int .i64 C, .slice (some ⟨g6, 0, none⟩) L.length L.length]) rfl (by kernel_rfl) (by kernel_rfl) (by kernel_rfl) (fun _ _ _ h => h) (Or.inl ⟨by kernel_rfl, ?_⟩) (by assumption) ?_
  · intro w hSw
    try dsimp only at hSw
    obtain ⟨⟨k0, k1, k2⟩, j0, j1, j2⟩ := K.out _ (bnext B8.out hSw)
    obtain ⟨x0, x1, x2⟩ := X8.out.later hSw
    go_simp
  try simp only [Act.put, List.setIfInBounds_toArray, List.set_cons_zero, List.set_cons_succ, List.getElem_toArray, List.getElem_cons_zero]
  refine wpAnyH_take (i := 1) (v := .agg #[.int .i64 F, .int .i64 C, .slice a L.length cap]) rfl (by kernel_rfl) (by kernel_rfl) (by kernel_rfl) (fun _ _ _ h => h) (Or.inl ⟨by kernel_rfl, ?_⟩) (by assumption) ?_
  · intro w hSw
    try dsimp only at hSw
    obtain ⟨⟨k0, k1, k2⟩, j0, j1, j2⟩ := K.out _ (bnext B8.out hSw)
    obtain ⟨x0, x1, x2⟩ := X8.out.later hSw
    go_simp
  try simp only [Act.put, List.setIfInBounds_toArray, List.set_cons_zero, List.set_cons_succ, List.getElem_toArray, List.getElem_cons_zero, List.getElem_cons_succ]
  refine wpAnyH_ready (rs := [2]) (by kernel_rfl) (by simp) ?_
  refine AllReadyH.cons rfl (fun K hK => ?_) AllReadyH.nil
  go_simp
  go_at_call 15
  refine (to_front F C L a cap hL _ (HA.out.later (bnext B8.out hHeld))).mono ?_
  rintro e w9 ⟨g9, rfl, o9, hb9⟩
  refine hK.out _ _ ?_ (fun hHeld' => ?_)
  · exact bnext hHeld hb9
  clear hK K hHeld
  have hHeld := hHeld'
  clear hHeld'
  have O9 := Lib.hid o9.arg
  have A9 := Lib.hid (A8.out.later hHeld)
  clear o9 hb9
  try simp only [Act.put, List.setIfInBounds_toArray, List.set_cons_zero, List.set_cons_succ, List.getElem_toArray, List.getElem_cons_zero, List.getElem_cons_succ]
  refine wpAnyH_ready (rs := [3]) (by kernel_rfl) (by simp) ?_
  refine AllReadyH.cons rfl (fun K hK => ?_) AllReadyH.nil
  go_simp
  go_at_call 17
  refine (eq_front F C L _ _ _ _ (by omega) _ A9.out O9.out).mono ?_
  rintro e w10 ⟨rfl, hb10⟩
  refine hK.out _ _ ?_ (fun hHeld' => ?_)
  · exact bnext hHeld hb10
  clear hK K hHeld
  have hHeld := hHeld'
  clear hHeld'
  clear hb10
  try simp only [Act.put, List.setIfInBounds_toArray, List.set_cons_zero, List.set_cons_succ, List.getElem_toArray, List.getElem_cons_zero, List.getElem_cons_succ]
  refine wpAnyH_take (i := 4) (v := .bool false) rfl (by kernel_rfl) (by kernel_rfl) (by kernel_rfl) (fun _ _ _ h => h) (Or.inl ⟨by kernel_rfl, ?_⟩) (by assumption) ?_
  · intro w hSw
    try dsimp only at hSw
    skip
    go_simp
  try simp only [Act.put, List.setIfInBounds_toArray, List.set_cons_zero, List.set_cons_succ, List.getElem_toArray, List.getElem_cons_zero, List.getElem_cons_succ]
  refine wpAnyH_done (by kernel_rfl) ?_ _
  have B10 := Lib.hid (bnext B8.out hHeld)
  have A10 := Lib.hid (A8'.out.later hHeld)
  have Y10 := Lib.hid (Y8.out.later hHeld)
  clear hHeld
  go_wp2_with fail
  refine wp_region_held_drew (S := fun W => Below w10.heap.size w10 W) (by kernel_rfl) ?_ (fun hHeld => ?_)
  · exact (Below.refl _ _).drew
  refine wpAnyH_take (i := 0) (v := .agg #[.int .i64 F', .int .i64 C', .slice (some ⟨g7, 0, none⟩) M.length M.length]) rfl (by kernel_rfl) (by kernel_rfl) (by kernel_rfl) (fun _ _ _ h => h) (Or.inl ⟨by kernel_rfl, ?_⟩) (by assumption) ?_
  · intro w hSw
    try dsimp only at hSw
    obtain ⟨⟨k0, k1, k2⟩, j0, j1, j2⟩ := K.out _ (bnext B10.out hSw)
    obtain ⟨x0, x1, x2⟩ := Y10.out.later hSw
    go_simp
  try simp only [Act.put, List.setIfInBounds_toArray, List.set_cons_zero, List.set_cons_succ, List.getElem_toArray, List.getElem_cons_zero]
  refine wpAnyH_take (i := 1) (v := .agg #[.int .i64 F', .int .i64 C', .slice a' M.length cap']) rfl (by kernel_rfl) (by kernel_rfl) (by kernel_rfl) (fun _ _ _ h => h) (Or.inl ⟨by kernel_rfl, ?_⟩) (by assumption) ?_
  · intro w hSw
    try dsimp only at hSw
    obtain ⟨⟨k0, k1, k2⟩, j0, j1, j2⟩ := K.out _ (bnext B10.out hSw)
    obtain ⟨x0, x1, x2⟩ := Y10.out.later hSw
    go_simp
  try simp only [Act.put, List.setIfInBounds_toArray, List.set_cons_zero, List.set_cons_succ, List.getElem_toArray, List.getElem_cons_zero, List.getElem_cons_succ]
  refine wpAnyH_ready (rs := [2]) (by kernel_rfl) (by simp) ?_
  refine AllReadyH.cons rfl (fun K hK => ?_) AllReadyH.nil
  go_simp
  go_at_call 15
  refine (to_front F' C' M a' cap' hM _ (HA'.out.later (bnext B10.out hHeld))).mono ?_
  rintro e w11 ⟨g11, rfl, o11, hb11⟩
  refine hK.out _ _ ?_ (fun hHeld' => ?_)
  · exact bnext hHeld hb11
  clear hK K hHeld
  have hHeld := hHeld'
  clear hHeld'
  have O11 := Lib.hid o11.arg
  have A11 := Lib.hid (A10.out.later hHeld)
  clear o11 hb11
  try simp only [Act.put, List.setIfInBounds_toArray, List.set_cons_zero, List.set_cons_succ, List.getElem_toArray, List.getElem_cons_zero, List.getElem_cons_succ]
  refine wpAnyH_ready (rs := [3]) (by kernel_rfl) (by simp) ?_
  refine AllReadyH.cons rfl (fun K hK => ?_) AllReadyH.nil
  go_simp
  go_at_call 17
  refine (eq_front F' C' M _ _ _ _ (by omega) _ A11.out O11.out).mono ?_
  rintro e w12 ⟨rfl, hb12⟩
  refine hK.out _ _ ?_ (fun hHeld' => ?_)
  · exact bnext hHeld hb12
  clear hK K hHeld
  have hHeld := hHeld'
  clear hHeld'
  clear hb12
  try simp only [Act.put, List.setIfInBounds_toArray, List.set_cons_zero, List.set_cons_succ, List.getElem_toArray, List.getElem_cons_zero, List.getElem_cons_succ]
  refine wpAnyH_take (i := 4) (v := .bool false) rfl (by kernel_rfl) (by kernel_rfl) (by kernel_rfl) (fun _ _ _ h => h) (Or.inl ⟨by kernel_rfl, ?_⟩) (by assumption) ?_
  · intro w hSw
    try dsimp only at hSw
    skip
    go_simp
  try simp only [Act.put, List.setIfInBounds_toArray, List.set_cons_zero, List.set_cons_succ, List.getElem_toArray, List.getElem_cons_zero, List.getElem_cons_succ]
  refine wpAnyH_done (by kernel_rfl) ?_ _
  have B12 := Lib.hid (bnext B10.out hHeld)
  clear hHeld
  go_wp2
  go_ret
  exact ⟨rfl, bnext E0.out B12.out⟩
end Go.Proofs.Ytplggghhhgmebaa
