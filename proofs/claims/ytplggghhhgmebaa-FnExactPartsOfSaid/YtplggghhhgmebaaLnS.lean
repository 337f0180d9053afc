/-
  LintelOf: the model's word.
-/
import Derived.Test.YtplggghhhgmebaaLnP
import Derived.Test.YtplggghhhgmebaaPtB
import Derived.Test.YtplggghhhgmebaaFvW
import Derived.Deep.RegionHeld3
namespace Go.Proofs.Ytplggghhhgmebaa
open Go.ChangeShapes Go.WideShapes Go.ChangeAt Go.RowKit Go.Joins

set_option maxRecDepth 100000 in
set_option maxHeartbeats 6400000 in
theorem lintel_spec (c : Og) (hc : c.small) (z : Int) (hz : 0 ≤ z ∧ z ≤ 1000) (w : World) : Calls Try.prog 72 #[.agg #[.int .i64 c.fr, .int .i64 c.tt, .int .i64 c.lo, .int .i64 c.hi], .int .i64 z] w fun e w' => e = .returned (.agg #[.int .i64 (c.fr - z), .int .i64 (c.tt + z)]) ∧ Below w.heap.size w w' := by
  obtain ⟨⟨h1, h2⟩, h3, h4⟩ := hc
  obtain ⟨z0, z1⟩ := hz
  go_enter Try.func72, Try.ntmps72
  go_wp2
  refine bodyPost_ret (v := .agg #[.int .i64 (c.fr - z), .int .i64 (c.tt + z)]) (by simp [results, Try.results72, go_sem]) rfl ⟨rfl, ?_⟩
  first | exact (((Below.refl _ _).alloc (Nat.le_refl _) _).alloc (by simp) _) | exact ((Below.refl _ _).alloc (Nat.le_refl _) _)
theorem badLn_or {F C z : Int} {c : Og} (h : c.fr - z < 0 ∨ F < c.tt + z ∨ c.hi = C) : c.badLn F C z = true := by simpa [Og.badLn] using h
theorem badLn_not {F C z : Int} {c : Og} (h1 : ¬ c.fr - z < 0) (h2 : ¬ F < c.tt + z) (h3 : ¬ c.hi = C) : c.badLn F C z = false := by simp [Og.badLn, h3]; omega
set_option maxRecDepth 100000 in
set_option maxHeartbeats 40000000 in
theorem lintelOf_spec (F C : Int) (L : List Og) (a : Option Addr) (cap : Nat) (hl : L.length ≤ 1048576) (k z : Int) (w : World) (ha : OgArg w a L) :
    Calls Try.prog 34 #[.agg #[.int .i64 F, .int .i64 C, .slice a L.length cap], .int .i64 k, .int .i64 z] w fun e w' => e = .returned (.tuple #[.agg #[.int .i64 (lnF F C L k z), .int .i64 (lnT F C L k z)], .int .i64 (lnK F C L k z)]) ∧ Below w.heap.size w w' := by
  have FB' := (FrBox.new w F C a cap L 29).later (balloc0 (w.alloc (.cells #[.int .i64 F, .int .i64 C, .slice a L.length cap] 29)) (.cells #[.int .i64 0, .int .i64 0] 51))
  have TZ' := ptZero (w.alloc (.cells #[.int .i64 F, .int .i64 C, .slice a L.length cap] 29))
  have E0' := Lib.hid (balloc (balloc0 w (.cells #[.int .i64 F, .int .i64 C, .slice a L.length cap] 29)) (.cells #[.int .i64 0, .int .i64 0] 51))
  have z0 : ((w.alloc (.cells #[.int .i64 F, .int .i64 C, .slice a L.length cap] 29)).alloc (.cells #[.int .i64 0, .int .i64 0] 51)).heap.size = w.heap.size + 2 := by simp
  obtain ⟨W0, hW⟩ : ∃ W0, (w.alloc (.cells #[.int .i64 F, .int .i64 C, .slice a L.length cap] 29)).alloc (.cells #[.int .i64 0, .int .i64 0] 51) = W0 := ⟨_, rfl⟩
  rw [hW] at FB' TZ' E0' z0
  rw [World.size_alloc] at TZ'
  have FB := Lib.hid FB'
  have TZ : Hid (∀ wx, Below W0.heap.size W0 wx → wx.there (w.heap.size + 1) 0 2) := TZ'
  have E0 := Lib.hid E0'.out
  have HA := Lib.hid (ha.later E0.out)
  have HW := Lib.hid hW
  clear hW E0' FB' TZ' ha
  have X := Lib.hid (okF_spec F C L a cap hl w.heap.size W0 FB.out HA.out)
  have I1 := Lib.hid (in_any k 0 ((L.length : Int) - 1))
  have I2 := Lib.hid (in_any z 0 20)
  cases hok : okFr F C L
  · rw [hok] at X
    obtain ⟨e1, e2, e3⟩ := ln_inv (k := k) (z := z) hok
    rw [e1, e2, e3]
    clear e1 e2 e3 hok
    go_enter Try.func34, Try.ntmps34
    go_wp2_with fail
    rw [HW.out]
    refine X.out.mono ?_
    rintro e w1 ⟨rfl, hb1⟩
    have B1 := Lib.hid hb1
    clear hb1
    have TP := Lib.hid (TZ.out _ B1.out)
    have GG := pt_put TP.out (0) (0)
    have BE : Hid (Below w.heap.size w (w1.setCells (w.heap.size + 1) 0 [.int .i64 (0), .int .i64 (0)])) := below_setCells (w.heap.size + 1) (Nat.le_add_right _ _) _ _ _ (bnext E0.out B1.out)
    obtain ⟨WE, hWE⟩ : ∃ WE, w1.setCells (w.heap.size + 1) 0 [.int .i64 (0), .int .i64 (0)] = WE := ⟨_, rfl⟩
    have hws : w1.setCells (w.heap.size + 1) 0 (#[Value.int .i64 (0), .int .i64 (0)] : Array Value).toList = WE := hWE
    rw [hWE] at GG BE
    have HWE := Lib.hid hws
    clear hWE hws
    obtain ⟨g0, g1⟩ := GG
    go_wp2_with (refine wpList_store_mid rfl 51 (.tmp 6) (.tmp 11) rfl (w.heap.size + 1) 0 #[.int .i64 (0), .int .i64 (0)] rfl rfl TP.out sizePt (pt_one _ _) ?_; rw [HWE.out])
    refine bodyPost_ret (v := .tuple #[.agg #[.int .i64 (0), .int .i64 (0)], .int .i64 1]) (by simp [results, Try.results34, go_sem, g0, g1]) rfl ⟨rfl, BE.out⟩
  have hF := okFr_true.1 hok
  have HOK := Lib.hid hok
  rw [hok] at X
  have hl8 : (L.length : Int) ≤ 8 := by have := hF.len; omega
  clear hok
  cases hik : inB k 0 ((L.length : Int) - 1)
  · obtain ⟨e1, e2, e3⟩ := ln_rng (k := k) (z := z) HOK.out (.inl hik)
    rw [e1, e2, e3]
    rw [hik] at I1
    clear e1 e2 e3 hik hF
    go_enter Try.func34, Try.ntmps34
    go_wp2_with fail
    rw [HW.out]
    refine X.out.mono ?_
    rintro e w1 ⟨rfl, hb1⟩
    have B1 := Lib.hid hb1
    obtain ⟨q0, q1, q2⟩ := FB.out.later hb1
    clear hb1
    go_wp2_with fail
    refine (I1.out _).mono ?_
    rintro e w2 ⟨rfl, rfl⟩
    clear q0 q1 q2
    have TP := Lib.hid (TZ.out _ B1.out)
    have GG := pt_put TP.out (0) (0)
    have BE : Hid (Below w.heap.size w (w1.setCells (w.heap.size + 1) 0 [.int .i64 (0), .int .i64 (0)])) := below_setCells (w.heap.size + 1) (Nat.le_add_right _ _) _ _ _ (bnext E0.out B1.out)
    obtain ⟨WE, hWE⟩ : ∃ WE, w1.setCells (w.heap.size + 1) 0 [.int .i64 (0), .int .i64 (0)] = WE := ⟨_, rfl⟩
    have hws : w1.setCells (w.heap.size + 1) 0 (#[Value.int .i64 (0), .int .i64 (0)] : Array Value).toList = WE := hWE
    rw [hWE] at GG BE
    have HWE := Lib.hid hws
    clear hWE hws
    obtain ⟨g0, g1⟩ := GG
    go_wp2_with (refine wpList_store_mid rfl 51 (.tmp 6) (.tmp 24) rfl (w.heap.size + 1) 0 #[.int .i64 (0), .int .i64 (0)] rfl rfl TP.out sizePt (pt_one _ _) ?_; rw [HWE.out])
    refine bodyPost_ret (v := .tuple #[.agg #[.int .i64 (0), .int .i64 (0)], .int .i64 2]) (by simp [results, Try.results34, go_sem, g0, g1]) rfl ⟨rfl, BE.out⟩
  cases hiz : inB z 0 20
  · obtain ⟨e1, e2, e3⟩ := ln_rng (k := k) (z := z) HOK.out (.inr hiz)
    rw [e1, e2, e3]
    rw [hik] at I1
    rw [hiz] at I2
    clear e1 e2 e3 hik hiz hF
    go_enter Try.func34, Try.ntmps34
    go_wp2_with fail
    rw [HW.out]
    refine X.out.mono ?_
    rintro e w1 ⟨rfl, hb1⟩
    have B1 := Lib.hid hb1
    obtain ⟨q0, q1, q2⟩ := FB.out.later hb1
    clear hb1
    go_wp2_with fail
    refine (I1.out _).mono ?_
    rintro e w2 ⟨rfl, rfl⟩
    go_wp2_with fail
    refine (I2.out _).mono ?_
    rintro e w2 ⟨rfl, rfl⟩
    clear q0 q1 q2
    have TP := Lib.hid (TZ.out _ B1.out)
    have GG := pt_put TP.out (0) (0)
    have BE : Hid (Below w.heap.size w (w1.setCells (w.heap.size + 1) 0 [.int .i64 (0), .int .i64 (0)])) := below_setCells (w.heap.size + 1) (Nat.le_add_right _ _) _ _ _ (bnext E0.out B1.out)
    obtain ⟨WE, hWE⟩ : ∃ WE, w1.setCells (w.heap.size + 1) 0 [.int .i64 (0), .int .i64 (0)] = WE := ⟨_, rfl⟩
    have hws : w1.setCells (w.heap.size + 1) 0 (#[Value.int .i64 (0), .int .i64 (0)] : Array Value).toList = WE := hWE
    rw [hWE] at GG BE
    have HWE := Lib.hid hws
    clear hWE hws
    obtain ⟨g0, g1⟩ := GG
    go_wp2_with (refine wpList_store_mid rfl 51 (.tmp 6) (.tmp 24) rfl (w.heap.size + 1) 0 #[.int .i64 (0), .int .i64 (0)] rfl rfl TP.out sizePt (pt_one _ _) ?_; rw [HWE.out])
    refine bodyPost_ret (v := .tuple #[.agg #[.int .i64 (0), .int .i64 (0)], .int .i64 2]) (by simp [results, Try.results34, go_sem, g0, g1]) rfl ⟨rfl, BE.out⟩
  rw [hik] at I1
  rw [hiz] at I2
  obtain ⟨hk0, hk1⟩ := inB_true.1 hik
  obtain ⟨hz0, hz1⟩ := inB_true.1 hiz
  obtain ⟨k, rfl⟩ := Int.eq_ofNat_of_zero_le hk0
  have hkl : k < L.length := by omega
  have hkl' : (k : Int) < (L.length : Int) := by omega
  obtain ⟨b, o, c, rfl, hc, hat⟩ := HA.out.at hkl
  have HC := Lib.hid hc
  have hsm : c.small := Og.small_of (hF.fit k c hc) hF.fl.2
  have hfit := Og.fit_true.1 (hF.fit k c hc)
  have LC := Lib.hid (fun wx => lintel_spec c hsm z (by omega) wx)
  have HI := Lib.hid (And.intro hik hiz)
  have hcF : c.tt ≤ F ∧ c.hi ≤ C := ⟨hfit.2.2.1, hfit.2.2.2.2.2⟩
  obtain ⟨hcF1, hcF2⟩ := hcF
  have hF200 : F ≤ 200 := hF.fl.2
  have hC40 : C ≤ 40 := hF.fc.2
  have hf0 : 0 ≤ c.fr := hfit.1
  have hft : c.fr < c.tt := hfit.2.1
  clear hc hik hiz hF hsm hfit
  by_cases h1 : c.fr - z < 0
  case pos =>
    obtain ⟨e1, e2, e3⟩ := ln_state HOK.out HI.out.1 HI.out.2 HC.out (badLn_or (.inl h1))
    rw [e1, e2, e3]
    clear e1 e2 e3
    go_enter Try.func34, Try.ntmps34
    go_wp2_with fail
    rw [HW.out]
    refine X.out.mono ?_
    rintro e w1 ⟨rfl, hb1⟩
    have B1 := Lib.hid hb1
    obtain ⟨q0, q1, q2⟩ := FB.out.later hb1
    obtain ⟨c0, c1, c2, c3⟩ := (OgArg.lies (HA.out.later hb1)).cells HC.out
    clear hb1
    go_wp2_with fail
    refine (I1.out _).mono ?_
    rintro e w2 ⟨rfl, rfl⟩
    go_wp2_with fail
    refine (I2.out _).mono ?_
    rintro e w2 ⟨rfl, rfl⟩
    go_wp2_with fail
    refine (LC.out _).mono ?_
    rintro e w2 ⟨rfl, hb2⟩
    have B2 := Lib.hid (bnext B1.out hb2)
    clear hb2 q0 q1 q2 c0 c1 c2 c3
    have PX' : ∀ wx, Below (w2.alloc (.cells #[.int .i64 (c.fr - z), .int .i64 (c.tt + z)] 51)).heap.size (w2.alloc (.cells #[.int .i64 (c.fr - z), .int .i64 (c.tt + z)] 51)) wx → PtBox w2.heap.size (c.fr - z) (c.tt + z) wx := fun wx hx => (PtBox.new w2 _ _ _).later hx
    have BV' : Below W0.heap.size W0 (w2.alloc (.cells #[.int .i64 (c.fr - z), .int .i64 (c.tt + z)] 51)) := balloc B2.out _
    go_wp2_with fail
    obtain ⟨V, hV⟩ : ∃ V, w2.alloc (.cells #[.int .i64 (c.fr - z), .int .i64 (c.tt + z)] 51) = V := ⟨_, rfl⟩
    rw [hV] at PX' BV'
    rw [hV]
    have PX := Lib.hid PX'
    have BV := Lib.hid BV'
    have FX : Hid (∀ wx, Below V.heap.size V wx → FrBox w.heap.size F C (some ⟨b, o, none⟩) cap L wx) := fun wx hx => (FB.out.later BV.out).later hx
    have LX : Hid (∀ wx, Below V.heap.size V wx → OgAt wx b o L) := fun wx hx => (OgArg.lies (HA.out.later BV.out)).later hx
    clear hV PX' BV'
    refine wp_region_held_drew (S := fun W => Below V.heap.size V W) (by kernel_rfl) ?_ (fun hHeld => ?_)
    · exact (Below.refl _ _).drew
    refine wpAnyH_take (i := 0) (v := .pointer (some ⟨w2.heap.size, 0, none⟩)) rfl (by kernel_rfl) (by kernel_rfl) (by kernel_rfl) (fun _ _ _ h => h) (Or.inl ⟨by kernel_rfl, ?_⟩) (by assumption) ?_
    · intro w hSw
      try dsimp only at hSw
      skip
      go_simp
    try simp only [Act.put, List.setIfInBounds_toArray, List.set_cons_zero, List.set_cons_succ, List.getElem_toArray, List.getElem_cons_zero]
    refine wpAnyH_take (i := 1) (v := .int .i64 (c.fr - z)) rfl (by kernel_rfl) (by kernel_rfl) (by kernel_rfl) (fun _ _ _ h => h) (Or.inl ⟨by kernel_rfl, ?_⟩) (by assumption) ?_
    · intro w hSw
      try dsimp only at hSw
      obtain ⟨q0, q1, q2⟩ := FX.out _ hSw
      obtain ⟨p0, p1⟩ := PX.out _ hSw
      obtain ⟨c0, c1, c2, c3⟩ := (LX.out _ hSw).cells HC.out
      go_simp
    try simp only [Act.put, List.setIfInBounds_toArray, List.set_cons_zero, List.set_cons_succ, List.getElem_toArray, List.getElem_cons_zero, List.getElem_cons_succ]
    refine wpAnyH_take (i := 2) (v := .bool true) rfl (by kernel_rfl) (by kernel_rfl) (by kernel_rfl) (fun _ _ _ h => h) (Or.inl ⟨by kernel_rfl, ?_⟩) (by assumption) ?_
    · intro w hSw
      try dsimp only at hSw
      skip
      go_simp
      all_goals first | omega | exact IntWalk.i64_in _ (by omega)
    try simp only [Act.put, List.setIfInBounds_toArray, List.set_cons_zero, List.set_cons_succ, List.getElem_toArray, List.getElem_cons_zero, List.getElem_cons_succ]
    refine wpAnyH_take (i := 3) (v := .bool true) rfl (by kernel_rfl) (by kernel_rfl) (by kernel_rfl) (fun _ _ _ h => h) (Or.inl ⟨by kernel_rfl, ?_⟩) (by assumption) ?_
    · intro w hSw
      try dsimp only at hSw
      skip
      go_simp
    try simp only [Act.put, List.setIfInBounds_toArray, List.set_cons_zero, List.set_cons_succ, List.getElem_toArray, List.getElem_cons_zero, List.getElem_cons_succ]
    refine wpAnyH_take (i := 4) (v := undef) rfl (by kernel_rfl) (by kernel_rfl) (by kernel_rfl) (fun _ _ _ h => h) (Or.inr ⟨by kernel_rfl, rfl⟩) (by assumption) ?_
    try simp only [Act.put, List.setIfInBounds_toArray, List.set_cons_zero, List.set_cons_succ, List.getElem_toArray, List.getElem_cons_zero, List.getElem_cons_succ]
    refine wpAnyH_take (i := 5) (v := undef) rfl (by kernel_rfl) (by kernel_rfl) (by kernel_rfl) (fun _ _ _ h => h) (Or.inr ⟨by kernel_rfl, rfl⟩) (by assumption) ?_
    try simp only [Act.put, List.setIfInBounds_toArray, List.set_cons_zero, List.set_cons_succ, List.getElem_toArray, List.getElem_cons_zero, List.getElem_cons_succ]
    refine wpAnyH_take (i := 6) (v := undef) rfl (by kernel_rfl) (by kernel_rfl) (by kernel_rfl) (fun _ _ _ h => h) (Or.inr ⟨by kernel_rfl, rfl⟩) (by assumption) ?_
    try simp only [Act.put, List.setIfInBounds_toArray, List.set_cons_zero, List.set_cons_succ, List.getElem_toArray, List.getElem_cons_zero, List.getElem_cons_succ]
    refine wpAnyH_take (i := 7) (v := undef) rfl (by kernel_rfl) (by kernel_rfl) (by kernel_rfl) (fun _ _ _ h => h) (Or.inr ⟨by kernel_rfl, rfl⟩) (by assumption) ?_
    try simp only [Act.put, List.setIfInBounds_toArray, List.set_cons_zero, List.set_cons_succ, List.getElem_toArray, List.getElem_cons_zero, List.getElem_cons_succ]
    refine wpAnyH_take (i := 8) (v := undef) rfl (by kernel_rfl) (by kernel_rfl) (by kernel_rfl) (fun _ _ _ h => h) (Or.inr ⟨by kernel_rfl, rfl⟩) (by assumption) ?_
    try simp only [Act.put, List.setIfInBounds_toArray, List.set_cons_zero, List.set_cons_succ, List.getElem_toArray, List.getElem_cons_zero, List.getElem_cons_succ]
    refine wpAnyH_take (i := 9) (v := .bool true) rfl (by kernel_rfl) (by kernel_rfl) (by kernel_rfl) (fun _ _ _ h => h) (Or.inl ⟨by kernel_rfl, ?_⟩) (by assumption) ?_
    · intro w hSw
      try dsimp only at hSw
      skip
      go_simp
    try simp only [Act.put, List.setIfInBounds_toArray, List.set_cons_zero, List.set_cons_succ, List.getElem_toArray, List.getElem_cons_zero, List.getElem_cons_succ]
    refine wpAnyH_take (i := 10) (v := .bool true) rfl (by kernel_rfl) (by kernel_rfl) (by kernel_rfl) (fun _ _ _ h => h) (Or.inl ⟨by kernel_rfl, ?_⟩) (by assumption) ?_
    · intro w hSw
      try dsimp only at hSw
      skip
      go_simp
    try simp only [Act.put, List.setIfInBounds_toArray, List.set_cons_zero, List.set_cons_succ, List.getElem_toArray, List.getElem_cons_zero, List.getElem_cons_succ]
    refine wpAnyH_take (i := 11) (v := undef) rfl (by kernel_rfl) (by kernel_rfl) (by kernel_rfl) (fun _ _ _ h => h) (Or.inr ⟨by kernel_rfl, rfl⟩) (by assumption) ?_
    try simp only [Act.put, List.setIfInBounds_toArray, List.set_cons_zero, List.set_cons_succ, List.getElem_toArray, List.getElem_cons_zero, List.getElem_cons_succ]
    refine wpAnyH_take (i := 12) (v := undef) rfl (by kernel_rfl) (by kernel_rfl) (by kernel_rfl) (fun _ _ _ h => h) (Or.inr ⟨by kernel_rfl, rfl⟩) (by assumption) ?_
    try simp only [Act.put, List.setIfInBounds_toArray, List.set_cons_zero, List.set_cons_succ, List.getElem_toArray, List.getElem_cons_zero, List.getElem_cons_succ]
    refine wpAnyH_take (i := 13) (v := undef) rfl (by kernel_rfl) (by kernel_rfl) (by kernel_rfl) (fun _ _ _ h => h) (Or.inr ⟨by kernel_rfl, rfl⟩) (by assumption) ?_
    try simp only [Act.put, List.setIfInBounds_toArray, List.set_cons_zero, List.set_cons_succ, List.getElem_toArray, List.getElem_cons_zero, List.getElem_cons_succ]
    refine wpAnyH_take (i := 14) (v := undef) rfl (by kernel_rfl) (by kernel_rfl) (by kernel_rfl) (fun _ _ _ h => h) (Or.inr ⟨by kernel_rfl, rfl⟩) (by assumption) ?_
    try simp only [Act.put, List.setIfInBounds_toArray, List.set_cons_zero, List.set_cons_succ, List.getElem_toArray, List.getElem_cons_zero, List.getElem_cons_succ]
    refine wpAnyH_take (i := 15) (v := undef) rfl (by kernel_rfl) (by kernel_rfl) (by kernel_rfl) (fun _ _ _ h => h) (Or.inr ⟨by kernel_rfl, rfl⟩) (by assumption) ?_
    try simp only [Act.put, List.setIfInBounds_toArray, List.set_cons_zero, List.set_cons_succ, List.getElem_toArray, List.getElem_cons_zero, List.getElem_cons_succ]
    refine wpAnyH_take (i := 16) (v := undef) rfl (by kernel_rfl) (by kernel_rfl) (by kernel_rfl) (fun _ _ _ h => h) (Or.inr ⟨by kernel_rfl, rfl⟩) (by assumption) ?_
    try simp only [Act.put, List.setIfInBounds_toArray, List.set_cons_zero, List.set_cons_succ, List.getElem_toArray, List.getElem_cons_zero, List.getElem_cons_succ]
    refine wpAnyH_take (i := 17) (v := undef) rfl (by kernel_rfl) (by kernel_rfl) (by kernel_rfl) (fun _ _ _ h => h) (Or.inr ⟨by kernel_rfl, rfl⟩) (by assumption) ?_
    try simp only [Act.put, List.setIfInBounds_toArray, List.set_cons_zero, List.set_cons_succ, List.getElem_toArray, List.getElem_cons_zero, List.getElem_cons_succ]
    refine wpAnyH_take (i := 18) (v := undef) rfl (by kernel_rfl) (by kernel_rfl) (by kernel_rfl) (fun _ _ _ h => h) (Or.inr ⟨by kernel_rfl, rfl⟩) (by assumption) ?_
    try simp only [Act.put, List.setIfInBounds_toArray, List.set_cons_zero, List.set_cons_succ, List.getElem_toArray, List.getElem_cons_zero, List.getElem_cons_succ]
    refine wpAnyH_take (i := 19) (v := undef) rfl (by kernel_rfl) (by kernel_rfl) (by kernel_rfl) (fun _ _ _ h => h) (Or.inr ⟨by kernel_rfl, rfl⟩) (by assumption) ?_
    try simp only [Act.put, List.setIfInBounds_toArray, List.set_cons_zero, List.set_cons_succ, List.getElem_toArray, List.getElem_cons_zero, List.getElem_cons_succ]
    refine wpAnyH_take (i := 20) (v := .bool true) rfl (by kernel_rfl) (by kernel_rfl) (by kernel_rfl) (fun _ _ _ h => h) (Or.inl ⟨by kernel_rfl, ?_⟩) (by assumption) ?_
    · intro w hSw
      try dsimp only at hSw
      skip
      go_simp
    try simp only [Act.put, List.setIfInBounds_toArray, List.set_cons_zero, List.set_cons_succ, List.getElem_toArray, List.getElem_cons_zero, List.getElem_cons_succ]
    refine wpAnyH_done (by kernel_rfl) ?_ _
    have BW := Lib.hid (BV.out.trans (Below.mono hHeld BV.out.size))
    skip
    clear hHeld
    obtain ⟨WV, hWV⟩ : ∃ WV, V.drew = WV := ⟨_, rfl⟩
    rw [hWV] at BW
    rw [hWV]
    clear hWV
    have TP := Lib.hid (TZ.out _ BW.out)
    have GG := pt_put TP.out (0) (0)
    have BE : Hid (Below w.heap.size w (WV.setCells (w.heap.size + 1) 0 [.int .i64 (0), .int .i64 (0)])) := below_setCells (w.heap.size + 1) (Nat.le_add_right _ _) _ _ _ (bnext E0.out BW.out)
    obtain ⟨WE, hWE⟩ : ∃ WE, WV.setCells (w.heap.size + 1) 0 [.int .i64 (0), .int .i64 (0)] = WE := ⟨_, rfl⟩
    have hws : WV.setCells (w.heap.size + 1) 0 (#[Value.int .i64 (0), .int .i64 (0)] : Array Value).toList = WE := hWE
    rw [hWE] at GG BE
    have HWE := Lib.hid hws
    clear hWE hws
    obtain ⟨g0, g1⟩ := GG
    go_wp2_with (refine wpList_store_mid rfl 51 (.tmp 6) (.tmp 53) rfl (w.heap.size + 1) 0 #[.int .i64 (0), .int .i64 (0)] rfl rfl TP.out sizePt (pt_one _ _) ?_; rw [HWE.out])
    refine bodyPost_ret (v := .tuple #[.agg #[.int .i64 (0), .int .i64 (0)], .int .i64 6]) (by simp [results, Try.results34, go_sem, g0, g1]) rfl ⟨rfl, BE.out⟩
  by_cases h2 : F < c.tt + z
  case pos =>
    obtain ⟨e1, e2, e3⟩ := ln_state HOK.out HI.out.1 HI.out.2 HC.out (badLn_or (F := F) (.inr (.inl h2)))
    rw [e1, e2, e3]
    clear e1 e2 e3
    go_enter Try.func34, Try.ntmps34
    go_wp2_with fail
    rw [HW.out]
    refine X.out.mono ?_
    rintro e w1 ⟨rfl, hb1⟩
    have B1 := Lib.hid hb1
    obtain ⟨q0, q1, q2⟩ := FB.out.later hb1
    obtain ⟨c0, c1, c2, c3⟩ := (OgArg.lies (HA.out.later hb1)).cells HC.out
    clear hb1
    go_wp2_with fail
    refine (I1.out _).mono ?_
    rintro e w2 ⟨rfl, rfl⟩
    go_wp2_with fail
    refine (I2.out _).mono ?_
    rintro e w2 ⟨rfl, rfl⟩
    go_wp2_with fail
    refine (LC.out _).mono ?_
    rintro e w2 ⟨rfl, hb2⟩
    have B2 := Lib.hid (bnext B1.out hb2)
    clear hb2 q0 q1 q2 c0 c1 c2 c3
    have PX' : ∀ wx, Below (w2.alloc (.cells #[.int .i64 (c.fr - z), .int .i64 (c.tt + z)] 51)).heap.size (w2.alloc (.cells #[.int .i64 (c.fr - z), .int .i64 (c.tt + z)] 51)) wx → PtBox w2.heap.size (c.fr - z) (c.tt + z) wx := fun wx hx => (PtBox.new w2 _ _ _).later hx
    have BV' : Below W0.heap.size W0 (w2.alloc (.cells #[.int .i64 (c.fr - z), .int .i64 (c.tt + z)] 51)) := balloc B2.out _
    go_wp2_with fail
    obtain ⟨V, hV⟩ : ∃ V, w2.alloc (.cells #[.int .i64 (c.fr - z), .int .i64 (c.tt + z)] 51) = V := ⟨_, rfl⟩
    rw [hV] at PX' BV'
    rw [hV]
    have PX := Lib.hid PX'
    have BV := Lib.hid BV'
    have FX : Hid (∀ wx, Below V.heap.size V wx → FrBox w.heap.size F C (some ⟨b, o, none⟩) cap L wx) := fun wx hx => (FB.out.later BV.out).later hx
    have LX : Hid (∀ wx, Below V.heap.size V wx → OgAt wx b o L) := fun wx hx => (OgArg.lies (HA.out.later BV.out)).later hx
    clear hV PX' BV'
    refine wp_region_held_drew (S := fun W => Below V.heap.size V W) (by kernel_rfl) ?_ (fun hHeld => ?_)
    · exact (Below.refl _ _).drew
    refine wpAnyH_take (i := 0) (v := .pointer (some ⟨w2.heap.size, 0, none⟩)) rfl (by kernel_rfl) (by kernel_rfl) (by kernel_rfl) (fun _ _ _ h => h) (Or.inl ⟨by kernel_rfl, ?_⟩) (by assumption) ?_
    · intro w hSw
      try dsimp only at hSw
      skip
      go_simp
    try simp only [Act.put, List.setIfInBounds_toArray, List.set_cons_zero, List.set_cons_succ, List.getElem_toArray, List.getElem_cons_zero]
    refine wpAnyH_take (i := 1) (v := .int .i64 (c.fr - z)) rfl (by kernel_rfl) (by kernel_rfl) (by kernel_rfl) (fun _ _ _ h => h) (Or.inl ⟨by kernel_rfl, ?_⟩) (by assumption) ?_
    · intro w hSw
      try dsimp only at hSw
      obtain ⟨q0, q1, q2⟩ := FX.out _ hSw
      obtain ⟨p0, p1⟩ := PX.out _ hSw
      obtain ⟨c0, c1, c2, c3⟩ := (LX.out _ hSw).cells HC.out
      go_simp
    try simp only [Act.put, List.setIfInBounds_toArray, List.set_cons_zero, List.set_cons_succ, List.getElem_toArray, List.getElem_cons_zero, List.getElem_cons_succ]
    refine wpAnyH_take (i := 2) (v := .bool false) rfl (by kernel_rfl) (by kernel_rfl) (by kernel_rfl) (fun _ _ _ h => h) (Or.inl ⟨by kernel_rfl, ?_⟩) (by assumption) ?_
    · intro w hSw
      try dsimp only at hSw
      skip
      go_simp
      all_goals first | omega | exact IntWalk.i64_in _ (by omega)
    try simp only [Act.put, List.setIfInBounds_toArray, List.set_cons_zero, List.set_cons_succ, List.getElem_toArray, List.getElem_cons_zero, List.getElem_cons_succ]
    refine wpAnyH_take (i := 3) (v := .bool false) rfl (by kernel_rfl) (by kernel_rfl) (by kernel_rfl) (fun _ _ _ h => h) (Or.inl ⟨by kernel_rfl, ?_⟩) (by assumption) ?_
    · intro w hSw
      try dsimp only at hSw
      skip
      go_simp
    try simp only [Act.put, List.setIfInBounds_toArray, List.set_cons_zero, List.set_cons_succ, List.getElem_toArray, List.getElem_cons_zero, List.getElem_cons_succ]
    refine wpAnyH_take (i := 4) (v := .pointer (some ⟨w2.heap.size, 1, none⟩)) rfl (by kernel_rfl) (by kernel_rfl) (by kernel_rfl) (fun _ _ _ h => h) (Or.inl ⟨by kernel_rfl, ?_⟩) (by assumption) ?_
    · intro w hSw
      try dsimp only at hSw
      skip
      go_simp
    try simp only [Act.put, List.setIfInBounds_toArray, List.set_cons_zero, List.set_cons_succ, List.getElem_toArray, List.getElem_cons_zero, List.getElem_cons_succ]
    refine wpAnyH_take (i := 5) (v := .int .i64 (c.tt + z)) rfl (by kernel_rfl) (by kernel_rfl) (by kernel_rfl) (fun _ _ _ h => h) (Or.inl ⟨by kernel_rfl, ?_⟩) (by assumption) ?_
    · intro w hSw
      try dsimp only at hSw
      obtain ⟨q0, q1, q2⟩ := FX.out _ hSw
      obtain ⟨p0, p1⟩ := PX.out _ hSw
      obtain ⟨c0, c1, c2, c3⟩ := (LX.out _ hSw).cells HC.out
      go_simp
    try simp only [Act.put, List.setIfInBounds_toArray, List.set_cons_zero, List.set_cons_succ, List.getElem_toArray, List.getElem_cons_zero, List.getElem_cons_succ]
    refine wpAnyH_take (i := 6) (v := .pointer (some ⟨w.heap.size, 0, none⟩)) rfl (by kernel_rfl) (by kernel_rfl) (by kernel_rfl) (fun _ _ _ h => h) (Or.inl ⟨by kernel_rfl, ?_⟩) (by assumption) ?_
    · intro w hSw
      try dsimp only at hSw
      skip
      go_simp
    try simp only [Act.put, List.setIfInBounds_toArray, List.set_cons_zero, List.set_cons_succ, List.getElem_toArray, List.getElem_cons_zero, List.getElem_cons_succ]
    refine wpAnyH_take (i := 7) (v := .int .i64 F) rfl (by kernel_rfl) (by kernel_rfl) (by kernel_rfl) (fun _ _ _ h => h) (Or.inl ⟨by kernel_rfl, ?_⟩) (by assumption) ?_
    · intro w hSw
      try dsimp only at hSw
      obtain ⟨q0, q1, q2⟩ := FX.out _ hSw
      obtain ⟨p0, p1⟩ := PX.out _ hSw
      obtain ⟨c0, c1, c2, c3⟩ := (LX.out _ hSw).cells HC.out
      go_simp
    try simp only [Act.put, List.setIfInBounds_toArray, List.set_cons_zero, List.set_cons_succ, List.getElem_toArray, List.getElem_cons_zero, List.getElem_cons_succ]
    refine wpAnyH_take (i := 8) (v := .bool true) rfl (by kernel_rfl) (by kernel_rfl) (by kernel_rfl) (fun _ _ _ h => h) (Or.inl ⟨by kernel_rfl, ?_⟩) (by assumption) ?_
    · intro w hSw
      try dsimp only at hSw
      skip
      go_simp
      all_goals first | omega | exact IntWalk.i64_in _ (by omega)
    try simp only [Act.put, List.setIfInBounds_toArray, List.set_cons_zero, List.set_cons_succ, List.getElem_toArray, List.getElem_cons_zero, List.getElem_cons_succ]
    refine wpAnyH_take (i := 9) (v := .bool true) rfl (by kernel_rfl) (by kernel_rfl) (by kernel_rfl) (fun _ _ _ h => h) (Or.inl ⟨by kernel_rfl, ?_⟩) (by assumption) ?_
    · intro w hSw
      try dsimp only at hSw
      skip
      go_simp
    try simp only [Act.put, List.setIfInBounds_toArray, List.set_cons_zero, List.set_cons_succ, List.getElem_toArray, List.getElem_cons_zero, List.getElem_cons_succ]
    refine wpAnyH_take (i := 10) (v := .bool true) rfl (by kernel_rfl) (by kernel_rfl) (by kernel_rfl) (fun _ _ _ h => h) (Or.inl ⟨by kernel_rfl, ?_⟩) (by assumption) ?_
    · intro w hSw
      try dsimp only at hSw
      skip
      go_simp
    try simp only [Act.put, List.setIfInBounds_toArray, List.set_cons_zero, List.set_cons_succ, List.getElem_toArray, List.getElem_cons_zero, List.getElem_cons_succ]
    refine wpAnyH_take (i := 11) (v := undef) rfl (by kernel_rfl) (by kernel_rfl) (by kernel_rfl) (fun _ _ _ h => h) (Or.inr ⟨by kernel_rfl, rfl⟩) (by assumption) ?_
    try simp only [Act.put, List.setIfInBounds_toArray, List.set_cons_zero, List.set_cons_succ, List.getElem_toArray, List.getElem_cons_zero, List.getElem_cons_succ]
    refine wpAnyH_take (i := 12) (v := undef) rfl (by kernel_rfl) (by kernel_rfl) (by kernel_rfl) (fun _ _ _ h => h) (Or.inr ⟨by kernel_rfl, rfl⟩) (by assumption) ?_
    try simp only [Act.put, List.setIfInBounds_toArray, List.set_cons_zero, List.set_cons_succ, List.getElem_toArray, List.getElem_cons_zero, List.getElem_cons_succ]
    refine wpAnyH_take (i := 13) (v := undef) rfl (by kernel_rfl) (by kernel_rfl) (by kernel_rfl) (fun _ _ _ h => h) (Or.inr ⟨by kernel_rfl, rfl⟩) (by assumption) ?_
    try simp only [Act.put, List.setIfInBounds_toArray, List.set_cons_zero, List.set_cons_succ, List.getElem_toArray, List.getElem_cons_zero, List.getElem_cons_succ]
    refine wpAnyH_take (i := 14) (v := undef) rfl (by kernel_rfl) (by kernel_rfl) (by kernel_rfl) (fun _ _ _ h => h) (Or.inr ⟨by kernel_rfl, rfl⟩) (by assumption) ?_
    try simp only [Act.put, List.setIfInBounds_toArray, List.set_cons_zero, List.set_cons_succ, List.getElem_toArray, List.getElem_cons_zero, List.getElem_cons_succ]
    refine wpAnyH_take (i := 15) (v := undef) rfl (by kernel_rfl) (by kernel_rfl) (by kernel_rfl) (fun _ _ _ h => h) (Or.inr ⟨by kernel_rfl, rfl⟩) (by assumption) ?_
    try simp only [Act.put, List.setIfInBounds_toArray, List.set_cons_zero, List.set_cons_succ, List.getElem_toArray, List.getElem_cons_zero, List.getElem_cons_succ]
    refine wpAnyH_take (i := 16) (v := undef) rfl (by kernel_rfl) (by kernel_rfl) (by kernel_rfl) (fun _ _ _ h => h) (Or.inr ⟨by kernel_rfl, rfl⟩) (by assumption) ?_
    try simp only [Act.put, List.setIfInBounds_toArray, List.set_cons_zero, List.set_cons_succ, List.getElem_toArray, List.getElem_cons_zero, List.getElem_cons_succ]
    refine wpAnyH_take (i := 17) (v := undef) rfl (by kernel_rfl) (by kernel_rfl) (by kernel_rfl) (fun _ _ _ h => h) (Or.inr ⟨by kernel_rfl, rfl⟩) (by assumption) ?_
    try simp only [Act.put, List.setIfInBounds_toArray, List.set_cons_zero, List.set_cons_succ, List.getElem_toArray, List.getElem_cons_zero, List.getElem_cons_succ]
    refine wpAnyH_take (i := 18) (v := undef) rfl (by kernel_rfl) (by kernel_rfl) (by kernel_rfl) (fun _ _ _ h => h) (Or.inr ⟨by kernel_rfl, rfl⟩) (by assumption) ?_
    try simp only [Act.put, List.setIfInBounds_toArray, List.set_cons_zero, List.set_cons_succ, List.getElem_toArray, List.getElem_cons_zero, List.getElem_cons_succ]
    refine wpAnyH_take (i := 19) (v := undef) rfl (by kernel_rfl) (by kernel_rfl) (by kernel_rfl) (fun _ _ _ h => h) (Or.inr ⟨by kernel_rfl, rfl⟩) (by assumption) ?_
    try simp only [Act.put, List.setIfInBounds_toArray, List.set_cons_zero, List.set_cons_succ, List.getElem_toArray, List.getElem_cons_zero, List.getElem_cons_succ]
    refine wpAnyH_take (i := 20) (v := .bool true) rfl (by kernel_rfl) (by kernel_rfl) (by kernel_rfl) (fun _ _ _ h => h) (Or.inl ⟨by kernel_rfl, ?_⟩) (by assumption) ?_
    · intro w hSw
      try dsimp only at hSw
      skip
      go_simp
    try simp only [Act.put, List.setIfInBounds_toArray, List.set_cons_zero, List.set_cons_succ, List.getElem_toArray, List.getElem_cons_zero, List.getElem_cons_succ]
    refine wpAnyH_done (by kernel_rfl) ?_ _
    have BW := Lib.hid (BV.out.trans (Below.mono hHeld BV.out.size))
    skip
    clear hHeld
    obtain ⟨WV, hWV⟩ : ∃ WV, V.drew = WV := ⟨_, rfl⟩
    rw [hWV] at BW
    rw [hWV]
    clear hWV
    have TP := Lib.hid (TZ.out _ BW.out)
    have GG := pt_put TP.out (0) (0)
    have BE : Hid (Below w.heap.size w (WV.setCells (w.heap.size + 1) 0 [.int .i64 (0), .int .i64 (0)])) := below_setCells (w.heap.size + 1) (Nat.le_add_right _ _) _ _ _ (bnext E0.out BW.out)
    obtain ⟨WE, hWE⟩ : ∃ WE, WV.setCells (w.heap.size + 1) 0 [.int .i64 (0), .int .i64 (0)] = WE := ⟨_, rfl⟩
    have hws : WV.setCells (w.heap.size + 1) 0 (#[Value.int .i64 (0), .int .i64 (0)] : Array Value).toList = WE := hWE
    rw [hWE] at GG BE
    have HWE := Lib.hid hws
    clear hWE hws
    obtain ⟨g0, g1⟩ := GG
    go_wp2_with (refine wpList_store_mid rfl 51 (.tmp 6) (.tmp 53) rfl (w.heap.size + 1) 0 #[.int .i64 (0), .int .i64 (0)] rfl rfl TP.out sizePt (pt_one _ _) ?_; rw [HWE.out])
    refine bodyPost_ret (v := .tuple #[.agg #[.int .i64 (0), .int .i64 (0)], .int .i64 6]) (by simp [results, Try.results34, go_sem, g0, g1]) rfl ⟨rfl, BE.out⟩
  by_cases h3 : c.hi = C
  case pos =>
    obtain ⟨e1, e2, e3⟩ := ln_state HOK.out HI.out.1 HI.out.2 HC.out (badLn_or (z := z) (.inr (.inr h3)))
    rw [e1, e2, e3]
    clear e1 e2 e3
    have h3' : C ≤ c.hi := by omega
    clear h3
    go_enter Try.func34, Try.ntmps34
    go_wp2_with fail
    rw [HW.out]
    refine X.out.mono ?_
    rintro e w1 ⟨rfl, hb1⟩
    have B1 := Lib.hid hb1
    obtain ⟨q0, q1, q2⟩ := FB.out.later hb1
    obtain ⟨c0, c1, c2, c3⟩ := (OgArg.lies (HA.out.later hb1)).cells HC.out
    clear hb1
    go_wp2_with fail
    refine (I1.out _).mono ?_
    rintro e w2 ⟨rfl, rfl⟩
    go_wp2_with fail
    refine (I2.out _).mono ?_
    rintro e w2 ⟨rfl, rfl⟩
    go_wp2_with fail
    refine (LC.out _).mono ?_
    rintro e w2 ⟨rfl, hb2⟩
    have B2 := Lib.hid (bnext B1.out hb2)
    clear hb2 q0 q1 q2 c0 c1 c2 c3
    have PX' : ∀ wx, Below (w2.alloc (.cells #[.int .i64 (c.fr - z), .int .i64 (c.tt + z)] 51)).heap.size (w2.alloc (.cells #[.int .i64 (c.fr - z), .int .i64 (c.tt + z)] 51)) wx → PtBox w2.heap.size (c.fr - z) (c.tt + z) wx := fun wx hx => (PtBox.new w2 _ _ _).later hx
    have BV' : Below W0.heap.size W0 (w2.alloc (.cells #[.int .i64 (c.fr - z), .int .i64 (c.tt + z)] 51)) := balloc B2.out _
    go_wp2_with fail
    obtain ⟨V, hV⟩ : ∃ V, w2.alloc (.cells #[.int .i64 (c.fr - z), .int .i64 (c.tt + z)] 51) = V := ⟨_, rfl⟩
    rw [hV] at PX' BV'
    rw [hV]
    have PX := Lib.hid PX'
    have BV := Lib.hid BV'
    have FX : Hid (∀ wx, Below V.heap.size V wx → FrBox w.heap.size F C (some ⟨b, o, none⟩) cap L wx) := fun wx hx => (FB.out.later BV.out).later hx
    have LX : Hid (∀ wx, Below V.heap.size V wx → OgAt wx b o L) := fun wx hx => (OgArg.lies (HA.out.later BV.out)).later hx
    clear hV PX' BV'
    refine wp_region_held_drew (S := fun W => Below V.heap.size V W) (by kernel_rfl) ?_ (fun hHeld => ?_)
    · exact (Below.refl _ _).drew
    refine wpAnyH_take (i := 0) (v := .pointer (some ⟨w2.heap.size, 0, none⟩)) rfl (by kernel_rfl) (by kernel_rfl) (by kernel_rfl) (fun _ _ _ h => h) (Or.inl ⟨by kernel_rfl, ?_⟩) (by assumption) ?_
    · intro w hSw
      try dsimp only at hSw
      skip
      go_simp
    try simp only [Act.put, List.setIfInBounds_toArray, List.set_cons_zero, List.set_cons_succ, List.getElem_toArray, List.getElem_cons_zero]
    refine wpAnyH_take (i := 1) (v := .int .i64 (c.fr - z)) rfl (by kernel_rfl) (by kernel_rfl) (by kernel_rfl) (fun _ _ _ h => h) (Or.inl ⟨by kernel_rfl, ?_⟩) (by assumption) ?_
    · intro w hSw
      try dsimp only at hSw
      obtain ⟨q0, q1, q2⟩ := FX.out _ hSw
      obtain ⟨p0, p1⟩ := PX.out _ hSw
      obtain ⟨c0, c1, c2, c3⟩ := (LX.out _ hSw).cells HC.out
      go_simp
    try simp only [Act.put, List.setIfInBounds_toArray, List.set_cons_zero, List.set_cons_succ, List.getElem_toArray, List.getElem_cons_zero, List.getElem_cons_succ]
    refine wpAnyH_take (i := 2) (v := .bool false) rfl (by kernel_rfl) (by kernel_rfl) (by kernel_rfl) (fun _ _ _ h => h) (Or.inl ⟨by kernel_rfl, ?_⟩) (by assumption) ?_
    · intro w hSw
      try dsimp only at hSw
      skip
      go_simp
      all_goals first | omega | exact IntWalk.i64_in _ (by omega)
    try simp only [Act.put, List.setIfInBounds_toArray, List.set_cons_zero, List.set_cons_succ, List.getElem_toArray, List.getElem_cons_zero, List.getElem_cons_succ]
    refine wpAnyH_take (i := 3) (v := .bool false) rfl (by kernel_rfl) (by kernel_rfl) (by kernel_rfl) (fun _ _ _ h => h) (Or.inl ⟨by kernel_rfl, ?_⟩) (by assumption) ?_
    · intro w hSw
      try dsimp only at hSw
      skip
      go_simp
    try simp only [Act.put, List.setIfInBounds_toArray, List.set_cons_zero, List.set_cons_succ, List.getElem_toArray, List.getElem_cons_zero, List.getElem_cons_succ]
    refine wpAnyH_take (i := 4) (v := .pointer (some ⟨w2.heap.size, 1, none⟩)) rfl (by kernel_rfl) (by kernel_rfl) (by kernel_rfl) (fun _ _ _ h => h) (Or.inl ⟨by kernel_rfl, ?_⟩) (by assumption) ?_
    · intro w hSw
      try dsimp only at hSw
      skip
      go_simp
    try simp only [Act.put, List.setIfInBounds_toArray, List.set_cons_zero, List.set_cons_succ, List.getElem_toArray, List.getElem_cons_zero, List.getElem_cons_succ]
    refine wpAnyH_take (i := 5) (v := .int .i64 (c.tt + z)) rfl (by kernel_rfl) (by kernel_rfl) (by kernel_rfl) (fun _ _ _ h => h) (Or.inl ⟨by kernel_rfl, ?_⟩) (by assumption) ?_
    · intro w hSw
      try dsimp only at hSw
      obtain ⟨q0, q1, q2⟩ := FX.out _ hSw
      obtain ⟨p0, p1⟩ := PX.out _ hSw
      obtain ⟨c0, c1, c2, c3⟩ := (LX.out _ hSw).cells HC.out
      go_simp
    try simp only [Act.put, List.setIfInBounds_toArray, List.set_cons_zero, List.set_cons_succ, List.getElem_toArray, List.getElem_cons_zero, List.getElem_cons_succ]
    refine wpAnyH_take (i := 6) (v := .pointer (some ⟨w.heap.size, 0, none⟩)) rfl (by kernel_rfl) (by kernel_rfl) (by kernel_rfl) (fun _ _ _ h => h) (Or.inl ⟨by kernel_rfl, ?_⟩) (by assumption) ?_
    · intro w hSw
      try dsimp only at hSw
      skip
      go_simp
    try simp only [Act.put, List.setIfInBounds_toArray, List.set_cons_zero, List.set_cons_succ, List.getElem_toArray, List.getElem_cons_zero, List.getElem_cons_succ]
    refine wpAnyH_take (i := 7) (v := .int .i64 F) rfl (by kernel_rfl) (by kernel_rfl) (by kernel_rfl) (fun _ _ _ h => h) (Or.inl ⟨by kernel_rfl, ?_⟩) (by assumption) ?_
    · intro w hSw
      try dsimp only at hSw
      obtain ⟨q0, q1, q2⟩ := FX.out _ hSw
      obtain ⟨p0, p1⟩ := PX.out _ hSw
      obtain ⟨c0, c1, c2, c3⟩ := (LX.out _ hSw).cells HC.out
      go_simp
    try simp only [Act.put, List.setIfInBounds_toArray, List.set_cons_zero, List.set_cons_succ, List.getElem_toArray, List.getElem_cons_zero, List.getElem_cons_succ]
    refine wpAnyH_take (i := 8) (v := .bool false) rfl (by kernel_rfl) (by kernel_rfl) (by kernel_rfl) (fun _ _ _ h => h) (Or.inl ⟨by kernel_rfl, ?_⟩) (by assumption) ?_
    · intro w hSw
      try dsimp only at hSw
      skip
      go_simp
      all_goals first | omega | exact IntWalk.i64_in _ (by omega)
    try simp only [Act.put, List.setIfInBounds_toArray, List.set_cons_zero, List.set_cons_succ, List.getElem_toArray, List.getElem_cons_zero, List.getElem_cons_succ]
    refine wpAnyH_take (i := 9) (v := .bool false) rfl (by kernel_rfl) (by kernel_rfl) (by kernel_rfl) (fun _ _ _ h => h) (Or.inl ⟨by kernel_rfl, ?_⟩) (by assumption) ?_
    · intro w hSw
      try dsimp only at hSw
      skip
      go_simp
    try simp only [Act.put, List.setIfInBounds_toArray, List.set_cons_zero, List.set_cons_succ, List.getElem_toArray, List.getElem_cons_zero, List.getElem_cons_succ]
    refine wpAnyH_take (i := 10) (v := .bool false) rfl (by kernel_rfl) (by kernel_rfl) (by kernel_rfl) (fun _ _ _ h => h) (Or.inl ⟨by kernel_rfl, ?_⟩) (by assumption) ?_
    · intro w hSw
      try dsimp only at hSw
      skip
      go_simp
    try simp only [Act.put, List.setIfInBounds_toArray, List.set_cons_zero, List.set_cons_succ, List.getElem_toArray, List.getElem_cons_zero, List.getElem_cons_succ]
    refine wpAnyH_take (i := 11) (v := .pointer (some ⟨w.heap.size, 2, none⟩)) rfl (by kernel_rfl) (by kernel_rfl) (by kernel_rfl) (fun _ _ _ h => h) (Or.inl ⟨by kernel_rfl, ?_⟩) (by assumption) ?_
    · intro w hSw
      try dsimp only at hSw
      skip
      go_simp
    try simp only [Act.put, List.setIfInBounds_toArray, List.set_cons_zero, List.set_cons_succ, List.getElem_toArray, List.getElem_cons_zero, List.getElem_cons_succ]
    refine wpAnyH_take (i := 12) (v := .slice (some ⟨b, o, none⟩) L.length cap) rfl (by kernel_rfl) (by kernel_rfl) (by kernel_rfl) (fun _ _ _ h => h) (Or.inl ⟨by kernel_rfl, ?_⟩) (by assumption) ?_
    · intro w hSw
      try dsimp only at hSw
      obtain ⟨q0, q1, q2⟩ := FX.out _ hSw
      obtain ⟨p0, p1⟩ := PX.out _ hSw
      obtain ⟨c0, c1, c2, c3⟩ := (LX.out _ hSw).cells HC.out
      go_simp
    try simp only [Act.put, List.setIfInBounds_toArray, List.set_cons_zero, List.set_cons_succ, List.getElem_toArray, List.getElem_cons_zero, List.getElem_cons_succ]
    refine wpAnyH_take (i := 13) (v := .int .i64 (k : Int)) rfl (by kernel_rfl) (by kernel_rfl) (by kernel_rfl) (fun _ _ _ h => h) (Or.inl ⟨by kernel_rfl, ?_⟩) (by assumption) ?_
    · intro w hSw
      try dsimp only at hSw
      skip
      go_simp
    try simp only [Act.put, List.setIfInBounds_toArray, List.set_cons_zero, List.set_cons_succ, List.getElem_toArray, List.getElem_cons_zero, List.getElem_cons_succ]
    refine wpAnyH_take (i := 14) (v := .pointer (some ⟨b, o + k * 4, none⟩)) rfl (by kernel_rfl) (by kernel_rfl) (by kernel_rfl) (fun _ _ _ h => h) (Or.inl ⟨by kernel_rfl, ?_⟩) (by assumption) ?_
    · intro w hSw
      try dsimp only at hSw
      skip
      go_simp
      all_goals first | omega | exact IntWalk.i64_in _ (by omega)
    try simp only [Act.put, List.setIfInBounds_toArray, List.set_cons_zero, List.set_cons_succ, List.getElem_toArray, List.getElem_cons_zero, List.getElem_cons_succ]
    refine wpAnyH_take (i := 15) (v := .pointer (some ⟨b, o + k * 4 + 3, none⟩)) rfl (by kernel_rfl) (by kernel_rfl) (by kernel_rfl) (fun _ _ _ h => h) (Or.inl ⟨by kernel_rfl, ?_⟩) (by assumption) ?_
    · intro w hSw
      try dsimp only at hSw
      skip
      go_simp
    try simp only [Act.put, List.setIfInBounds_toArray, List.set_cons_zero, List.set_cons_succ, List.getElem_toArray, List.getElem_cons_zero, List.getElem_cons_succ]
    refine wpAnyH_take (i := 16) (v := .int .i64 c.hi) rfl (by kernel_rfl) (by kernel_rfl) (by kernel_rfl) (fun _ _ _ h => h) (Or.inl ⟨by kernel_rfl, ?_⟩) (by assumption) ?_
    · intro w hSw
      try dsimp only at hSw
      obtain ⟨q0, q1, q2⟩ := FX.out _ hSw
      obtain ⟨p0, p1⟩ := PX.out _ hSw
      obtain ⟨c0, c1, c2, c3⟩ := (LX.out _ hSw).cells HC.out
      go_simp
    try simp only [Act.put, List.setIfInBounds_toArray, List.set_cons_zero, List.set_cons_succ, List.getElem_toArray, List.getElem_cons_zero, List.getElem_cons_succ]
    refine wpAnyH_take (i := 17) (v := .pointer (some ⟨w.heap.size, 1, none⟩)) rfl (by kernel_rfl) (by kernel_rfl) (by kernel_rfl) (fun _ _ _ h => h) (Or.inl ⟨by kernel_rfl, ?_⟩) (by assumption) ?_
    · intro w hSw
      try dsimp only at hSw
      skip
      go_simp
    try simp only [Act.put, List.setIfInBounds_toArray, List.set_cons_zero, List.set_cons_succ, List.getElem_toArray, List.getElem_cons_zero, List.getElem_cons_succ]
    refine wpAnyH_take (i := 18) (v := .int .i64 C) rfl (by kernel_rfl) (by kernel_rfl) (by kernel_rfl) (fun _ _ _ h => h) (Or.inl ⟨by kernel_rfl, ?_⟩) (by assumption) ?_
    · intro w hSw
      try dsimp only at hSw
      obtain ⟨q0, q1, q2⟩ := FX.out _ hSw
      obtain ⟨p0, p1⟩ := PX.out _ hSw
      obtain ⟨c0, c1, c2, c3⟩ := (LX.out _ hSw).cells HC.out
      go_simp
    try simp only [Act.put, List.setIfInBounds_toArray, List.set_cons_zero, List.set_cons_succ, List.getElem_toArray, List.getElem_cons_zero, List.getElem_cons_succ]
    refine wpAnyH_take (i := 19) (v := .bool true) rfl (by kernel_rfl) (by kernel_rfl) (by kernel_rfl) (fun _ _ _ h => h) (Or.inl ⟨by kernel_rfl, ?_⟩) (by assumption) ?_
    · intro w hSw
      try dsimp only at hSw
      skip
      go_simp
      all_goals first | omega | exact IntWalk.i64_in _ (by omega)
    try simp only [Act.put, List.setIfInBounds_toArray, List.set_cons_zero, List.set_cons_succ, List.getElem_toArray, List.getElem_cons_zero, List.getElem_cons_succ]
    refine wpAnyH_take (i := 20) (v := .bool true) rfl (by kernel_rfl) (by kernel_rfl) (by kernel_rfl) (fun _ _ _ h => h) (Or.inl ⟨by kernel_rfl, ?_⟩) (by assumption) ?_
    · intro w hSw
      try dsimp only at hSw
      skip
      go_simp
    try simp only [Act.put, List.setIfInBounds_toArray, List.set_cons_zero, List.set_cons_succ, List.getElem_toArray, List.getElem_cons_zero, List.getElem_cons_succ]
    refine wpAnyH_done (by kernel_rfl) ?_ _
    have BW := Lib.hid (BV.out.trans (Below.mono hHeld BV.out.size))
    skip
    clear hHeld
    obtain ⟨WV, hWV⟩ : ∃ WV, V.drew = WV := ⟨_, rfl⟩
    rw [hWV] at BW
    rw [hWV]
    clear hWV
    have TP := Lib.hid (TZ.out _ BW.out)
    have GG := pt_put TP.out (0) (0)
    have BE : Hid (Below w.heap.size w (WV.setCells (w.heap.size + 1) 0 [.int .i64 (0), .int .i64 (0)])) := below_setCells (w.heap.size + 1) (Nat.le_add_right _ _) _ _ _ (bnext E0.out BW.out)
    obtain ⟨WE, hWE⟩ : ∃ WE, WV.setCells (w.heap.size + 1) 0 [.int .i64 (0), .int .i64 (0)] = WE := ⟨_, rfl⟩
    have hws : WV.setCells (w.heap.size + 1) 0 (#[Value.int .i64 (0), .int .i64 (0)] : Array Value).toList = WE := hWE
    rw [hWE] at GG BE
    have HWE := Lib.hid hws
    clear hWE hws
    obtain ⟨g0, g1⟩ := GG
    go_wp2_with (refine wpList_store_mid rfl 51 (.tmp 6) (.tmp 53) rfl (w.heap.size + 1) 0 #[.int .i64 (0), .int .i64 (0)] rfl rfl TP.out sizePt (pt_one _ _) ?_; rw [HWE.out])
    refine bodyPost_ret (v := .tuple #[.agg #[.int .i64 (0), .int .i64 (0)], .int .i64 6]) (by simp [results, Try.results34, go_sem, g0, g1]) rfl ⟨rfl, BE.out⟩
  obtain ⟨e1, e2, e3⟩ := ln_ok HOK.out HI.out.1 HI.out.2 HC.out (badLn_not h1 h2 h3)
  rw [e1, e2, e3]
  clear e1 e2 e3
  have h3' : ¬ C ≤ c.hi := by omega
  clear h3
  go_enter Try.func34, Try.ntmps34
  go_wp2_with fail
  rw [HW.out]
  refine X.out.mono ?_
  rintro e w1 ⟨rfl, hb1⟩
  have B1 := Lib.hid hb1
  obtain ⟨q0, q1, q2⟩ := FB.out.later hb1
  obtain ⟨c0, c1, c2, c3⟩ := (OgArg.lies (HA.out.later hb1)).cells HC.out
  clear hb1
  go_wp2_with fail
  refine (I1.out _).mono ?_
  rintro e w2 ⟨rfl, rfl⟩
  go_wp2_with fail
  refine (I2.out _).mono ?_
  rintro e w2 ⟨rfl, rfl⟩
  go_wp2_with fail
  refine (LC.out _).mono ?_
  rintro e w2 ⟨rfl, hb2⟩
  have B2 := Lib.hid (bnext B1.out hb2)
  clear hb2 q0 q1 q2 c0 c1 c2 c3
  have PX' : ∀ wx, Below (w2.alloc (.cells #[.int .i64 (c.fr - z), .int .i64 (c.tt + z)] 51)).heap.size (w2.alloc (.cells #[.int .i64 (c.fr - z), .int .i64 (c.tt + z)] 51)) wx → PtBox w2.heap.size (c.fr - z) (c.tt + z) wx := fun wx hx => (PtBox.new w2 _ _ _).later hx
  have BV' : Below W0.heap.size W0 (w2.alloc (.cells #[.int .i64 (c.fr - z), .int .i64 (c.tt + z)] 51)) := balloc B2.out _
  go_wp2_with fail
  obtain ⟨V, hV⟩ : ∃ V, w2.alloc (.cells #[.int .i64 (c.fr - z), .int .i64 (c.tt + z)] 51) = V := ⟨_, rfl⟩
  rw [hV] at PX' BV'
  rw [hV]
  have PX := Lib.hid PX'
  have BV := Lib.hid BV'
  have FX : Hid (∀ wx, Below V.heap.size V wx → FrBox w.heap.size F C (some ⟨b, o, none⟩) cap L wx) := fun wx hx => (FB.out.later BV.out).later hx
  have LX : Hid (∀ wx, Below V.heap.size V wx → OgAt wx b o L) := fun wx hx => (OgArg.lies (HA.out.later BV.out)).later hx
  clear hV PX' BV'
  refine wp_region_held_drew (S := fun W => Below V.heap.size V W) (by kernel_rfl) ?_ (fun hHeld => ?_)
  · exact (Below.refl _ _).drew
  refine wpAnyH_take (i := 0) (v := .pointer (some ⟨w2.heap.size, 0, none⟩)) rfl (by kernel_rfl) (by kernel_rfl) (by kernel_rfl) (fun _ _ _ h => h) (Or.inl ⟨by kernel_rfl, ?_⟩) (by assumption) ?_
  · intro w hSw
    try dsimp only at hSw
    skip
    go_simp
  try simp only [Act.put, List.setIfInBounds_toArray, List.set_cons_zero, List.set_cons_succ, List.getElem_toArray, List.getElem_cons_zero]
  refine wpAnyH_take (i := 1) (v := .int .i64 (c.fr - z)) rfl (by kernel_rfl) (by kernel_rfl) (by kernel_rfl) (fun _ _ _ h => h) (Or.inl ⟨by kernel_rfl, ?_⟩) (by assumption) ?_
  · intro w hSw
    try dsimp only at hSw
    obtain ⟨q0, q1, q2⟩ := FX.out _ hSw
    obtain ⟨p0, p1⟩ := PX.out _ hSw
    obtain ⟨c0, c1, c2, c3⟩ := (LX.out _ hSw).cells HC.out
    go_simp
  try simp only [Act.put, List.setIfInBounds_toArray, List.set_cons_zero, List.set_cons_succ, List.getElem_toArray, List.getElem_cons_zero, List.getElem_cons_succ]
  refine wpAnyH_take (i := 2) (v := .bool false) rfl (by kernel_rfl) (by kernel_rfl) (by kernel_rfl) (fun _ _ _ h => h) (Or.inl ⟨by kernel_rfl, ?_⟩) (by assumption) ?_
  · intro w hSw
    try dsimp only at hSw
    skip
    go_simp
    all_goals first | omega | exact IntWalk.i64_in _ (by omega)
  try simp only [Act.put, List.setIfInBounds_toArray, List.set_cons_zero, List.set_cons_succ, List.getElem_toArray, List.getElem_cons_zero, List.getElem_cons_succ]
  refine wpAnyH_take (i := 3) (v := .bool false) rfl (by kernel_rfl) (by kernel_rfl) (by kernel_rfl) (fun _ _ _ h => h) (Or.inl ⟨by kernel_rfl, ?_⟩) (by assumption) ?_
  · intro w hSw
    try dsimp only at hSw
    skip
    go_simp
  try simp only [Act.put, List.setIfInBounds_toArray, List.set_cons_zero, List.set_cons_succ, List.getElem_toArray, List.getElem_cons_zero, List.getElem_cons_succ]
  refine wpAnyH_take (i := 4) (v := .pointer (some ⟨w2.heap.size, 1, none⟩)) rfl (by kernel_rfl) (by kernel_rfl) (by kernel_rfl) (fun _ _ _ h => h) (Or.inl ⟨by kernel_rfl, ?_⟩) (by assumption) ?_
  · intro w hSw
    try dsimp only at hSw
    skip
    go_simp
  try simp only [Act.put, List.setIfInBounds_toArray, List.set_cons_zero, List.set_cons_succ, List.getElem_toArray, List.getElem_cons_zero, List.getElem_cons_succ]
  refine wpAnyH_take (i := 5) (v := .int .i64 (c.tt + z)) rfl (by kernel_rfl) (by kernel_rfl) (by kernel_rfl) (fun _ _ _ h => h) (Or.inl ⟨by kernel_rfl, ?_⟩) (by assumption) ?_
  · intro w hSw
    try dsimp only at hSw
    obtain ⟨q0, q1, q2⟩ := FX.out _ hSw
    obtain ⟨p0, p1⟩ := PX.out _ hSw
    obtain ⟨c0, c1, c2, c3⟩ := (LX.out _ hSw).cells HC.out
    go_simp
  try simp only [Act.put, List.setIfInBounds_toArray, List.set_cons_zero, List.set_cons_succ, List.getElem_toArray, List.getElem_cons_zero, List.getElem_cons_succ]
  refine wpAnyH_take (i := 6) (v := .pointer (some ⟨w.heap.size, 0, none⟩)) rfl (by kernel_rfl) (by kernel_rfl) (by kernel_rfl) (fun _ _ _ h => h) (Or.inl ⟨by kernel_rfl, ?_⟩) (by assumption) ?_
  · intro w hSw
    try dsimp only at hSw
    skip
    go_simp
  try simp only [Act.put, List.setIfInBounds_toArray, List.set_cons_zero, List.set_cons_succ, List.getElem_toArray, List.getElem_cons_zero, List.getElem_cons_succ]
  refine wpAnyH_take (i := 7) (v := .int .i64 F) rfl (by kernel_rfl) (by kernel_rfl) (by kernel_rfl) (fun _ _ _ h => h) (Or.inl ⟨by kernel_rfl, ?_⟩) (by assumption) ?_
  · intro w hSw
    try dsimp only at hSw
    obtain ⟨q0, q1, q2⟩ := FX.out _ hSw
    obtain ⟨p0, p1⟩ := PX.out _ hSw
    obtain ⟨c0, c1, c2, c3⟩ := (LX.out _ hSw).cells HC.out
    go_simp
  try simp only [Act.put, List.setIfInBounds_toArray, List.set_cons_zero, List.set_cons_succ, List.getElem_toArray, List.getElem_cons_zero, List.getElem_cons_succ]
  refine wpAnyH_take (i := 8) (v := .bool false) rfl (by kernel_rfl) (by kernel_rfl) (by kernel_rfl) (fun _ _ _ h => h) (Or.inl ⟨by kernel_rfl, ?_⟩) (by assumption) ?_
  · intro w hSw
    try dsimp only at hSw
    skip
    go_simp
    all_goals first | omega | exact IntWalk.i64_in _ (by omega)
  try simp only [Act.put, List.setIfInBounds_toArray, List.set_cons_zero, List.set_cons_succ, List.getElem_toArray, List.getElem_cons_zero, List.getElem_cons_succ]
  refine wpAnyH_take (i := 9) (v := .bool false) rfl (by kernel_rfl) (by kernel_rfl) (by kernel_rfl) (fun _ _ _ h => h) (Or.inl ⟨by kernel_rfl, ?_⟩) (by assumption) ?_
  · intro w hSw
    try dsimp only at hSw
    skip
    go_simp
  try simp only [Act.put, List.setIfInBounds_toArray, List.set_cons_zero, List.set_cons_succ, List.getElem_toArray, List.getElem_cons_zero, List.getElem_cons_succ]
  refine wpAnyH_take (i := 10) (v := .bool false) rfl (by kernel_rfl) (by kernel_rfl) (by kernel_rfl) (fun _ _ _ h => h) (Or.inl ⟨by kernel_rfl, ?_⟩) (by assumption) ?_
  · intro w hSw
    try dsimp only at hSw
    skip
    go_simp
  try simp only [Act.put, List.setIfInBounds_toArray, List.set_cons_zero, List.set_cons_succ, List.getElem_toArray, List.getElem_cons_zero, List.getElem_cons_succ]
  refine wpAnyH_take (i := 11) (v := .pointer (some ⟨w.heap.size, 2, none⟩)) rfl (by kernel_rfl) (by kernel_rfl) (by kernel_rfl) (fun _ _ _ h => h) (Or.inl ⟨by kernel_rfl, ?_⟩) (by assumption) ?_
  · intro w hSw
    try dsimp only at hSw
    skip
    go_simp
  try simp only [Act.put, List.setIfInBounds_toArray, List.set_cons_zero, List.set_cons_succ, List.getElem_toArray, List.getElem_cons_zero, List.getElem_cons_succ]
  refine wpAnyH_take (i := 12) (v := .slice (some ⟨b, o, none⟩) L.length cap) rfl (by kernel_rfl) (by kernel_rfl) (by kernel_rfl) (fun _ _ _ h => h) (Or.inl ⟨by kernel_rfl, ?_⟩) (by assumption) ?_
  · intro w hSw
    try dsimp only at hSw
    obtain ⟨q0, q1, q2⟩ := FX.out _ hSw
    obtain ⟨p0, p1⟩ := PX.out _ hSw
    obtain ⟨c0, c1, c2, c3⟩ := (LX.out _ hSw).cells HC.out
    go_simp
  try simp only [Act.put, List.setIfInBounds_toArray, List.set_cons_zero, List.set_cons_succ, List.getElem_toArray, List.getElem_cons_zero, List.getElem_cons_succ]
  refine wpAnyH_take (i := 13) (v := .int .i64 (k : Int)) rfl (by kernel_rfl) (by kernel_rfl) (by kernel_rfl) (fun _ _ _ h => h) (Or.inl ⟨by kernel_rfl, ?_⟩) (by assumption) ?_
  · intro w hSw
    try dsimp only at hSw
    skip
    go_simp
  try simp only [Act.put, List.setIfInBounds_toArray, List.set_cons_zero, List.set_cons_succ, List.getElem_toArray, List.getElem_cons_zero, List.getElem_cons_succ]
  refine wpAnyH_take (i := 14) (v := .pointer (some ⟨b, o + k * 4, none⟩)) rfl (by kernel_rfl) (by kernel_rfl) (by kernel_rfl) (fun _ _ _ h => h) (Or.inl ⟨by kernel_rfl, ?_⟩) (by assumption) ?_
  · intro w hSw
    try dsimp only at hSw
    skip
    go_simp
    all_goals first | omega | exact IntWalk.i64_in _ (by omega)
  try simp only [Act.put, List.setIfInBounds_toArray, List.set_cons_zero, List.set_cons_succ, List.getElem_toArray, List.getElem_cons_zero, List.getElem_cons_succ]
  refine wpAnyH_take (i := 15) (v := .pointer (some ⟨b, o + k * 4 + 3, none⟩)) rfl (by kernel_rfl) (by kernel_rfl) (by kernel_rfl) (fun _ _ _ h => h) (Or.inl ⟨by kernel_rfl, ?_⟩) (by assumption) ?_
  · intro w hSw
    try dsimp only at hSw
    skip
    go_simp
  try simp only [Act.put, List.setIfInBounds_toArray, List.set_cons_zero, List.set_cons_succ, List.getElem_toArray, List.getElem_cons_zero, List.getElem_cons_succ]
  refine wpAnyH_take (i := 16) (v := .int .i64 c.hi) rfl (by kernel_rfl) (by kernel_rfl) (by kernel_rfl) (fun _ _ _ h => h) (Or.inl ⟨by kernel_rfl, ?_⟩) (by assumption) ?_
  · intro w hSw
    try dsimp only at hSw
    obtain ⟨q0, q1, q2⟩ := FX.out _ hSw
    obtain ⟨p0, p1⟩ := PX.out _ hSw
    obtain ⟨c0, c1, c2, c3⟩ := (LX.out _ hSw).cells HC.out
    go_simp
  try simp only [Act.put, List.setIfInBounds_toArray, List.set_cons_zero, List.set_cons_succ, List.getElem_toArray, List.getElem_cons_zero, List.getElem_cons_succ]
  refine wpAnyH_take (i := 17) (v := .pointer (some ⟨w.heap.size, 1, none⟩)) rfl (by kernel_rfl) (by kernel_rfl) (by kernel_rfl) (fun _ _ _ h => h) (Or.inl ⟨by kernel_rfl, ?_⟩) (by assumption) ?_
  · intro w hSw
    try dsimp only at hSw
    skip
    go_simp
  try simp only [Act.put, List.setIfInBounds_toArray, List.set_cons_zero, List.set_cons_succ, List.getElem_toArray, List.getElem_cons_zero, List.getElem_cons_succ]
  refine wpAnyH_take (i := 18) (v := .int .i64 C) rfl (by kernel_rfl) (by kernel_rfl) (by kernel_rfl) (fun _ _ _ h => h) (Or.inl ⟨by kernel_rfl, ?_⟩) (by assumption) ?_
  · intro w hSw
    try dsimp only at hSw
    obtain ⟨q0, q1, q2⟩ := FX.out _ hSw
    obtain ⟨p0, p1⟩ := PX.out _ hSw
    obtain ⟨c0, c1, c2, c3⟩ := (LX.out _ hSw).cells HC.out
    go_simp
  try simp only [Act.put, List.setIfInBounds_toArray, List.set_cons_zero, List.set_cons_succ, List.getElem_toArray, List.getElem_cons_zero, List.getElem_cons_succ]
  refine wpAnyH_take (i := 19) (v := .bool false) rfl (by kernel_rfl) (by kernel_rfl) (by kernel_rfl) (fun _ _ _ h => h) (Or.inl ⟨by kernel_rfl, ?_⟩) (by assumption) ?_
  · intro w hSw
    try dsimp only at hSw
    skip
    go_simp
    all_goals first | omega | exact IntWalk.i64_in _ (by omega)
  try simp only [Act.put, List.setIfInBounds_toArray, List.set_cons_zero, List.set_cons_succ, List.getElem_toArray, List.getElem_cons_zero, List.getElem_cons_succ]
  refine wpAnyH_take (i := 20) (v := .bool false) rfl (by kernel_rfl) (by kernel_rfl) (by kernel_rfl) (fun _ _ _ h => h) (Or.inl ⟨by kernel_rfl, ?_⟩) (by assumption) ?_
  · intro w hSw
    try dsimp only at hSw
    skip
    go_simp
  try simp only [Act.put, List.setIfInBounds_toArray, List.set_cons_zero, List.set_cons_succ, List.getElem_toArray, List.getElem_cons_zero, List.getElem_cons_succ]
  refine wpAnyH_done (by kernel_rfl) ?_ _
  have BW := Lib.hid (BV.out.trans (Below.mono hHeld BV.out.size))
  obtain ⟨p0, p1⟩ := PX.out _ hHeld
  clear hHeld
  obtain ⟨WV, hWV⟩ : ∃ WV, V.drew = WV := ⟨_, rfl⟩
  rw [hWV] at BW p0 p1
  rw [hWV]
  clear hWV
  have TP := Lib.hid (TZ.out _ BW.out)
  have GG := pt_put TP.out (c.fr - z) (c.tt + z)
  have BE : Hid (Below w.heap.size w (WV.setCells (w.heap.size + 1) 0 [.int .i64 (c.fr - z), .int .i64 (c.tt + z)])) := below_setCells (w.heap.size + 1) (Nat.le_add_right _ _) _ _ _ (bnext E0.out BW.out)
  obtain ⟨WE, hWE⟩ : ∃ WE, WV.setCells (w.heap.size + 1) 0 [.int .i64 (c.fr - z), .int .i64 (c.tt + z)] = WE := ⟨_, rfl⟩
  have hws : WV.setCells (w.heap.size + 1) 0 (#[Value.int .i64 (c.fr - z), .int .i64 (c.tt + z)] : Array Value).toList = WE := hWE
  rw [hWE] at GG BE
  have HWE := Lib.hid hws
  clear hWE hws
  obtain ⟨g0, g1⟩ := GG
  go_wp2_with (refine wpList_store_mid rfl 51 (.tmp 6) (.tmp 54) rfl (w.heap.size + 1) 0 #[.int .i64 (c.fr - z), .int .i64 (c.tt + z)] rfl rfl TP.out sizePt (pt_one _ _) ?_; rw [HWE.out])
  refine bodyPost_ret (v := .tuple #[.agg #[.int .i64 (c.fr - z), .int .i64 (c.tt + z)], .int .i64 0]) (by simp [results, Try.results34, go_sem, g0, g1]) rfl ⟨rfl, BE.out⟩
end Go.Proofs.Ytplggghhhgmebaa
