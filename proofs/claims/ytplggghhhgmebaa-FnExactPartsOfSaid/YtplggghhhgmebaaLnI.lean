/-
  LintelOf: the program's word.
-/
import Derived.Test.YtplggghhhgmebaaLnP
import Derived.Test.YtplggghhhgmebaaPtB
import Derived.Test.YtplggghhhgmebaaFvW
import Derived.Test.YtplggghhhgmebaaLnS
namespace Go.Proofs.Ytplggghhhgmebaa
open Go.ChangeShapes Go.WideShapes Go.ChangeAt Go.RowKit Go.Joins

theorem frK_inv {F C : Int} {L : List Og} {n l h : Int} (hok : okFr F C L = false) : frK F C L n l h = 1 := by simp [frK, hok]
theorem frK_rng {F C : Int} {L : List Og} {n l h : Int} (hok : okFr F C L = true) (hi : inB n l h = false) : frK F C L n l h = 2 := by simp [frK, hok, hi]
theorem frK_ok {F C : Int} {L : List Og} {n l h : Int} (hok : okFr F C L = true) (hi : inB n l h = true) : frK F C L n l h = 0 := by simp [frK, hok, hi]
set_option maxRecDepth 100000 in
set_option maxHeartbeats 40000000 in
theorem lintelOf_impl (F C : Int) (L : List Og) (a : Option Addr) (cap : Nat) (hl : L.length ≤ 1048576) (hcap : L.length ≤ cap) (k z : Int) (w : World) (ha : OgArg w a L) :
    Calls Try.prog 35 #[.agg #[.int .i64 F, .int .i64 C, .slice a L.length cap], .int .i64 k, .int .i64 z] w fun e w' => e = .returned (.tuple #[.agg #[.int .i64 (lnF F C L k z), .int .i64 (lnT F C L k z)], .int .i64 (lnK F C L k z)]) ∧ Below w.heap.size w w' := by
  have FB' := (FrBox.new w F C a cap L 29).later (balloc0 (w.alloc (.cells #[.int .i64 F, .int .i64 C, .slice a L.length cap] 29)) (.cells #[.int .i64 0, .int .i64 0] 51))
  have TZ' := ptZero (w.alloc (.cells #[.int .i64 F, .int .i64 C, .slice a L.length cap] 29))
  have E0' := Lib.hid (balloc (balloc0 w (.cells #[.int .i64 F, .int .i64 C, .slice a L.length cap] 29)) (.cells #[.int .i64 0, .int .i64 0] 51))
  have z0 : ((w.alloc (.cells #[.int .i64 F, .int .i64 C, .slice a L.length cap] 29)).alloc (.cells #[.int .i64 0, .int .i64 0] 51)).heap.size = w.heap.size + 2 := by simp
  obtain ⟨W0, hW⟩ : ∃ W0, (w.alloc (.cells #[.int .i64 F, .int .i64 C, .slice a L.length cap] 29)).alloc (.cells #[.int .i64 0, .int .i64 0] 51) = W0 := ⟨_, rfl⟩
  rw [hW] at FB' TZ' E0' z0
  rw [World.size_alloc] at TZ'
  have FB := Lib.hid FB'
  have TZ : Hid (∀ wx, Below W0.heap.size W0 wx → wx.there (w.heap.size + 1) 0 2) := TZ'
  have E0 := Lib.hid E0'.out
  have HA := Lib.hid (ha.later E0.out)
  have HW := Lib.hid hW
  clear hW E0' FB' TZ' ha
  have X := Lib.hid (checkFront_impl F C L a cap hl hcap k 0 ((L.length : Int) - 1) W0 HA.out)
  have I2 := Lib.hid (within_impl z 0 20)
  have hl64 : (L.length : Int) ≤ 1048576 := by omega
  cases hok : okFr F C L
  · rw [frK_inv hok] at X
    obtain ⟨e1, e2, e3⟩ := ln_inv (k := k) (z := z) hok
    rw [e1, e2, e3]
    clear e1 e2 e3 hok
    go_enter Try.func35, Try.ntmps35
    go_wp2_with fail
    rw [HW.out]
    obtain ⟨q0, q1, q2⟩ := FB.out
    go_wp2_with fail
    refine X.out.mono ?_
    rintro e w1 ⟨rfl, hb1⟩
    have B1 := Lib.hid hb1
    clear hb1 q0 q1 q2
    have TP := Lib.hid (TZ.out _ B1.out)
    have GG := pt_put TP.out (0) (0)
    have BE : Hid (Below w.heap.size w (w1.setCells (w.heap.size + 1) 0 [.int .i64 (0), .int .i64 (0)])) := below_setCells (w.heap.size + 1) (Nat.le_add_right _ _) _ _ _ (bnext E0.out B1.out)
    obtain ⟨WE, hWE⟩ : ∃ WE, w1.setCells (w.heap.size + 1) 0 [.int .i64 (0), .int .i64 (0)] = WE := ⟨_, rfl⟩
    have hws : w1.setCells (w.heap.size + 1) 0 (#[Value.int .i64 (0), .int .i64 (0)] : Array Value).toList = WE := hWE
    rw [hWE] at GG BE
    have HWE := Lib.hid hws
    clear hWE hws
    obtain ⟨g0, g1⟩ := GG
    go_wp2_with (refine wpList_store_mid rfl 51 (.tmp 6) (.tmp 20) rfl (w.heap.size + 1) 0 #[.int .i64 (0), .int .i64 (0)] rfl rfl TP.out sizePt (pt_one _ _) ?_; rw [HWE.out])
    refine bodyPost_ret (v := .tuple #[.agg #[.int .i64 (0), .int .i64 (0)], .int .i64 1]) (by simp [results, Try.results35, go_sem, g0, g1]) rfl ⟨rfl, BE.out⟩
  have hF := okFr_true.1 hok
  have HOK := Lib.hid hok
  have hl8 : (L.length : Int) ≤ 8 := by have := hF.len; omega
  clear hok
  cases hik : inB k 0 ((L.length : Int) - 1)
  · obtain ⟨e1, e2, e3⟩ := ln_rng (k := k) (z := z) HOK.out (.inl hik)
    rw [e1, e2, e3]
    rw [frK_rng HOK.out hik] at X
    clear e1 e2 e3 hik hF
    go_enter Try.func35, Try.ntmps35
    go_wp2_with fail
    rw [HW.out]
    obtain ⟨q0, q1, q2⟩ := FB.out
    go_wp2_with fail
    refine X.out.mono ?_
    rintro e w1 ⟨rfl, hb1⟩
    have B1 := Lib.hid hb1
    clear hb1 q0 q1 q2
    have TP := Lib.hid (TZ.out _ B1.out)
    have GG := pt_put TP.out (0) (0)
    have BE : Hid (Below w.heap.size w (w1.setCells (w.heap.size + 1) 0 [.int .i64 (0), .int .i64 (0)])) := below_setCells (w.heap.size + 1) (Nat.le_add_right _ _) _ _ _ (bnext E0.out B1.out)
    obtain ⟨WE, hWE⟩ : ∃ WE, w1.setCells (w.heap.size + 1) 0 [.int .i64 (0), .int .i64 (0)] = WE := ⟨_, rfl⟩
    have hws : w1.setCells (w.heap.size + 1) 0 (#[Value.int .i64 (0), .int .i64 (0)] : Array Value).toList = WE := hWE
    rw [hWE] at GG BE
    have HWE := Lib.hid hws
    clear hWE hws
    obtain ⟨g0, g1⟩ := GG
    go_wp2_with (refine wpList_store_mid rfl 51 (.tmp 6) (.tmp 20) rfl (w.heap.size + 1) 0 #[.int .i64 (0), .int .i64 (0)] rfl rfl TP.out sizePt (pt_one _ _) ?_; rw [HWE.out])
    refine bodyPost_ret (v := .tuple #[.agg #[.int .i64 (0), .int .i64 (0)], .int .i64 2]) (by simp [results, Try.results35, go_sem, g0, g1]) rfl ⟨rfl, BE.out⟩
  rw [frK_ok HOK.out hik] at X
  cases hiz : inB z 0 20
  · obtain ⟨e1, e2, e3⟩ := ln_rng (k := k) (z := z) HOK.out (.inr hiz)
    rw [e1, e2, e3]
    rw [hiz] at I2
    clear e1 e2 e3 hik hiz hF
    go_enter Try.func35, Try.ntmps35
    go_wp2_with fail
    rw [HW.out]
    obtain ⟨q0, q1, q2⟩ := FB.out
    go_wp2_with fail
    refine X.out.mono ?_
    rintro e w1 ⟨rfl, hb1⟩
    have B1 := Lib.hid hb1
    clear hb1 q0 q1 q2
    go_wp2_with fail
    refine (I2.out _).mono ?_
    rintro e w2 ⟨rfl, rfl⟩
    have TP := Lib.hid (TZ.out _ B1.out)
    have GG := pt_put TP.out (0) (0)
    have BE : Hid (Below w.heap.size w (w1.setCells (w.heap.size + 1) 0 [.int .i64 (0), .int .i64 (0)])) := below_setCells (w.heap.size + 1) (Nat.le_add_right _ _) _ _ _ (bnext E0.out B1.out)
    obtain ⟨WE, hWE⟩ : ∃ WE, w1.setCells (w.heap.size + 1) 0 [.int .i64 (0), .int .i64 (0)] = WE := ⟨_, rfl⟩
    have hws : w1.setCells (w.heap.size + 1) 0 (#[Value.int .i64 (0), .int .i64 (0)] : Array Value).toList = WE := hWE
    rw [hWE] at GG BE
    have HWE := Lib.hid hws
    clear hWE hws
    obtain ⟨g0, g1⟩ := GG
    go_wp2_with (refine wpList_store_mid rfl 51 (.tmp 6) (.tmp 25) rfl (w.heap.size + 1) 0 #[.int .i64 (0), .int .i64 (0)] rfl rfl TP.out sizePt (pt_one _ _) ?_; rw [HWE.out])
    refine bodyPost_ret (v := .tuple #[.agg #[.int .i64 (0), .int .i64 (0)], .int .i64 2]) (by simp [results, Try.results35, go_sem, g0, g1]) rfl ⟨rfl, BE.out⟩
  rw [hiz] at I2
  obtain ⟨hk0, hk1⟩ := inB_true.1 hik
  obtain ⟨hz0, hz1⟩ := inB_true.1 hiz
  obtain ⟨k, rfl⟩ := Int.eq_ofNat_of_zero_le hk0
  have hkl : k < L.length := by omega
  have hkl' : (k : Int) < (L.length : Int) := by omega
  obtain ⟨b, o, c, rfl, hc, hat⟩ := HA.out.at hkl
  have HC := Lib.hid hc
  have hsm : c.small := Og.small_of (hF.fit k c hc) hF.fl.2
  have hfit := Og.fit_true.1 (hF.fit k c hc)
  have LC := Lib.hid (fun wx => widened_impl c hsm z (by omega) wx)
  have HI := Lib.hid (And.intro hik hiz)
  have hcF : c.tt ≤ F ∧ c.hi ≤ C := ⟨hfit.2.2.1, hfit.2.2.2.2.2⟩
  obtain ⟨hcF1, hcF2⟩ := hcF
  have hF200 : F ≤ 200 := hF.fl.2
  have hC40 : C ≤ 40 := hF.fc.2
  have hf0 : 0 ≤ c.fr := hfit.1
  have hft : c.fr < c.tt := hfit.2.1
  clear hc hik hiz hF hsm hfit
  by_cases h1 : c.fr - z < 0
  case pos =>
    obtain ⟨e1, e2, e3⟩ := ln_state HOK.out HI.out.1 HI.out.2 HC.out (badLn_or (.inl h1))
    rw [e1, e2, e3]
    clear e1 e2 e3
    go_enter Try.func35, Try.ntmps35
    go_wp2_with fail
    rw [HW.out]
    obtain ⟨q0, q1, q2⟩ := FB.out
    go_wp2_with fail
    refine X.out.mono ?_
    rintro e w1 ⟨rfl, hb1⟩
    have B1 := Lib.hid hb1
    clear hb1 q0 q1 q2
    go_wp2_with fail
    refine (I2.out _).mono ?_
    rintro e w2 ⟨rfl, rfl⟩
    obtain ⟨q0, q1, q2⟩ := FB.out.later B1.out
    obtain ⟨c0, c1, c2, c3⟩ := (OgArg.lies (HA.out.later B1.out)).cells HC.out
    have BO := Lib.hid (balloc B1.out (.cells #[.int .i64 c.fr, .int .i64 c.tt, .int .i64 c.lo, .int .i64 c.hi] 38))
    have OX := Lib.hid (box_og w1 c)
    go_wp2_with fail
    clear q0 q1 q2 c0 c1 c2 c3
    obtain ⟨V1, hV1⟩ : ∃ V1, w1.alloc (.cells #[.int .i64 c.fr, .int .i64 c.tt, .int .i64 c.lo, .int .i64 c.hi] 38) = V1 := ⟨_, rfl⟩
    rw [hV1] at BO OX
    rw [hV1]
    clear hV1
    refine (LC.out _).mono ?_
    rintro e w2 ⟨rfl, hb2⟩
    have B2 := Lib.hid (bnext BO.out hb2)
    have BV' : Below W0.heap.size W0 (w2.alloc (.cells #[.int .i64 (c.fr - z), .int .i64 (c.tt + z)] 51)) := balloc B2.out _
    have BW := Lib.hid BV'
    obtain ⟨p0, p1⟩ := PtBox.new w2 (c.fr - z) (c.tt + z) 51
    obtain ⟨o0, o1, o2, o3⟩ := OX.out _ (bnext hb2 (balloc0 w2 (.cells #[.int .i64 (c.fr - z), .int .i64 (c.tt + z)] 51)))
    obtain ⟨q0, q1, q2⟩ := FB.out.later BV'
    clear hb2 BV'
    have TP := Lib.hid (TZ.out _ BW.out)
    have GG := pt_put TP.out (0) (0)
    have BE : Hid (Below w.heap.size w ((w2.alloc (.cells #[.int .i64 (c.fr - z), .int .i64 (c.tt + z)] 51)).setCells (w.heap.size + 1) 0 [.int .i64 (0), .int .i64 (0)])) := below_setCells (w.heap.size + 1) (Nat.le_add_right _ _) _ _ _ (bnext E0.out BW.out)
    obtain ⟨WE, hWE⟩ : ∃ WE, (w2.alloc (.cells #[.int .i64 (c.fr - z), .int .i64 (c.tt + z)] 51)).setCells (w.heap.size + 1) 0 [.int .i64 (0), .int .i64 (0)] = WE := ⟨_, rfl⟩
    have hws : (w2.alloc (.cells #[.int .i64 (c.fr - z), .int .i64 (c.tt + z)] 51)).setCells (w.heap.size + 1) 0 (#[Value.int .i64 (0), .int .i64 (0)] : Array Value).toList = WE := hWE
    rw [hWE] at GG BE
    have HWE := Lib.hid hws
    clear hWE hws
    obtain ⟨g0, g1⟩ := GG
    go_wp2_with (refine wpList_store_mid rfl 51 (.tmp 6) (.tmp 51) rfl (w.heap.size + 1) 0 #[.int .i64 (0), .int .i64 (0)] rfl rfl TP.out sizePt (pt_one _ _) ?_; rw [HWE.out])
    refine bodyPost_ret (v := .tuple #[.agg #[.int .i64 (0), .int .i64 (0)], .int .i64 6]) (by simp [results, Try.results35, go_sem, g0, g1]) rfl ⟨rfl, BE.out⟩
  by_cases h2 : F < c.tt + z
  case pos =>
    obtain ⟨e1, e2, e3⟩ := ln_state HOK.out HI.out.1 HI.out.2 HC.out (badLn_or (F := F) (.inr (.inl h2)))
    rw [e1, e2, e3]
    clear e1 e2 e3
    go_enter Try.func35, Try.ntmps35
    go_wp2_with fail
    rw [HW.out]
    obtain ⟨q0, q1, q2⟩ := FB.out
    go_wp2_with fail
    refine X.out.mono ?_
    rintro e w1 ⟨rfl, hb1⟩
    have B1 := Lib.hid hb1
    clear hb1 q0 q1 q2
    go_wp2_with fail
    refine (I2.out _).mono ?_
    rintro e w2 ⟨rfl, rfl⟩
    obtain ⟨q0, q1, q2⟩ := FB.out.later B1.out
    obtain ⟨c0, c1, c2, c3⟩ := (OgArg.lies (HA.out.later B1.out)).cells HC.out
    have BO := Lib.hid (balloc B1.out (.cells #[.int .i64 c.fr, .int .i64 c.tt, .int .i64 c.lo, .int .i64 c.hi] 38))
    have OX := Lib.hid (box_og w1 c)
    go_wp2_with fail
    clear q0 q1 q2 c0 c1 c2 c3
    obtain ⟨V1, hV1⟩ : ∃ V1, w1.alloc (.cells #[.int .i64 c.fr, .int .i64 c.tt, .int .i64 c.lo, .int .i64 c.hi] 38) = V1 := ⟨_, rfl⟩
    rw [hV1] at BO OX
    rw [hV1]
    clear hV1
    refine (LC.out _).mono ?_
    rintro e w2 ⟨rfl, hb2⟩
    have B2 := Lib.hid (bnext BO.out hb2)
    have BV' : Below W0.heap.size W0 (w2.alloc (.cells #[.int .i64 (c.fr - z), .int .i64 (c.tt + z)] 51)) := balloc B2.out _
    have BW := Lib.hid BV'
    obtain ⟨p0, p1⟩ := PtBox.new w2 (c.fr - z) (c.tt + z) 51
    obtain ⟨o0, o1, o2, o3⟩ := OX.out _ (bnext hb2 (balloc0 w2 (.cells #[.int .i64 (c.fr - z), .int .i64 (c.tt + z)] 51)))
    obtain ⟨q0, q1, q2⟩ := FB.out.later BV'
    clear hb2 BV'
    have TP := Lib.hid (TZ.out _ BW.out)
    have GG := pt_put TP.out (0) (0)
    have BE : Hid (Below w.heap.size w ((w2.alloc (.cells #[.int .i64 (c.fr - z), .int .i64 (c.tt + z)] 51)).setCells (w.heap.size + 1) 0 [.int .i64 (0), .int .i64 (0)])) := below_setCells (w.heap.size + 1) (Nat.le_add_right _ _) _ _ _ (bnext E0.out BW.out)
    obtain ⟨WE, hWE⟩ : ∃ WE, (w2.alloc (.cells #[.int .i64 (c.fr - z), .int .i64 (c.tt + z)] 51)).setCells (w.heap.size + 1) 0 [.int .i64 (0), .int .i64 (0)] = WE := ⟨_, rfl⟩
    have hws : (w2.alloc (.cells #[.int .i64 (c.fr - z), .int .i64 (c.tt + z)] 51)).setCells (w.heap.size + 1) 0 (#[Value.int .i64 (0), .int .i64 (0)] : Array Value).toList = WE := hWE
    rw [hWE] at GG BE
    have HWE := Lib.hid hws
    clear hWE hws
    obtain ⟨g0, g1⟩ := GG
    go_wp2_with (refine wpList_store_mid rfl 51 (.tmp 6) (.tmp 51) rfl (w.heap.size + 1) 0 #[.int .i64 (0), .int .i64 (0)] rfl rfl TP.out sizePt (pt_one _ _) ?_; rw [HWE.out])
    refine bodyPost_ret (v := .tuple #[.agg #[.int .i64 (0), .int .i64 (0)], .int .i64 6]) (by simp [results, Try.results35, go_sem, g0, g1]) rfl ⟨rfl, BE.out⟩
  by_cases h3 : c.hi = C
  case pos =>
    obtain ⟨e1, e2, e3⟩ := ln_state HOK.out HI.out.1 HI.out.2 HC.out (badLn_or (z := z) (.inr (.inr h3)))
    rw [e1, e2, e3]
    clear e1 e2 e3
    have h3' : (c.hi == C) = true := by simp [h3]
    have H3 := Lib.hid h3
    clear h3
    go_enter Try.func35, Try.ntmps35
    go_wp2_with fail
    rw [HW.out]
    obtain ⟨q0, q1, q2⟩ := FB.out
    go_wp2_with fail
    refine X.out.mono ?_
    rintro e w1 ⟨rfl, hb1⟩
    have B1 := Lib.hid hb1
    clear hb1 q0 q1 q2
    go_wp2_with fail
    refine (I2.out _).mono ?_
    rintro e w2 ⟨rfl, rfl⟩
    obtain ⟨q0, q1, q2⟩ := FB.out.later B1.out
    obtain ⟨c0, c1, c2, c3⟩ := (OgArg.lies (HA.out.later B1.out)).cells HC.out
    have BO := Lib.hid (balloc B1.out (.cells #[.int .i64 c.fr, .int .i64 c.tt, .int .i64 c.lo, .int .i64 c.hi] 38))
    have OX := Lib.hid (box_og w1 c)
    go_wp2_with fail
    clear q0 q1 q2 c0 c1 c2 c3
    obtain ⟨V1, hV1⟩ : ∃ V1, w1.alloc (.cells #[.int .i64 c.fr, .int .i64 c.tt, .int .i64 c.lo, .int .i64 c.hi] 38) = V1 := ⟨_, rfl⟩
    rw [hV1] at BO OX
    rw [hV1]
    clear hV1
    refine (LC.out _).mono ?_
    rintro e w2 ⟨rfl, hb2⟩
    have B2 := Lib.hid (bnext BO.out hb2)
    have BV' : Below W0.heap.size W0 (w2.alloc (.cells #[.int .i64 (c.fr - z), .int .i64 (c.tt + z)] 51)) := balloc B2.out _
    have BW := Lib.hid BV'
    obtain ⟨p0, p1⟩ := PtBox.new w2 (c.fr - z) (c.tt + z) 51
    obtain ⟨o0, o1, o2, o3⟩ := OX.out _ (bnext hb2 (balloc0 w2 (.cells #[.int .i64 (c.fr - z), .int .i64 (c.tt + z)] 51)))
    obtain ⟨q0, q1, q2⟩ := FB.out.later BV'
    clear hb2 BV'
    have TP := Lib.hid (TZ.out _ BW.out)
    have GG := pt_put TP.out (0) (0)
    have BE : Hid (Below w.heap.size w ((w2.alloc (.cells #[.int .i64 (c.fr - z), .int .i64 (c.tt + z)] 51)).setCells (w.heap.size + 1) 0 [.int .i64 (0), .int .i64 (0)])) := below_setCells (w.heap.size + 1) (Nat.le_add_right _ _) _ _ _ (bnext E0.out BW.out)
    obtain ⟨WE, hWE⟩ : ∃ WE, (w2.alloc (.cells #[.int .i64 (c.fr - z), .int .i64 (c.tt + z)] 51)).setCells (w.heap.size + 1) 0 [.int .i64 (0), .int .i64 (0)] = WE := ⟨_, rfl⟩
    have hws : (w2.alloc (.cells #[.int .i64 (c.fr - z), .int .i64 (c.tt + z)] 51)).setCells (w.heap.size + 1) 0 (#[Value.int .i64 (0), .int .i64 (0)] : Array Value).toList = WE := hWE
    rw [hWE] at GG BE
    have HWE := Lib.hid hws
    clear hWE hws
    obtain ⟨g0, g1⟩ := GG
    go_wp2_with (refine wpList_store_mid rfl 51 (.tmp 6) (.tmp 51) rfl (w.heap.size + 1) 0 #[.int .i64 (0), .int .i64 (0)] rfl rfl TP.out sizePt (pt_one _ _) ?_; rw [HWE.out])
    refine bodyPost_ret (v := .tuple #[.agg #[.int .i64 (0), .int .i64 (0)], .int .i64 6]) (by simp [results, Try.results35, go_sem, g0, g1]) rfl ⟨rfl, BE.out⟩
  obtain ⟨e1, e2, e3⟩ := ln_ok HOK.out HI.out.1 HI.out.2 HC.out (badLn_not h1 h2 h3)
  rw [e1, e2, e3]
  clear e1 e2 e3
  have h3' : (c.hi == C) = false := by simp [h3]
  have H3 := Lib.hid h3
  clear h3
  go_enter Try.func35, Try.ntmps35
  go_wp2_with fail
  rw [HW.out]
  obtain ⟨q0, q1, q2⟩ := FB.out
  go_wp2_with fail
  refine X.out.mono ?_
  rintro e w1 ⟨rfl, hb1⟩
  have B1 := Lib.hid hb1
  clear hb1 q0 q1 q2
  go_wp2_with fail
  refine (I2.out _).mono ?_
  rintro e w2 ⟨rfl, rfl⟩
  obtain ⟨q0, q1, q2⟩ := FB.out.later B1.out
  obtain ⟨c0, c1, c2, c3⟩ := (OgArg.lies (HA.out.later B1.out)).cells HC.out
  have BO := Lib.hid (balloc B1.out (.cells #[.int .i64 c.fr, .int .i64 c.tt, .int .i64 c.lo, .int .i64 c.hi] 38))
  have OX := Lib.hid (box_og w1 c)
  go_wp2_with fail
  clear q0 q1 q2 c0 c1 c2 c3
  obtain ⟨V1, hV1⟩ : ∃ V1, w1.alloc (.cells #[.int .i64 c.fr, .int .i64 c.tt, .int .i64 c.lo, .int .i64 c.hi] 38) = V1 := ⟨_, rfl⟩
  rw [hV1] at BO OX
  rw [hV1]
  clear hV1
  refine (LC.out _).mono ?_
  rintro e w2 ⟨rfl, hb2⟩
  have B2 := Lib.hid (bnext BO.out hb2)
  have BV' : Below W0.heap.size W0 (w2.alloc (.cells #[.int .i64 (c.fr - z), .int .i64 (c.tt + z)] 51)) := balloc B2.out _
  have BW := Lib.hid BV'
  obtain ⟨p0, p1⟩ := PtBox.new w2 (c.fr - z) (c.tt + z) 51
  obtain ⟨o0, o1, o2, o3⟩ := OX.out _ (bnext hb2 (balloc0 w2 (.cells #[.int .i64 (c.fr - z), .int .i64 (c.tt + z)] 51)))
  obtain ⟨q0, q1, q2⟩ := FB.out.later BV'
  clear hb2 BV'
  have TP := Lib.hid (TZ.out _ BW.out)
  have GG := pt_put TP.out (c.fr - z) (c.tt + z)
  have BE : Hid (Below w.heap.size w ((w2.alloc (.cells #[.int .i64 (c.fr - z), .int .i64 (c.tt + z)] 51)).setCells (w.heap.size + 1) 0 [.int .i64 (c.fr - z), .int .i64 (c.tt + z)])) := below_setCells (w.heap.size + 1) (Nat.le_add_right _ _) _ _ _ (bnext E0.out BW.out)
  obtain ⟨WE, hWE⟩ : ∃ WE, (w2.alloc (.cells #[.int .i64 (c.fr - z), .int .i64 (c.tt + z)] 51)).setCells (w.heap.size + 1) 0 [.int .i64 (c.fr - z), .int .i64 (c.tt + z)] = WE := ⟨_, rfl⟩
  have hws : (w2.alloc (.cells #[.int .i64 (c.fr - z), .int .i64 (c.tt + z)] 51)).setCells (w.heap.size + 1) 0 (#[Value.int .i64 (c.fr - z), .int .i64 (c.tt + z)] : Array Value).toList = WE := hWE
  rw [hWE] at GG BE
  have HWE := Lib.hid hws
  clear hWE hws
  obtain ⟨g0, g1⟩ := GG
  go_wp2_with (refine wpList_store_mid rfl 51 (.tmp 6) (.tmp 52) rfl (w.heap.size + 1) 0 #[.int .i64 (c.fr - z), .int .i64 (c.tt + z)] rfl rfl TP.out sizePt (pt_one _ _) ?_; rw [HWE.out])
  refine bodyPost_ret (v := .tuple #[.agg #[.int .i64 (c.fr - z), .int .i64 (c.tt + z)], .int .i64 0]) (by simp [results, Try.results35, go_sem, g0, g1]) rfl ⟨rfl, BE.out⟩
end Go.Proofs.Ytplggghhhgmebaa
