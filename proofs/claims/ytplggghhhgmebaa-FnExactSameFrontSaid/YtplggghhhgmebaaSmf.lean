/-
  SameFront: the model's and the program's answer.
-/
import Derived.Test.YtplggghhhgmebaaFr
import Derived.Test.YtplggghhhgmebaaRow
import Derived.Deep.RegionWith
import Derived.Deep.QuietTactic
import Derived.BigQuiet
import Derived.Laws.StructEq
namespace Go.Proofs.Ytplggghhhgmebaa
open Go.ChangeShapes Go.WideShapes Go.ChangeAt Go.RowKit Go.Joins

/-- Two of them are the same. -/
def Og.same (c d : Og) : Bool := c.fr == d.fr && (c.tt == d.tt && (c.lo == d.lo && (c.hi == d.hi)))
/-- The first k of both lists are the same. -/
def sameOgTo (L M : List Og) : Nat → Bool
  | 0 => true
  | k + 1 => sameOgTo L M k && (match L[k]?, M[k]? with | some c, some d => c.same d | _, _ => true)
def sameOgB (L M : List Og) : Bool := decide (L.length = M.length) && sameOgTo L M L.length
theorem sameOgTo_step {L M : List Og} {k : Nat} {c d : Og} (hc : L[k]? = some c) (hd : M[k]? = some d) : sameOgTo L M (k + 1) = (sameOgTo L M k && c.same d) := by simp [sameOgTo, hc, hd]
theorem sameOgTo_false {L M : List Og} {j k : Nat} (hjk : j ≤ k) (h : sameOgTo L M j = false) : sameOgTo L M k = false := by
  induction k with
  | zero => have : j = 0 := by omega
            subst this; exact h
  | succ k ih =>
    by_cases e : j = k + 1
    · subst e; exact h
    · simp only [sameOgTo]
      rw [ih (by omega)]
      rfl
def sameFrB (F C : Int) (L : List Og) (F' C' : Int) (M : List Og) : Bool := F == F' && (C == C' && sameOgB L M)
set_option maxRecDepth 100000 in
set_option maxHeartbeats 1600000 in
theorem same_og_equal (L : List Og) (a : Option Addr) (cap : Nat) (hl : L.length ≤ 1048576) (M : List Og) (a' : Option Addr) (cap' : Nat) (_hm : M.length ≤ 1048576) (w : World) (ha : OgArg w a L) (ha' : OgArg w a' M) :
    Calls Try.prog 56 #[.slice a L.length cap, .slice a' M.length cap'] w fun e w' => e = .returned (.bool (sameOgB L M)) ∧ Below w.heap.size w w' := by
  by_cases hlm : L.length = M.length
  case neg =>
    have hlm' : ¬ (L.length : Int) = (M.length : Int) := by omega
    have HE : Hid (sameOgB L M = false) := by show sameOgB L M = false; simp [sameOgB, hlm]
    clear ha ha'
    go_enter Try.func56, Try.ntmps56
    go_wp2
    go_ret
    exact ⟨by rw [HE.out]; rfl, Below.refl _ _⟩
  have HA := Lib.hid ha
  have HA' := Lib.hid ha'
  have HL := Lib.hid hlm
  have hlm' : (L.length : Int) = (M.length : Int) := by omega
  clear ha ha' hlm
  go_enter Try.func56, Try.ntmps56
  go_wp2
  go_loopw [13] (fun i wr => ∃ k : Nat, k ≤ M.length ∧ i = .int .i64 k ∧ Hid (sameOgTo L M k = true) ∧ Hid (Below w.heap.size w wr)) (fun i _ => M.length - (intOf i).toNat)
  case atStart => exact ⟨0, Nat.zero_le _, rfl, rfl, Below.refl _ _⟩
  case round =>
    obtain ⟨k, hk, rfl, hS, hB⟩ := hrel
    by_cases hlt : k < M.length
    · have hlt' : (k : Int) < (M.length : Int) := by omega
      have hk0 : (0 : Int) ≤ (k : Int) := by omega
      obtain ⟨b, o, ⟨s0, s1, s2, s3⟩, rfl, hc, hat⟩ := (HA.out.later hB.out).at (k := k) (by rw [HL.out]; exact hlt)
      obtain ⟨b', o', ⟨t0, t1, t2, t3⟩, rfl, hd, hat'⟩ := (HA'.out.later hB.out).at hlt
      obtain ⟨c0, c1, c2, c3⟩ := hat.cells hc
      obtain ⟨d0, d1, d2, d3⟩ := hat'.cells hd
      have HC := Lib.hid (sameOgTo_step hc hd)
      dsimp only at c0 c1 c2 c3 d0 d1 d2 d3
      clear hc hd hat hat'
      by_cases e0 : s0 = t0
      case neg =>
        go_wp2_with fail
        go_region
        go_wp2
        go_ret
        refine ⟨ret_bool ?_, hB.out.drew⟩
        have h1 : sameOgTo L M (k + 1) = false := by rw [HC.out]; simp [Og.same, e0]
        have h2 : sameOgTo L M L.length = false := sameOgTo_false (by rw [HL.out]; omega) h1
        rw [sameOgB, h2]
        simp
      subst e0
      by_cases e1 : s1 = t1
      case neg =>
        go_wp2_with fail
        go_region
        go_wp2
        go_ret
        refine ⟨ret_bool ?_, hB.out.drew⟩
        have h1 : sameOgTo L M (k + 1) = false := by rw [HC.out]; simp [Og.same, e1]
        have h2 : sameOgTo L M L.length = false := sameOgTo_false (by rw [HL.out]; omega) h1
        rw [sameOgB, h2]
        simp
      subst e1
      by_cases e2 : s2 = t2
      case neg =>
        go_wp2_with fail
        go_region
        go_wp2
        go_ret
        refine ⟨ret_bool ?_, hB.out.drew⟩
        have h1 : sameOgTo L M (k + 1) = false := by rw [HC.out]; simp [Og.same, e2]
        have h2 : sameOgTo L M L.length = false := sameOgTo_false (by rw [HL.out]; omega) h1
        rw [sameOgB, h2]
        simp
      subst e2
      by_cases e3 : s3 = t3
      case neg =>
        go_wp2_with fail
        go_region
        go_wp2
        go_ret
        refine ⟨ret_bool ?_, hB.out.drew⟩
        have h1 : sameOgTo L M (k + 1) = false := by rw [HC.out]; simp [Og.same, e3]
        have h2 : sameOgTo L M L.length = false := sameOgTo_false (by rw [HL.out]; omega) h1
        rw [sameOgB, h2]
        simp
      subst e3
      go_wp2_with fail
      go_region
      go_wp2
      go_roundw
      case rel =>
        refine ⟨k + 1, by omega, by go_num, ?_, hB.out.drew⟩
        show sameOgTo L M (k + 1) = true
        rw [HC.out, hS.out]
        simp [Og.same]
      case measure => simp [intOf]; omega
    · have hge : ¬ (k : Int) < (M.length : Int) := by omega
      have hkn : k = M.length := by omega
      subst hkn
      go_wp2
      go_ret
      refine ⟨ret_bool ?_, hB.out⟩
      have h1 := HL.out
      rw [sameOgB, h1, hS.out]
      simp
set_option maxRecDepth 100000 in
set_option maxHeartbeats 3200000 in
theorem same_front_spec (F C : Int) (L : List Og) (a : Option Addr) (cap : Nat) (hl : L.length ≤ 1048576) (F' C' : Int) (M : List Og) (a' : Option Addr) (cap' : Nat) (_hm : M.length ≤ 1048576) (w : World) (ha : OgArg w a L) (ha' : OgArg w a' M) :
    Calls Try.prog 18 #[.agg #[.int .i64 F, .int .i64 C, .slice a L.length cap], .agg #[.int .i64 F', .int .i64 C', .slice a' M.length cap']] w fun e w' => e = .returned (.bool (sameFrB F C L F' C' M)) ∧ Below w.heap.size w w' := by
  have E0' := Lib.hid (balloc (balloc0 w (.cells #[.int .i64 F, .int .i64 C, .slice a L.length cap] 29)) (.cells #[.int .i64 F', .int .i64 C', .slice a' M.length cap'] 29))
  have K' : Hid (∀ wx, Below ((w.alloc (.cells #[.int .i64 F, .int .i64 C, .slice a L.length cap] 29)).alloc (.cells #[.int .i64 F', .int .i64 C', .slice a' M.length cap'] 29)).heap.size ((w.alloc (.cells #[.int .i64 F, .int .i64 C, .slice a L.length cap] 29)).alloc (.cells #[.int .i64 F', .int .i64 C', .slice a' M.length cap'] 29)) wx → FrBox w.heap.size F C a cap L wx ∧ FrBox (w.heap.size + 1) F' C' a' cap' M wx) := fun wx hx => by
    have h1 := ((FrBox.new w F C a cap L 29).later (balloc0 (w.alloc (.cells #[.int .i64 F, .int .i64 C, .slice a L.length cap] 29)) (.cells #[.int .i64 F', .int .i64 C', .slice a' M.length cap'] 29))).later hx
    have h2 := (FrBox.new (w.alloc (.cells #[.int .i64 F, .int .i64 C, .slice a L.length cap] 29)) F' C' a' cap' M 29).later hx
    rw [World.size_alloc] at h2
    exact ⟨h1, h2⟩
  obtain ⟨W0, hW⟩ : ∃ W0, (w.alloc (.cells #[.int .i64 F, .int .i64 C, .slice a L.length cap] 29)).alloc (.cells #[.int .i64 F', .int .i64 C', .slice a' M.length cap'] 29) = W0 := ⟨_, rfl⟩
  rw [hW] at E0' K'
  have K := Lib.hid K'.out
  have E0 := Lib.hid E0'.out
  have HA := Lib.hid (ha.later E0.out)
  have HA' := Lib.hid (ha'.later E0.out)
  have HW := Lib.hid hW
  clear hW E0' K' ha ha'
  obtain ⟨⟨x0, x1, x2⟩, y0, y1, y2⟩ := K.out _ (Below.refl _ _)
  by_cases e0 : F = F'
  case neg =>
    go_enter Try.func18, Try.ntmps18
    go_wp2_with fail
    rw [HW.out]
    go_wp2
    go_ret
    exact ⟨ret_bool (by simp [sameFrB, e0]), E0.out⟩
  subst e0
  by_cases e1 : C = C'
  case neg =>
    go_enter Try.func18, Try.ntmps18
    go_wp2_with fail
    rw [HW.out]
    go_wp2
    go_ret
    exact ⟨ret_bool (by simp [sameFrB, e1]), E0.out⟩
  subst e1
  by_cases hlm : L.length = M.length
  case neg =>
    have hlm' : ¬ (L.length : Int) = (M.length : Int) := by omega
    have HN := Lib.hid hlm
    clear hlm
    go_enter Try.func18, Try.ntmps18
    go_wp2_with fail
    rw [HW.out]
    go_wp2
    go_ret
    exact ⟨ret_bool (by simp [sameFrB, sameOgB, HN.out]), E0.out⟩
  have HL := Lib.hid hlm
  have hlm' : (L.length : Int) = (M.length : Int) := by omega
  clear hlm
  go_enter Try.func18, Try.ntmps18
  go_wp2_with fail
  rw [HW.out]
  go_wp2_with fail
  clear x0 x1 x2 y0 y1 y2
  go_loopw [5] (fun i wr => ∃ k : Nat, k ≤ M.length ∧ i = .int .i64 k ∧ Hid (sameOgTo L M k = true) ∧ Hid (Below W0.heap.size W0 wr)) (fun i _ => M.length - (intOf i).toNat)
  case atStart => exact ⟨0, Nat.zero_le _, rfl, rfl, Below.refl _ _⟩
  case round =>
    obtain ⟨k, hk, rfl, hS, hB⟩ := hrel
    by_cases hlt : k < M.length
    · have hlt' : (k : Int) < (M.length : Int) := by omega
      have hk0 : (0 : Int) ≤ (k : Int) := by omega
      obtain ⟨b, o, ⟨s0, s1, s2, s3⟩, rfl, hc, hat⟩ := (HA.out.later hB.out).at (k := k) (by rw [HL.out]; exact hlt)
      obtain ⟨b', o', ⟨t0, t1, t2, t3⟩, rfl, hd, hat'⟩ := (HA'.out.later hB.out).at hlt
      obtain ⟨c0, c1, c2, c3⟩ := hat.cells hc
      obtain ⟨d0, d1, d2, d3⟩ := hat'.cells hd
      have HC := Lib.hid (sameOgTo_step hc hd)
      dsimp only at c0 c1 c2 c3 d0 d1 d2 d3
      clear hc hd hat hat'
      obtain ⟨⟨x0, x1, x2⟩, y0, y1, y2⟩ := K.out _ hB.out
      by_cases e0 : s0 = t0
      case neg =>
        go_wp2_with fail
        go_region
        go_wp2
        go_ret
        refine ⟨ret_bool ?_, bnext E0.out hB.out.drew⟩
        have h1 : sameOgTo L M (k + 1) = false := by rw [HC.out]; simp [Og.same, e0]
        have h2 : sameOgTo L M L.length = false := sameOgTo_false (by rw [HL.out]; omega) h1
        simp [sameFrB, sameOgB, h2]
      subst e0
      by_cases e1 : s1 = t1
      case neg =>
        go_wp2_with fail
        go_region
        go_wp2
        go_ret
        refine ⟨ret_bool ?_, bnext E0.out hB.out.drew⟩
        have h1 : sameOgTo L M (k + 1) = false := by rw [HC.out]; simp [Og.same, e1]
        have h2 : sameOgTo L M L.length = false := sameOgTo_false (by rw [HL.out]; omega) h1
        simp [sameFrB, sameOgB, h2]
      subst e1
      by_cases e2 : s2 = t2
      case neg =>
        go_wp2_with fail
        go_region
        go_wp2
        go_ret
        refine ⟨ret_bool ?_, bnext E0.out hB.out.drew⟩
        have h1 : sameOgTo L M (k + 1) = false := by rw [HC.out]; simp [Og.same, e2]
        have h2 : sameOgTo L M L.length = false := sameOgTo_false (by rw [HL.out]; omega) h1
        simp [sameFrB, sameOgB, h2]
      subst e2
      by_cases e3 : s3 = t3
      case neg =>
        go_wp2_with fail
        go_region
        go_wp2
        go_ret
        refine ⟨ret_bool ?_, bnext E0.out hB.out.drew⟩
        have h1 : sameOgTo L M (k + 1) = false := by rw [HC.out]; simp [Og.same, e3]
        have h2 : sameOgTo L M L.length = false := sameOgTo_false (by rw [HL.out]; omega) h1
        simp [sameFrB, sameOgB, h2]
      subst e3
      go_wp2_with fail
      go_region
      go_wp2
      go_roundw
      case rel =>
        refine ⟨k + 1, by omega, by go_num, ?_, hB.out.drew⟩
        show sameOgTo L M (k + 1) = true
        rw [HC.out, hS.out]
        simp [Og.same]
      case measure => simp [intOf]; omega
    · have hge : ¬ (k : Int) < (M.length : Int) := by omega
      obtain ⟨⟨x0, x1, x2⟩, y0, y1, y2⟩ := K.out _ hB.out
      have hkn : k = M.length := by omega
      subst hkn
      go_wp2
      go_ret
      refine ⟨ret_bool ?_, bnext E0.out hB.out⟩
      have h1 := HL.out
      simp [sameFrB, sameOgB, h1, hS.out]
set_option maxRecDepth 100000 in
set_option maxHeartbeats 3200000 in
theorem same_front_impl (F C : Int) (L : List Og) (a : Option Addr) (cap : Nat) (hl : L.length ≤ 1048576) (F' C' : Int) (M : List Og) (a' : Option Addr) (cap' : Nat) (_hm : M.length ≤ 1048576) (w : World) (ha : OgArg w a L) (ha' : OgArg w a' M) :
    Calls Try.prog 19 #[.agg #[.int .i64 F, .int .i64 C, .slice a L.length cap], .agg #[.int .i64 F', .int .i64 C', .slice a' M.length cap']] w fun e w' => e = .returned (.bool (sameFrB F C L F' C' M)) ∧ Below w.heap.size w w' := by
  have E0' := Lib.hid (balloc (balloc0 w (.cells #[.int .i64 F, .int .i64 C, .slice a L.length cap] 29)) (.cells #[.int .i64 F', .int .i64 C', .slice a' M.length cap'] 29))
  have K' : Hid (∀ wx, Below ((w.alloc (.cells #[.int .i64 F, .int .i64 C, .slice a L.length cap] 29)).alloc (.cells #[.int .i64 F', .int .i64 C', .slice a' M.length cap'] 29)).heap.size ((w.alloc (.cells #[.int .i64 F, .int .i64 C, .slice a L.length cap] 29)).alloc (.cells #[.int .i64 F', .int .i64 C', .slice a' M.length cap'] 29)) wx → FrBox w.heap.size F C a cap L wx ∧ FrBox (w.heap.size + 1) F' C' a' cap' M wx) := fun wx hx => by
    have h1 := ((FrBox.new w F C a cap L 29).later (balloc0 (w.alloc (.cells #[.int .i64 F, .int .i64 C, .slice a L.length cap] 29)) (.cells #[.int .i64 F', .int .i64 C', .slice a' M.length cap'] 29))).later hx
    have h2 := (FrBox.new (w.alloc (.cells #[.int .i64 F, .int .i64 C, .slice a L.length cap] 29)) F' C' a' cap' M 29).later hx
    rw [World.size_alloc] at h2
    exact ⟨h1, h2⟩
  obtain ⟨W0, hW⟩ : ∃ W0, (w.alloc (.cells #[.int .i64 F, .int .i64 C, .slice a L.length cap] 29)).alloc (.cells #[.int .i64 F', .int .i64 C', .slice a' M.length cap'] 29) = W0 := ⟨_, rfl⟩
  rw [hW] at E0' K'
  have K := Lib.hid K'.out
  have E0 := Lib.hid E0'.out
  have HA := Lib.hid (ha.later E0.out)
  have HA' := Lib.hid (ha'.later E0.out)
  have HW := Lib.hid hW
  clear hW E0' K' ha ha'
  obtain ⟨⟨x0, x1, x2⟩, y0, y1, y2⟩ := K.out _ (Below.refl _ _)
  by_cases e0 : F = F'
  case neg =>
    go_enter Try.func19, Try.ntmps19
    go_wp2_with fail
    rw [HW.out]
    go_wp2
    go_ret
    exact ⟨ret_bool (by simp [sameFrB, e0]), E0.out⟩
  subst e0
  by_cases e1 : C = C'
  case neg =>
    go_enter Try.func19, Try.ntmps19
    go_wp2_with fail
    rw [HW.out]
    go_wp2
    go_ret
    exact ⟨ret_bool (by simp [sameFrB, e1]), E0.out⟩
  subst e1
  have CE := Lib.hid (fun wx (hx : Below W0.heap.size W0 wx) => same_og_equal L a cap hl M a' cap' _hm wx (HA.out.later hx) (HA'.out.later hx))
  have HS : Hid (sameFrB F C L F C M = sameOgB L M) := by show _ = _; simp [sameFrB]
  obtain ⟨r, hr⟩ : ∃ r, sameOgB L M = r := ⟨_, rfl⟩
  rw [hr] at CE HS
  clear hr
  rw [HS.out]
  go_enter Try.func19, Try.ntmps19
  go_wp2_with fail
  rw [HW.out]
  go_wp2_with fail
  refine (CE.out _ (Below.refl _ _)).mono ?_
  rintro e w1 ⟨rfl, hb1⟩
  have B1 := Lib.hid hb1
  clear hb1
  go_wp2
  go_ret
  exact ⟨ret_bool rfl, bnext E0.out B1.out⟩
end Go.Proofs.Ytplggghhhgmebaa
