/-
  SameMoulds: the model's and the program's answer.
-/
import Derived.Test.YtdandhmallbemaaDoorMo
import Derived.Test.YtdandhmallbemaaDoorRow
import Derived.Deep.RegionWith
import Derived.Deep.QuietTactic
import Derived.BigQuiet
import Derived.Laws.StructEq
namespace Go.Proofs.YtdandhmallbemaaDoor
open Go.ChangeShapes Go.WideShapes Go.ChangeAt Go.RowKit Go.Joins

/-- Two of them are the same. -/
def Mo.same (c d : Mo) : Bool := c.le == d.le && (c.wi == d.wi && (c.he == d.he && (c.us == d.us)))
/-- The first k of both lists are the same. -/
def sameMoTo (L M : List Mo) : Nat → Bool
  | 0 => true
  | k + 1 => sameMoTo L M k && (match L[k]?, M[k]? with | some c, some d => c.same d | _, _ => true)
def sameMoB (L M : List Mo) : Bool := decide (L.length = M.length) && sameMoTo L M L.length
theorem sameMoTo_step {L M : List Mo} {k : Nat} {c d : Mo} (hc : L[k]? = some c) (hd : M[k]? = some d) : sameMoTo L M (k + 1) = (sameMoTo L M k && c.same d) := by simp [sameMoTo, hc, hd]
theorem sameMoTo_false {L M : List Mo} {j k : Nat} (hjk : j ≤ k) (h : sameMoTo L M j = false) : sameMoTo L M k = false := by
  induction k with
  | zero => have : j = 0 := by omega
            subst this; exact h
  | succ k ih =>
    by_cases e : j = k + 1
    · subst e; exact h
    · simp only [sameMoTo]
      rw [ih (by omega)]
      rfl
set_option maxRecDepth 100000 in
set_option maxHeartbeats 1600000 in
theorem same_mould_spec (L : List Mo) (a : Option Addr) (cap : Nat) (hl : L.length ≤ 1048576) (M : List Mo) (a' : Option Addr) (cap' : Nat) (_hm : M.length ≤ 1048576) (w : World) (ha : MoArg w a L) (ha' : MoArg w a' M) :
    Calls Tryd.prog 19 #[.slice a L.length cap, .slice a' M.length cap'] w fun e w' => e = .returned (.bool (sameMoB L M)) ∧ Below w.heap.size w w' := by
  by_cases hlm : L.length = M.length
  case neg =>
    have hlm' : ¬ (L.length : Int) = (M.length : Int) := by omega
    have HE : Hid (sameMoB L M = false) := by show sameMoB L M = false; simp [sameMoB, hlm]
    clear ha ha'
    go_enter Tryd.func19, Tryd.ntmps19
    go_wp2
    go_ret
    exact ⟨by rw [HE.out]; rfl, Below.refl _ _⟩
  have HA := Lib.hid ha
  have HA' := Lib.hid ha'
  have HL := Lib.hid hlm
  have hlm' : (L.length : Int) = (M.length : Int) := by omega
  clear ha ha' hlm
  go_enter Tryd.func19, Tryd.ntmps19
  go_wp2
  go_loopw [5] (fun i wr => ∃ k : Nat, k ≤ M.length ∧ i = .int .i64 k ∧ Hid (sameMoTo L M k = true) ∧ Hid (Below w.heap.size w wr)) (fun i _ => M.length - (intOf i).toNat)
  case atStart => exact ⟨0, Nat.zero_le _, rfl, rfl, Below.refl _ _⟩
  case round =>
    obtain ⟨k, hk, rfl, hS, hB⟩ := hrel
    by_cases hlt : k < M.length
    · have hlt' : (k : Int) < (M.length : Int) := by omega
      have hk0 : (0 : Int) ≤ (k : Int) := by omega
      obtain ⟨b, o, ⟨s0, s1, s2, s3⟩, rfl, hc, hat⟩ := (HA.out.later hB.out).at (k := k) (by rw [HL.out]; exact hlt)
      obtain ⟨b', o', ⟨t0, t1, t2, t3⟩, rfl, hd, hat'⟩ := (HA'.out.later hB.out).at hlt
      obtain ⟨c0, c1, c2, c3⟩ := hat.cells hc
      obtain ⟨d0, d1, d2, d3⟩ := hat'.cells hd
      have HC := Lib.hid (sameMoTo_step hc hd)
      dsimp only at c0 c1 c2 c3 d0 d1 d2 d3
      clear hc hd hat hat'
      by_cases e0 : s0 = t0
      case neg =>
        go_wp2_with fail
        go_region
        go_wp2
        go_ret
        refine ⟨ret_bool ?_, hB.out.drew⟩
        have h1 : sameMoTo L M (k + 1) = false := by rw [HC.out]; simp [Mo.same, e0]
        have h2 : sameMoTo L M L.length = false := sameMoTo_false (by rw [HL.out]; omega) h1
        rw [sameMoB, h2]
        simp
      subst e0
      by_cases e1 : s1 = t1
      case neg =>
        go_wp2_with fail
        go_region
        go_wp2
        go_ret
        refine ⟨ret_bool ?_, hB.out.drew⟩
        have h1 : sameMoTo L M (k + 1) = false := by rw [HC.out]; simp [Mo.same, e1]
        have h2 : sameMoTo L M L.length = false := sameMoTo_false (by rw [HL.out]; omega) h1
        rw [sameMoB, h2]
        simp
      subst e1
      by_cases e2 : s2 = t2
      case neg =>
        go_wp2_with fail
        go_region
        go_wp2
        go_ret
        refine ⟨ret_bool ?_, hB.out.drew⟩
        have h1 : sameMoTo L M (k + 1) = false := by rw [HC.out]; simp [Mo.same, e2]
        have h2 : sameMoTo L M L.length = false := sameMoTo_false (by rw [HL.out]; omega) h1
        rw [sameMoB, h2]
        simp
      subst e2
      by_cases e3 : s3 = t3
      case neg =>
        go_wp2_with fail
        go_region
        go_wp2
        go_ret
        refine ⟨ret_bool ?_, hB.out.drew⟩
        have h1 : sameMoTo L M (k + 1) = false := by rw [HC.out]; simp [Mo.same, e3]
        have h2 : sameMoTo L M L.length = false := sameMoTo_false (by rw [HL.out]; omega) h1
        rw [sameMoB, h2]
        simp
      subst e3
      go_wp2_with fail
      go_region
      go_wp2
      go_roundw
      case rel =>
        refine ⟨k + 1, by omega, by go_num, ?_, hB.out.drew⟩
        show sameMoTo L M (k + 1) = true
        rw [HC.out, hS.out]
        simp [Mo.same]
      case measure => simp [intOf]; omega
    · have hge : ¬ (k : Int) < (M.length : Int) := by omega
      have hkn : k = M.length := by omega
      subst hkn
      go_wp2
      go_ret
      refine ⟨ret_bool ?_, hB.out⟩
      have h1 := HL.out
      rw [sameMoB, h1, hS.out]
      simp
set_option maxRecDepth 100000 in
set_option maxHeartbeats 1600000 in
theorem same_mould_equal (L : List Mo) (a : Option Addr) (cap : Nat) (hl : L.length ≤ 1048576) (M : List Mo) (a' : Option Addr) (cap' : Nat) (_hm : M.length ≤ 1048576) (w : World) (ha : MoArg w a L) (ha' : MoArg w a' M) :
    Calls Tryd.prog 48 #[.slice a L.length cap, .slice a' M.length cap'] w fun e w' => e = .returned (.bool (sameMoB L M)) ∧ Below w.heap.size w w' := by
  by_cases hlm : L.length = M.length
  case neg =>
    have hlm' : ¬ (L.length : Int) = (M.length : Int) := by omega
    have HE : Hid (sameMoB L M = false) := by show sameMoB L M = false; simp [sameMoB, hlm]
    clear ha ha'
    go_enter Tryd.func48, Tryd.ntmps48
    go_wp2
    go_ret
    exact ⟨by rw [HE.out]; rfl, Below.refl _ _⟩
  have HA := Lib.hid ha
  have HA' := Lib.hid ha'
  have HL := Lib.hid hlm
  have hlm' : (L.length : Int) = (M.length : Int) := by omega
  clear ha ha' hlm
  go_enter Tryd.func48, Tryd.ntmps48
  go_wp2
  go_loopw [13] (fun i wr => ∃ k : Nat, k ≤ M.length ∧ i = .int .i64 k ∧ Hid (sameMoTo L M k = true) ∧ Hid (Below w.heap.size w wr)) (fun i _ => M.length - (intOf i).toNat)
  case atStart => exact ⟨0, Nat.zero_le _, rfl, rfl, Below.refl _ _⟩
  case round =>
    obtain ⟨k, hk, rfl, hS, hB⟩ := hrel
    by_cases hlt : k < M.length
    · have hlt' : (k : Int) < (M.length : Int) := by omega
      have hk0 : (0 : Int) ≤ (k : Int) := by omega
      obtain ⟨b, o, ⟨s0, s1, s2, s3⟩, rfl, hc, hat⟩ := (HA.out.later hB.out).at (k := k) (by rw [HL.out]; exact hlt)
      obtain ⟨b', o', ⟨t0, t1, t2, t3⟩, rfl, hd, hat'⟩ := (HA'.out.later hB.out).at hlt
      obtain ⟨c0, c1, c2, c3⟩ := hat.cells hc
      obtain ⟨d0, d1, d2, d3⟩ := hat'.cells hd
      have HC := Lib.hid (sameMoTo_step hc hd)
      dsimp only at c0 c1 c2 c3 d0 d1 d2 d3
      clear hc hd hat hat'
      by_cases e0 : s0 = t0
      case neg =>
        go_wp2_with fail
        go_region
        go_wp2
        go_ret
        refine ⟨ret_bool ?_, hB.out.drew⟩
        have h1 : sameMoTo L M (k + 1) = false := by rw [HC.out]; simp [Mo.same, e0]
        have h2 : sameMoTo L M L.length = false := sameMoTo_false (by rw [HL.out]; omega) h1
        rw [sameMoB, h2]
        simp
      subst e0
      by_cases e1 : s1 = t1
      case neg =>
        go_wp2_with fail
        go_region
        go_wp2
        go_ret
        refine ⟨ret_bool ?_, hB.out.drew⟩
        have h1 : sameMoTo L M (k + 1) = false := by rw [HC.out]; simp [Mo.same, e1]
        have h2 : sameMoTo L M L.length = false := sameMoTo_false (by rw [HL.out]; omega) h1
        rw [sameMoB, h2]
        simp
      subst e1
      by_cases e2 : s2 = t2
      case neg =>
        go_wp2_with fail
        go_region
        go_wp2
        go_ret
        refine ⟨ret_bool ?_, hB.out.drew⟩
        have h1 : sameMoTo L M (k + 1) = false := by rw [HC.out]; simp [Mo.same, e2]
        have h2 : sameMoTo L M L.length = false := sameMoTo_false (by rw [HL.out]; omega) h1
        rw [sameMoB, h2]
        simp
      subst e2
      by_cases e3 : s3 = t3
      case neg =>
        go_wp2_with fail
        go_region
        go_wp2
        go_ret
        refine ⟨ret_bool ?_, hB.out.drew⟩
        have h1 : sameMoTo L M (k + 1) = false := by rw [HC.out]; simp [Mo.same, e3]
        have h2 : sameMoTo L M L.length = false := sameMoTo_false (by rw [HL.out]; omega) h1
        rw [sameMoB, h2]
        simp
      subst e3
      go_wp2_with fail
      go_region
      go_wp2
      go_roundw
      case rel =>
        refine ⟨k + 1, by omega, by go_num, ?_, hB.out.drew⟩
        show sameMoTo L M (k + 1) = true
        rw [HC.out, hS.out]
        simp [Mo.same]
      case measure => simp [intOf]; omega
    · have hge : ¬ (k : Int) < (M.length : Int) := by omega
      have hkn : k = M.length := by omega
      subst hkn
      go_wp2
      go_ret
      refine ⟨ret_bool ?_, hB.out⟩
      have h1 := HL.out
      rw [sameMoB, h1, hS.out]
      simp
theorem same_mould_impl (L : List Mo) (a : Option Addr) (cap : Nat) (hl : L.length ≤ 1048576) (M : List Mo) (a' : Option Addr) (cap' : Nat) (hm : M.length ≤ 1048576) (w : World) (ha : MoArg w a L) (ha' : MoArg w a' M) :
    Calls Tryd.prog 20 #[.slice a L.length cap, .slice a' M.length cap'] w fun e w' => e = .returned (.bool (sameMoB L M)) ∧ Below w.heap.size w w' := by
  have C := Lib.hid (same_mould_equal L a cap hl M a' cap' hm w ha ha')
  clear ha ha'
  go_enter Tryd.func20, Tryd.ntmps20
  go_wp2_with fail
  refine C.out.mono ?_
  rintro e w1 ⟨rfl, hb1⟩
  go_wp2
  go_ret
  exact ⟨rfl, hb1⟩
end Go.Proofs.YtdandhmallbemaaDoor
