/-
  SameClays: the model's and the program's answer.
-/
import Derived.Test.YtpmklnldgafkjaaClay
import Derived.Test.YtpmklnldgafkjaaRow
import Derived.Deep.RegionWith
import Derived.Deep.QuietTactic
import Derived.BigQuiet
import Derived.Laws.StructEq
namespace Go.Proofs.Ytpmklnldgafkjaa
open Go.ChangeShapes Go.WideShapes Go.ChangeAt Go.RowKit Go.Joins


/-- Two clays are the same. -/
def Cl.same (c d : Cl) : Bool := c.name.toList == d.name.toList && (c.sh == d.sh && (c.li == d.li && (c.sa == d.sa && c.pr == d.pr)))
/-- The first k clays of both lists are the same. -/
def sameTo (L M : List Cl) : Nat → Bool
  | 0 => true
  | k + 1 => sameTo L M k && (match L[k]?, M[k]? with | some c, some d => c.same d | _, _ => true)
def sameB (L M : List Cl) : Bool := decide (L.length = M.length) && sameTo L M L.length
theorem sameTo_step {L M : List Cl} {k : Nat} {c d : Cl} (hc : L[k]? = some c) (hd : M[k]? = some d) : sameTo L M (k + 1) = (sameTo L M k && c.same d) := by simp [sameTo, hc, hd]
theorem sameTo_false {L M : List Cl} {j k : Nat} (hjk : j ≤ k) (h : sameTo L M j = false) : sameTo L M k = false := by
  induction k with
  | zero => have : j = 0 := by omega
            subst this; exact h
  | succ k ih =>
    by_cases e : j = k + 1
    · subst e; exact h
    · simp only [sameTo]
      rw [ih (by omega)]
      rfl

theorem toList_same {x y : ByteArray} (h : x.toList = y.toList) : x = y := by
  rw [ByteArray.toList_eq, ByteArray.toList_eq] at h
  exact bytes_inj h
set_option maxRecDepth 100000 in
set_option maxHeartbeats 1600000 in
theorem same_spec (L M : List Cl) (a a' : Option Addr) (cap cap' : Nat) (hl : L.length ≤ 1048576) (_hm : M.length ≤ 1048576) (w : World) (ha : ClArg w a L) (ha' : ClArg w a' M) :
    Calls Try.prog 20 #[.slice a L.length cap, .slice a' M.length cap'] w fun e w' => e = .returned (.bool (sameB L M)) ∧ Below w.heap.size w w' := by
  by_cases hlm : L.length = M.length
  case neg =>
    have hlm' : ¬ (L.length : Int) = (M.length : Int) := by omega
    have HE : Hid (sameB L M = false) := by show sameB L M = false; simp [sameB, hlm]
    clear ha ha'
    go_enter Try.func20, Try.ntmps20
    go_wp2
    go_ret
    exact ⟨by rw [HE.out]; rfl, Below.refl _ _⟩
  have HA := Lib.hid ha
  have HA' := Lib.hid ha'
  have HL := Lib.hid hlm
  have hlm' : (L.length : Int) = (M.length : Int) := by omega
  clear ha ha' hlm
  go_enter Try.func20, Try.ntmps20
  go_wp2
  go_loopw [5] (fun i wr => ∃ k : Nat, k ≤ M.length ∧ i = .int .i64 k ∧ Hid (sameTo L M k = true) ∧ Hid (Below w.heap.size w wr)) (fun i _ => M.length - (intOf i).toNat)
  case atStart => exact ⟨0, Nat.zero_le _, rfl, rfl, Below.refl _ _⟩
  case round =>
    obtain ⟨k, hk, rfl, hS, hB⟩ := hrel
    by_cases hlt : k < M.length
    · have hlt' : (k : Int) < (M.length : Int) := by omega
      have hk0 : (0 : Int) ≤ (k : Int) := by omega
      obtain ⟨b, o, ⟨n, s1, s2, s3, s4⟩, rfl, hc, hat⟩ := (HA.out.later hB.out).at (k := k) (by rw [HL.out]; exact hlt)
      obtain ⟨b', o', ⟨m, t1, t2, t3, t4⟩, rfl, hd, hat'⟩ := (HA'.out.later hB.out).at hlt
      obtain ⟨c0, c1, c2, c3, c4⟩ := hat.cells hc
      obtain ⟨d0, d1, d2, d3, d4⟩ := hat'.cells hd
      have HC := Lib.hid (sameTo_step hc hd)
      dsimp only at c0 c1 c2 c3 c4 d0 d1 d2 d3 d4
      clear hc hd hat hat'
      by_cases e0 : n.toList = m.toList
      case neg =>
        go_wp2_with fail
        go_region
        go_wp2
        go_ret
        refine ⟨ret_bool ?_, hB.out.drew⟩
        have h1 : sameTo L M (k + 1) = false := by rw [HC.out]; simp [Cl.same, e0]
        have h2 : sameTo L M L.length = false := sameTo_false (by rw [HL.out]; omega) h1
        rw [sameB, h2]
        simp
      obtain rfl := toList_same e0
      clear e0
      by_cases e1 : s1 = t1
      case neg =>
        go_wp2_with fail
        go_region
        go_wp2
        go_ret
        refine ⟨ret_bool ?_, hB.out.drew⟩
        have h1 : sameTo L M (k + 1) = false := by rw [HC.out]; simp [Cl.same, e1]
        have h2 : sameTo L M L.length = false := sameTo_false (by rw [HL.out]; omega) h1
        rw [sameB, h2]
        simp
      subst e1
      by_cases e2 : s2 = t2
      case neg =>
        go_wp2_with fail
        go_region
        go_wp2
        go_ret
        refine ⟨ret_bool ?_, hB.out.drew⟩
        have h1 : sameTo L M (k + 1) = false := by rw [HC.out]; simp [Cl.same, e2]
        have h2 : sameTo L M L.length = false := sameTo_false (by rw [HL.out]; omega) h1
        rw [sameB, h2]
        simp
      subst e2
      by_cases e3 : s3 = t3
      case neg =>
        go_wp2_with fail
        go_region
        go_wp2
        go_ret
        refine ⟨ret_bool ?_, hB.out.drew⟩
        have h1 : sameTo L M (k + 1) = false := by rw [HC.out]; simp [Cl.same, e3]
        have h2 : sameTo L M L.length = false := sameTo_false (by rw [HL.out]; omega) h1
        rw [sameB, h2]
        simp
      subst e3
      by_cases e4 : s4 = t4
      case neg =>
        go_wp2_with fail
        go_region
        go_wp2
        go_ret
        refine ⟨ret_bool ?_, hB.out.drew⟩
        have h1 : sameTo L M (k + 1) = false := by rw [HC.out]; simp [Cl.same, e4]
        have h2 : sameTo L M L.length = false := sameTo_false (by rw [HL.out]; omega) h1
        rw [sameB, h2]
        simp
      subst e4
      go_wp2_with fail
      go_region
      go_wp2
      go_roundw
      case rel =>
        refine ⟨k + 1, by omega, by go_num, ?_, hB.out.drew⟩
        show sameTo L M (k + 1) = true
        rw [HC.out, hS.out]
        simp [Cl.same]
      case measure => simp [intOf]; omega
    · have hge : ¬ (k : Int) < (M.length : Int) := by omega
      have hkn : k = M.length := by omega
      subst hkn
      go_wp2
      go_ret
      refine ⟨ret_bool ?_, hB.out⟩
      have h1 := HL.out
      rw [sameB, h1, hS.out]
      simp
set_option maxRecDepth 100000 in
set_option maxHeartbeats 1600000 in
theorem same_equal (L M : List Cl) (a a' : Option Addr) (cap cap' : Nat) (hl : L.length ≤ 1048576) (_hm : M.length ≤ 1048576) (w : World) (ha : ClArg w a L) (ha' : ClArg w a' M) :
    Calls Try.prog 59 #[.slice a L.length cap, .slice a' M.length cap'] w fun e w' => e = .returned (.bool (sameB L M)) ∧ Below w.heap.size w w' := by
  by_cases hlm : L.length = M.length
  case neg =>
    have hlm' : ¬ (L.length : Int) = (M.length : Int) := by omega
    have HE : Hid (sameB L M = false) := by show sameB L M = false; simp [sameB, hlm]
    clear ha ha'
    go_enter Try.func59, Try.ntmps59
    go_wp2
    go_ret
    exact ⟨by rw [HE.out]; rfl, Below.refl _ _⟩
  have HA := Lib.hid ha
  have HA' := Lib.hid ha'
  have HL := Lib.hid hlm
  have hlm' : (L.length : Int) = (M.length : Int) := by omega
  clear ha ha' hlm
  go_enter Try.func59, Try.ntmps59
  go_wp2
  go_loopw [13] (fun i wr => ∃ k : Nat, k ≤ M.length ∧ i = .int .i64 k ∧ Hid (sameTo L M k = true) ∧ Hid (Below w.heap.size w wr)) (fun i _ => M.length - (intOf i).toNat)
  case atStart => exact ⟨0, Nat.zero_le _, rfl, rfl, Below.refl _ _⟩
  case round =>
    obtain ⟨k, hk, rfl, hS, hB⟩ := hrel
    by_cases hlt : k < M.length
    · have hlt' : (k : Int) < (M.length : Int) := by omega
      have hk0 : (0 : Int) ≤ (k : Int) := by omega
      obtain ⟨b, o, ⟨n, s1, s2, s3, s4⟩, rfl, hc, hat⟩ := (HA.out.later hB.out).at (k := k) (by rw [HL.out]; exact hlt)
      obtain ⟨b', o', ⟨m, t1, t2, t3, t4⟩, rfl, hd, hat'⟩ := (HA'.out.later hB.out).at hlt
      obtain ⟨c0, c1, c2, c3, c4⟩ := hat.cells hc
      obtain ⟨d0, d1, d2, d3, d4⟩ := hat'.cells hd
      have HC := Lib.hid (sameTo_step hc hd)
      dsimp only at c0 c1 c2 c3 c4 d0 d1 d2 d3 d4
      clear hc hd hat hat'
      by_cases e0 : n.toList = m.toList
      case neg =>
        go_wp2_with fail
        go_region
        go_wp2
        go_ret
        refine ⟨ret_bool ?_, hB.out.drew⟩
        have h1 : sameTo L M (k + 1) = false := by rw [HC.out]; simp [Cl.same, e0]
        have h2 : sameTo L M L.length = false := sameTo_false (by rw [HL.out]; omega) h1
        rw [sameB, h2]
        simp
      obtain rfl := toList_same e0
      clear e0
      by_cases e1 : s1 = t1
      case neg =>
        go_wp2_with fail
        go_region
        go_wp2
        go_ret
        refine ⟨ret_bool ?_, hB.out.drew⟩
        have h1 : sameTo L M (k + 1) = false := by rw [HC.out]; simp [Cl.same, e1]
        have h2 : sameTo L M L.length = false := sameTo_false (by rw [HL.out]; omega) h1
        rw [sameB, h2]
        simp
      subst e1
      by_cases e2 : s2 = t2
      case neg =>
        go_wp2_with fail
        go_region
        go_wp2
        go_ret
        refine ⟨ret_bool ?_, hB.out.drew⟩
        have h1 : sameTo L M (k + 1) = false := by rw [HC.out]; simp [Cl.same, e2]
        have h2 : sameTo L M L.length = false := sameTo_false (by rw [HL.out]; omega) h1
        rw [sameB, h2]
        simp
      subst e2
      by_cases e3 : s3 = t3
      case neg =>
        go_wp2_with fail
        go_region
        go_wp2
        go_ret
        refine ⟨ret_bool ?_, hB.out.drew⟩
        have h1 : sameTo L M (k + 1) = false := by rw [HC.out]; simp [Cl.same, e3]
        have h2 : sameTo L M L.length = false := sameTo_false (by rw [HL.out]; omega) h1
        rw [sameB, h2]
        simp
      subst e3
      by_cases e4 : s4 = t4
      case neg =>
        go_wp2_with fail
        go_region
        go_wp2
        go_ret
        refine ⟨ret_bool ?_, hB.out.drew⟩
        have h1 : sameTo L M (k + 1) = false := by rw [HC.out]; simp [Cl.same, e4]
        have h2 : sameTo L M L.length = false := sameTo_false (by rw [HL.out]; omega) h1
        rw [sameB, h2]
        simp
      subst e4
      go_wp2_with fail
      go_region
      go_wp2
      go_roundw
      case rel =>
        refine ⟨k + 1, by omega, by go_num, ?_, hB.out.drew⟩
        show sameTo L M (k + 1) = true
        rw [HC.out, hS.out]
        simp [Cl.same]
      case measure => simp [intOf]; omega
    · have hge : ¬ (k : Int) < (M.length : Int) := by omega
      have hkn : k = M.length := by omega
      subst hkn
      go_wp2
      go_ret
      refine ⟨ret_bool ?_, hB.out⟩
      have h1 := HL.out
      rw [sameB, h1, hS.out]
      simp

theorem same_impl (L M : List Cl) (a a' : Option Addr) (cap cap' : Nat) (hl : L.length ≤ 1048576) (hm : M.length ≤ 1048576) (w : World) (ha : ClArg w a L) (ha' : ClArg w a' M) :
    Calls Try.prog 21 #[.slice a L.length cap, .slice a' M.length cap'] w fun e w' => e = .returned (.bool (sameB L M)) ∧ Below w.heap.size w w' := by
  have C := Lib.hid (same_equal L M a a' cap cap' hl hm w ha ha')
  clear ha ha'
  go_enter Try.func21, Try.ntmps21
  go_wp2_with fail
  refine C.out.mono ?_
  rintro e w1 ⟨rfl, hb1⟩
  go_wp2
  go_ret
  exact ⟨rfl, hb1⟩
end Go.Proofs.Ytpmklnldgafkjaa
