/-
  Sums, values and codes of blends: the program's.
-/
import Derived.Test.YtdhikdaegmekbabParts
import Derived.Test.YtdhikdaegmekbabClayV
import Derived.Test.YtdhikdaegmekbabFrac
import Derived.Deep.RegionWith
import Derived.Deep.QuietTactic
namespace Go.Proofs.Ytdhikdaegmekbab
open Go.ChangeShapes Go.WideShapes Go.ChangeAt Go.RowKit Go.Joins

set_option maxRecDepth 100000 in
set_option maxHeartbeats 1600000 in
theorem areParts_impl (L : List Cl) (a : Option Addr) (cap : Nat) (_hl : L.length ≤ 1048576) (P : List Int) (a' : Option Addr) (cap' : Nat) (hl' : P.length ≤ 1048576) (w : World) (ha' : IntArg w a' P) :
    Calls Try.prog 136 #[.slice a L.length cap, .slice a' P.length cap'] w fun e w' => e = .returned (.bool (decide (P.length = L.length) && okParts P)) ∧ Below w.heap.size w w' := by
  have HA := Lib.hid ha'
  clear ha'
  go_enter Try.func136, Try.ntmps136
  go_wp2
  go_loopw [9] (fun i wr => ∃ k : Nat, k ≤ P.length ∧ i = .int .i64 k ∧ Hid (partsTo P k = true) ∧ Hid (Below w.heap.size w wr)) (fun i _ => P.length - (intOf i).toNat)
  case atStart => exact ⟨0, Nat.zero_le _, rfl, rfl, Below.refl _ _⟩
  case round =>
    obtain ⟨k, hk, rfl, hO, hB⟩ := hrel
    by_cases hlt : k < P.length
    · have hlt' : (k : Int) < (P.length : Int) := by omega
      have hk0 : (0 : Int) ≤ (k : Int) := by omega
      obtain ⟨b, o, z, rfl, hz, hat⟩ := (HA.out.later hB.out).at hlt
      have c0 := hat k z hz
      have HZ := Lib.hid hz
      clear hz hat
      cases hi : inB z 0 1000
      · go_wp2_with (go_at_call 91; refine (within_impl _ _ _ _).mono ?_; rintro e w' ⟨rfl, rfl⟩)
        go_ret
        refine ⟨ret_bool ?_, hB.out⟩
        have h1 : partsTo P (k + 1) = false := by rw [partsTo_step HZ.out, hi]; simp
        have h2 : okParts P = false := partsTo_false (by omega) h1
        simp [h2]
      · go_wp2_with (go_at_call 91; refine (within_impl _ _ _ _).mono ?_; rintro e w' ⟨rfl, rfl⟩)
        go_roundw
        case rel =>
          refine ⟨k + 1, by omega, by go_num, ?_, hB.out⟩
          show partsTo P (k + 1) = true
          rw [partsTo_step HZ.out, hO.out, hi]; rfl
        case measure => simp [intOf]; omega
    · have hge : ¬ (k : Int) < (P.length : Int) := by omega
      have hkn : k = P.length := by omega
      subst hkn
      by_cases h2 : (P.length : Int) = (L.length : Int)
      all_goals
        have E2 := Lib.hid h2
        go_wp2
        go_ret
        refine ⟨ret_bool ?_, hB.out⟩
        have h3 : okParts P = true := hO.out
        have h4 := E2.out
        rw [h3]
        first
          | (have h5 : P.length = L.length := by omega
             simp [h5]; done)
          | (have h6 : ¬ P.length = L.length := by omega
             simp [h6] <;> omega)

set_option maxRecDepth 100000 in
set_option maxHeartbeats 1600000 in
theorem sum_impl (P : List Int) (hP : okParts P = true) (a : Option Addr) (cap : Nat) (hl : P.length ≤ 1048576) (w : World) (ha : IntArg w a P) :
    Calls Try.prog 85 #[.slice a P.length cap] w fun e w' => e = .returned (.int .i64 (sumP P)) ∧ Below w.heap.size w w' := by
  have HA := Lib.hid ha
  have HP := Lib.hid hP
  clear ha hP
  go_enter Try.func85, Try.ntmps85
  go_wp2
  go_loopw [3, 9] (fun s i wr => ∃ k : Nat, k ≤ P.length ∧ s = .int .i64 (sumTo P k) ∧ i = .int .i64 k ∧ Hid (Below w.heap.size w wr)) (fun _ i _ => P.length - (intOf i).toNat)
  case atStart => exact ⟨0, Nat.zero_le _, rfl, rfl, Below.refl _ _⟩
  case round =>
    obtain ⟨k, hk, rfl, rfl, hB⟩ := hrel
    obtain ⟨s0, s1⟩ := sumTo_range (partsTo_mono hk HP.out)
    by_cases hlt : k < P.length
    · have hlt' : (k : Int) < (P.length : Int) := by omega
      have hk0 : (0 : Int) ≤ (k : Int) := by omega
      obtain ⟨b, o, z, rfl, hz, hat⟩ := (HA.out.later hB.out).at hlt
      have c0 := hat k z hz
      have HZ := Lib.hid (sumTo_step hz)
      obtain ⟨z0, z1⟩ := okParts_at HP.out hz
      clear hz hat
      obtain ⟨q, hq⟩ : ∃ q, sumTo P k = q := ⟨_, rfl⟩
      rw [hq] at s0 s1 HZ
      rw [hq]
      clear hq
      go_wp2
      go_roundw
      case rel => exact ⟨k + 1, by omega, by rw [HZ.out], by go_num, hB.out⟩
      case measure => simp [intOf]; omega
    · have hge : ¬ (k : Int) < (P.length : Int) := by omega
      have hkn : k = P.length := by omega
      subst hkn
      go_wp2
      go_ret
      exact ⟨rfl, hB.out⟩

end Go.Proofs.Ytdhikdaegmekbab
