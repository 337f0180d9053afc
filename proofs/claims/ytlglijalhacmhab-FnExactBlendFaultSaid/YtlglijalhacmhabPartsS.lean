/-
  Sums, values and codes of blends: the model's.
-/
import Derived.Test.YtlglijalhacmhabParts
import Derived.Test.YtlglijalhacmhabClayB
import Derived.Test.YtlglijalhacmhabFrac
import Derived.Deep.RegionWith
namespace Go.Proofs.Ytlglijalhacmhab
open Go.ChangeShapes Go.WideShapes Go.ChangeAt Go.RowKit Go.Joins

/-- What the model's sum gives: -1 if they are no parts. -/
def specSum (P : List Int) : Int := if okParts P = true then sumP P else -1

set_option maxRecDepth 100000 in
set_option maxHeartbeats 1600000 in
theorem sum_spec (P : List Int) (a : Option Addr) (cap : Nat) (hl : P.length ≤ 1048576) (w : World) (ha : IntArg w a P) :
    Calls Try.prog 96 #[.slice a P.length cap] w fun e w' => e = .returned (.int .i64 (specSum P)) ∧ Below w.heap.size w w' := by
  have HA := Lib.hid ha
  clear ha
  go_enter Try.func96, Try.ntmps96
  go_wp2
  go_loopw [3, 4] (fun s i wr => ∃ k : Nat, k ≤ P.length ∧ s = .int .i64 (sumTo P k) ∧ i = .int .i64 k ∧ Hid (partsTo P k = true) ∧ Hid (Below w.heap.size w wr)) (fun _ i _ => P.length - (intOf i).toNat)
  case atStart => exact ⟨0, Nat.zero_le _, rfl, rfl, rfl, Below.refl _ _⟩
  case round =>
    obtain ⟨k, hk, rfl, rfl, hO, hB⟩ := hrel
    obtain ⟨s0, s1⟩ := sumTo_range hO.out
    by_cases hlt : k < P.length
    · have hlt' : (k : Int) < (P.length : Int) := by omega
      have hk0 : (0 : Int) ≤ (k : Int) := by omega
      obtain ⟨b, o, z, rfl, hz, hat⟩ := (HA.out.later hB.out).at hlt
      have c0 := hat k z hz
      have HZ := Lib.hid hz
      clear hz hat
      cases hi : inB z 0 1000
      · go_wp2_with (go_at_call 71; refine (in_any _ _ _ _).mono ?_; rintro e w' ⟨rfl, rfl⟩)
        go_ret
        refine ⟨ret_int ?_, hB.out⟩
        have h1 : partsTo P (k + 1) = false := by rw [partsTo_step HZ.out, hi]; simp
        have h2 : okParts P = false := partsTo_false (by omega) h1
        simp [specSum, h2]
      · obtain ⟨z0, z1⟩ := inB_true.1 hi
        obtain ⟨q, hq⟩ : ∃ q, sumTo P k = q := ⟨_, rfl⟩
        have HQ := Lib.hid hq
        rw [hq] at s0 s1
        rw [hq]
        clear hq
        go_wp2_with (go_at_call 71; refine (in_any _ _ _ _).mono ?_; rintro e w' ⟨rfl, rfl⟩)
        go_roundw
        case rel =>
          refine ⟨k + 1, by omega, ?_, by go_num, ?_, hB.out⟩
          · rw [sumTo_step HZ.out, HQ.out]
          · show partsTo P (k + 1) = true
            rw [partsTo_step HZ.out, hO.out, hi]; rfl
        case measure => simp [intOf]; omega
    · have hge : ¬ (k : Int) < (P.length : Int) := by omega
      have hkn : k = P.length := by omega
      subst hkn
      go_wp2
      go_ret
      refine ⟨ret_int ?_, hB.out⟩
      have h2 : okParts P = true := hO.out
      simp [specSum, h2, sumP]
end Go.Proofs.Ytlglijalhacmhab
