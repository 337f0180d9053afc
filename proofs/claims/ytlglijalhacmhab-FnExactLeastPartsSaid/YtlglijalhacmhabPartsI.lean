/-
  Sums, values and codes of blends: the program's.
-/
import Derived.Test.YtlglijalhacmhabParts
import Derived.Test.YtlglijalhacmhabWi
import Derived.Test.YtlglijalhacmhabClayV
import Derived.Test.YtlglijalhacmhabFrac
import Derived.Deep.RegionWith
import Derived.Deep.QuietTactic
namespace Go.Proofs.Ytlglijalhacmhab
open Go.ChangeShapes Go.WideShapes Go.ChangeAt Go.RowKit Go.Joins

theorem okParts_all (P : List Int) : okParts P = allB P 0 1000 := by
  have h : ∀ k, k ≤ P.length → (partsTo P k = true ↔ ∀ (j : Nat) (z : Int), j < k → P[j]? = some z → inB z 0 1000 = true) := by
    intro k
    induction k with
    | zero => intro _; simp [partsTo]
    | succ k ih =>
      intro hk
      have hz := List.getElem?_eq_getElem (show k < P.length by omega)
      rw [partsTo_step hz, Bool.and_eq_true, ih (by omega)]
      constructor
      · rintro ⟨h1, h2⟩ j z hj hjz
        by_cases e : j = k
        · subst e; rw [hz] at hjz; cases hjz; exact h2
        · exact h1 j z (by omega) hjz
      · intro h1; exact ⟨fun j z hj => h1 j z (by omega), h1 k _ (by omega) hz⟩
  rw [Bool.eq_iff_iff, allB_true]
  unfold okParts
  rw [h P.length (Nat.le_refl _)]
  constructor
  · intro h1 k z hz; exact h1 k z (List.getElem?_eq_some_iff.1 hz).1 hz
  · intro h1 k z _ hz; exact h1 k z hz
set_option maxRecDepth 100000 in
set_option maxHeartbeats 1600000 in
theorem areParts_impl (L : List Cl) (a : Option Addr) (cap : Nat) (_hl : L.length ≤ 1048576) (P : List Int) (a' : Option Addr) (cap' : Nat) (hl' : P.length ≤ 1048576) (w : World) (ha' : IntArg w a' P) :
    Calls Try.prog 101 #[.slice a L.length cap, .slice a' P.length cap'] w fun e w' => e = .returned (.bool (decide (P.length = L.length) && okParts P)) ∧ Below w.heap.size w w' := by
  have C := Lib.hid (fun wx (hx : Below w.heap.size w wx) => allin_impl P 0 1000 a' cap' hl' wx (ha'.later hx))
  rw [← okParts_all] at C
  obtain ⟨v, hv⟩ : ∃ v, okParts P = v := ⟨_, rfl⟩
  rw [hv] at C
  rw [hv]
  clear ha' hv
  by_cases h2 : P.length = L.length
  · have h3 : (P.length : Int) = (L.length : Int) := by omega
    have H2 := Lib.hid h2
    clear h2
    go_enter Try.func101, Try.ntmps101
    go_wp2_with (go_at_call 91; refine (C.out _ (Below.refl _ _)).mono ?_; rintro e w1 ⟨rfl, rfl⟩)
    go_ret
    exact ⟨ret_bool (by have := H2.out; simp [this]), Below.refl _ _⟩
  · have h3 : ¬ (P.length : Int) = (L.length : Int) := by omega
    have H2 := Lib.hid h2
    clear h2
    go_enter Try.func101, Try.ntmps101
    go_wp2_with (go_at_call 91; refine (C.out _ (Below.refl _ _)).mono ?_; rintro e w1 ⟨rfl, rfl⟩)
    go_ret
    exact ⟨ret_bool (by have := H2.out; simp [this]), Below.refl _ _⟩

set_option maxRecDepth 100000 in
set_option maxHeartbeats 1600000 in
theorem sum_impl (P : List Int) (hP : okParts P = true) (a : Option Addr) (cap : Nat) (hl : P.length ≤ 1048576) (w : World) (ha : IntArg w a P) :
    Calls Try.prog 68 #[.slice a P.length cap] w fun e w' => e = .returned (.int .i64 (sumP P)) ∧ Below w.heap.size w w' := by
  have HA := Lib.hid ha
  have HP := Lib.hid hP
  clear ha hP
  go_enter Try.func68, Try.ntmps68
  go_wp2
  go_loopw [3, 9] (fun s i wr => ∃ k : Nat, k ≤ P.length ∧ s = .int .i64 (sumTo P k) ∧ i = .int .i64 k ∧ Hid (Below w.heap.size w wr)) (fun _ i _ => P.length - (intOf i).toNat)
  case atStart => exact ⟨0, Nat.zero_le _, rfl, rfl, Below.refl _ _⟩
  case round =>
    obtain ⟨k, hk, rfl, rfl, hB⟩ := hrel
    obtain ⟨s0, s1⟩ := sumTo_range (partsTo_mono hk HP.out)
    by_cases hlt : k < P.length
    · have hlt' : (k : Int) < (P.length : Int) := by omega
      have hk0 : (0 : Int) ≤ (k : Int) := by omega
      obtain ⟨b, o, z, rfl, hz, hat⟩ := (HA.out.later hB.out).at hlt
      have c0 := hat k z hz
      have HZ := Lib.hid (sumTo_step hz)
      obtain ⟨z0, z1⟩ := okParts_at HP.out hz
      clear hz hat
      obtain ⟨q, hq⟩ : ∃ q, sumTo P k = q := ⟨_, rfl⟩
      rw [hq] at s0 s1 HZ
      rw [hq]
      clear hq
      go_wp2
      go_roundw
      case rel => exact ⟨k + 1, by omega, by rw [HZ.out], by go_num, hB.out⟩
      case measure => simp [intOf]; omega
    · have hge : ¬ (k : Int) < (P.length : Int) := by omega
      have hkn : k = P.length := by omega
      subst hkn
      go_wp2
      go_ret
      exact ⟨rfl, hB.out⟩

end Go.Proofs.Ytlglijalhacmhab
