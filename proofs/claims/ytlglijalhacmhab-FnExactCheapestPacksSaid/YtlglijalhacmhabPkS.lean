/-
  The cheapest packs: the model's word.
-/
import Derived.Test.YtlglijalhacmhabPkP
import Derived.Test.YtlglijalhacmhabNu
import Derived.Test.YtlglijalhacmhabGq
import Derived.Test.YtlglijalhacmhabIn
import Derived.Deep.RegionWith
import Derived.Deep.RegionHeld3
import Derived.Deep.QuietTactic
import Derived.WalkSmall
namespace Go.Proofs.Ytlglijalhacmhab
open Go.ChangeShapes Go.WideShapes Go.ChangeAt Go.RowKit Go.Joins

set_option maxRecDepth 100000 in
set_option maxHeartbeats 6400000 in
theorem sizes_spec (S P : List Int) (a b : Option Addr) (ca cb : Nat) (hl : S.length ≤ 1048576) (hp : P.length ≤ 1048576) (w : World) (ha : IntArg w a S) (hb : IntArg w b P) :
    Calls Try.prog 70 #[.slice a S.length ca, .slice b P.length cb] w fun e w' => e = .returned (.bool (pkOk S P)) ∧ Below w.heap.size w w' := by
  have HB := Lib.hid hb
  have RS := Lib.hid (rises_spec S 1 1000 hl a ca w ha)
  clear ha hb
  have IW := Lib.hid (fun z lo hi wx => in_any z lo hi wx)
  go_enter Try.func70, Try.ntmps70
  go_wp2
  go_loop [5] (fun i => ∃ k : Nat, k ≤ P.length ∧ i = .int .i64 (k : Int) ∧ Hid (∀ (j : Nat) (z : Int), j < k → P[j]? = some z → inB z 1 100000 = true)) (fun i => P.length - (intOf i).toNat)
  case atStart => exact ⟨0, Nat.zero_le _, rfl, fun j z h => by omega⟩
  case round =>
    obtain ⟨k, hk, rfl, hM⟩ := hrel
    by_cases hlt : k < P.length
    · have hlt' : (k : Int) < (P.length : Int) := by omega
      have hk0 : (0 : Int) ≤ (k : Int) := by omega
      obtain ⟨bb, o, z, rfl, hz, hat⟩ := HB.out.at hlt
      have c0 := hat k z hz
      have HZ := Lib.hid hz
      have W0 := Lib.hid (fun wx => IW.out z 1 100000 wx)
      clear hat hz
      cases hin : inB z 1 100000
      · have HR : Hid (pkOk S P = false) := by show _ = _; simp [pkOk, allB_no HZ.out hin]
        rw [hin] at W0
        go_wp2_with (go_at_call 71; refine (W0.out _).mono ?_; rintro e w1 ⟨rfl, rfl⟩)
        go_ret
        exact ⟨ret_bool (by rw [HR.out]), Below.refl _ _⟩
      · rw [hin] at W0
        have HI := Lib.hid hin
        clear hin
        go_wp2_with (go_at_call 71; refine (W0.out _).mono ?_; rintro e w1 ⟨rfl, rfl⟩)
        go_round
        case rel =>
          refine ⟨k + 1, by omega, by go_num, fun j y hj hy => ?_⟩
          by_cases e : j = k
          · subst e
            rw [HZ.out] at hy
            cases hy
            exact HI.out
          · exact hM.out j y (by omega) hy
        case measure => simp [intOf]; omega
    · have hge : ¬ (k : Int) < (P.length : Int) := by omega
      have HR : Hid (allB P 1 100000 = true) := allB_true.2 fun j z hz => hM.out j z (by have := (List.getElem?_eq_some_iff.1 hz).1; omega) hz
      have W0 := Lib.hid (fun wx => IW.out (S.length : Int) 1 5 wx)
      cases h1 : inB (S.length : Int) 1 5
      · rw [h1] at W0
        have HP : Hid (pkOk S P = false) := by show _ = _; simp [pkOk, h1]
        clear h1
        go_wp2_with (go_at_call 71; refine (W0.out _).mono ?_; rintro e w1 ⟨rfl, rfl⟩)
        go_ret
        exact ⟨ret_bool (by rw [HP.out]), Below.refl _ _⟩
      · rw [h1] at W0
        by_cases h2 : (P.length : Int) = (S.length : Int)
        · have HP : Hid (pkOk S P = risesB 1 1000 S) := by show _ = _; simp [pkOk, h1, HR.out]; omega
          clear h1
          go_wp2_with (first | (go_at_call 71; refine (W0.out _).mono ?_; rintro e w1 ⟨rfl, rfl⟩) | (go_at_call 108; refine RS.out.mono ?_; rintro e w1 ⟨rfl, hb1⟩; have B1 := Lib.hid hb1; clear hb1))
          go_ret
          exact ⟨ret_bool (by rw [HP.out]), B1.out⟩
        · have HP : Hid (pkOk S P = false) := by show _ = _; simp [pkOk, h1]; omega
          clear h1
          go_wp2_with (go_at_call 71; refine (W0.out _).mono ?_; rintro e w1 ⟨rfl, rfl⟩)
          go_ret
          exact ⟨ret_bool (by rw [HP.out]), Below.refl _ _⟩
end Go.Proofs.Ytlglijalhacmhab
