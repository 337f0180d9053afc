/-
  The program's test that all numbers of a row are within bounds.
-/
import Derived.Test.YtikjielgnlgnjaaDoorAll
import Derived.Test.YtikjielgnlgnjaaDoorInts
import Derived.Test.YtikjielgnlgnjaaDoorIn
namespace Go.Proofs.YtikjielgnlgnjaaDoor
open Go.ChangeShapes Go.WideShapes Go.ChangeAt Go.RowKit Go.Joins

set_option maxHeartbeats 1600000 in
theorem allin_impl (P : List Int) (lo hi : Int) (a : Option Addr) (cap : Nat) (hl : P.length ≤ 1048576) (w : World) (ha : IntArg w a P) :
    Calls Tryd.prog 83 #[.slice a P.length cap, .int .i64 lo, .int .i64 hi] w fun e w' => e = .returned (.bool (allB P lo hi)) ∧ w = w' := by
  have HA := Lib.hid ha
  clear ha
  have IW := Lib.hid (fun z => within_impl z lo hi)
  go_enter Tryd.func83, Tryd.ntmps83
  go_wp2
  go_loop [11] (fun i => ∃ k : Nat, k ≤ P.length ∧ i = .int .i64 (k : Int) ∧ Hid (∀ (j : Nat) (z : Int), j < k → P[j]? = some z → inB z lo hi = true)) (fun i => P.length - (intOf i).toNat)
  case atStart => exact ⟨0, Nat.zero_le _, rfl, fun j z h => by omega⟩
  case round =>
    obtain ⟨k, hk, rfl, hM⟩ := hrel
    by_cases hlt : k < P.length
    · have hlt' : (k : Int) < (P.length : Int) := by omega
      have hk0 : (0 : Int) ≤ (k : Int) := by omega
      obtain ⟨b, o, z, rfl, hz, hat⟩ := HA.out.at hlt
      have c0 := hat k z hz
      have HZ := Lib.hid hz
      have W0 := Lib.hid (IW.out z)
      clear hat hz
      cases hin : inB z lo hi
      · have HR : Hid (allB P lo hi = false) := allB_no HZ.out hin
        rw [hin] at W0
        go_wp2_with (go_at_call 82; refine (W0.out _).mono ?_; rintro e w1 ⟨rfl, rfl⟩)
        go_ret
        exact ⟨ret_bool (by rw [HR.out]), rfl⟩
      · rw [hin] at W0
        have HI := Lib.hid hin
        clear hin
        go_wp2_with (go_at_call 82; refine (W0.out _).mono ?_; rintro e w1 ⟨rfl, rfl⟩)
        go_round
        case rel =>
          refine ⟨k + 1, by omega, by go_num, fun j y hj hy => ?_⟩
          by_cases e : j = k
          · subst e
            rw [HZ.out] at hy
            cases hy
            exact HI.out
          · exact hM.out j y (by omega) hy
        case measure => simp [intOf]; omega
    · have hge : ¬ (k : Int) < (P.length : Int) := by omega
      have HR : Hid (allB P lo hi = true) := allB_true.2 fun j z hz => hM.out j z (by have := (List.getElem?_eq_some_iff.1 hz).1; omega) hz
      go_wp2
      go_ret
      exact ⟨ret_bool (by rw [HR.out]), rfl⟩
end Go.Proofs.YtikjielgnlgnjaaDoor
