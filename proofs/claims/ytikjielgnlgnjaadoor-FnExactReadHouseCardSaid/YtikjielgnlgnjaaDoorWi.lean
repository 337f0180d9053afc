/-
  Rows of numbers within bounds, plainly. Nothing of the dump.
-/
import Derived.Test.YtikjielgnlgnjaaDoorDecI
import Derived.Test.YtikjielgnlgnjaaDoorInts
namespace Go.Proofs.YtikjielgnlgnjaaDoor
open Go.ChangeShapes Go.WideShapes Go.ChangeAt Go.RowKit Go.Joins

/-- All numbers of a row are low to high. -/
def allB (P : List Int) (lo hi : Int) : Bool := P.all fun z => inB z lo hi
theorem allB_true {P : List Int} {lo hi : Int} : allB P lo hi = true ↔ ∀ (k : Nat) (z : Int), P[k]? = some z → inB z lo hi = true := by
  unfold allB
  rw [List.all_eq_true]
  constructor
  · intro h k z hz; exact h z (List.mem_of_getElem? hz)
  · intro h z hz
    obtain ⟨j, hj, he⟩ := List.mem_iff_getElem.1 hz
    exact h j z (by rw [List.getElem?_eq_getElem hj, he])
theorem allB_no {P : List Int} {lo hi : Int} {k : Nat} {z : Int} (hz : P[k]? = some z) (h : inB z lo hi = false) : allB P lo hi = false := by
  cases e : allB P lo hi
  · rfl
  · have := allB_true.1 e k z hz; rw [h] at this; cases this
theorem allB_getD {P : List Int} {lo hi : Int} (h : allB P lo hi = true) {k : Nat} (hk : k < P.length) : lo ≤ P.getD k 0 ∧ P.getD k 0 ≤ hi := by
  have := allB_true.1 h k _ (List.getElem?_eq_getElem hk)
  rw [List.getD_eq_getElem?_getD, List.getElem?_eq_getElem hk]
  exact inB_true.1 this
theorem getD_of {P : List Int} {k : Nat} {z : Int} (h : P[k]? = some z) : P.getD k 0 = z := by rw [List.getD_eq_getElem?_getD, h]; rfl
theorem some_getD {P : List Int} {k : Nat} (h : k < P.length) : P[k]? = some (P.getD k 0) := by
  rw [List.getD_eq_getElem?_getD, List.getElem?_eq_getElem h]; rfl
end Go.Proofs.YtikjielgnlgnjaaDoor
/-
  The program's test that all numbers of a row are within bounds.
-/
namespace Go.Proofs.YtikjielgnlgnjaaDoor
open Go.ChangeShapes Go.WideShapes Go.ChangeAt Go.RowKit Go.Joins

set_option maxHeartbeats 1600000 in
theorem allin_impl (P : List Int) (lo hi : Int) (a : Option Addr) (cap : Nat) (hl : P.length ≤ 1048576) (w : World) (ha : IntArg w a P) :
    Calls Tryd.prog 83 #[.slice a P.length cap, .int .i64 lo, .int .i64 hi] w fun e w' => e = .returned (.bool (allB P lo hi)) ∧ w = w' := by
  have HA := Lib.hid ha
  clear ha
  have IW := Lib.hid (fun z => within_impl z lo hi)
  go_enter Tryd.func83, Tryd.ntmps83
  go_wp2
  go_loop [11] (fun i => ∃ k : Nat, k ≤ P.length ∧ i = .int .i64 (k : Int) ∧ Hid (∀ (j : Nat) (z : Int), j < k → P[j]? = some z → inB z lo hi = true)) (fun i => P.length - (intOf i).toNat)
  case atStart => exact ⟨0, Nat.zero_le _, rfl, fun j z h => by omega⟩
  case round =>
    obtain ⟨k, hk, rfl, hM⟩ := hrel
    by_cases hlt : k < P.length
    · have hlt' : (k : Int) < (P.length : Int) := by omega
      have hk0 : (0 : Int) ≤ (k : Int) := by omega
      obtain ⟨b, o, z, rfl, hz, hat⟩ := HA.out.at hlt
      have c0 := hat k z hz
      have HZ := Lib.hid hz
      have W0 := Lib.hid (IW.out z)
      clear hat hz
      cases hin : inB z lo hi
      · have HR : Hid (allB P lo hi = false) := allB_no HZ.out hin
        rw [hin] at W0
        go_wp2_with (go_at_call 82; refine (W0.out _).mono ?_; rintro e w1 ⟨rfl, rfl⟩)
        go_ret
        exact ⟨ret_bool (by rw [HR.out]), rfl⟩
      · rw [hin] at W0
        have HI := Lib.hid hin
        clear hin
        go_wp2_with (go_at_call 82; refine (W0.out _).mono ?_; rintro e w1 ⟨rfl, rfl⟩)
        go_round
        case rel =>
          refine ⟨k + 1, by omega, by go_num, fun j y hj hy => ?_⟩
          by_cases e : j = k
          · subst e
            rw [HZ.out] at hy
            cases hy
            exact HI.out
          · exact hM.out j y (by omega) hy
        case measure => simp [intOf]; omega
    · have hge : ¬ (k : Int) < (P.length : Int) := by omega
      have HR : Hid (allB P lo hi = true) := allB_true.2 fun j z hz => hM.out j z (by have := (List.getElem?_eq_some_iff.1 hz).1; omega) hz
      go_wp2
      go_ret
      exact ⟨ret_bool (by rw [HR.out]), rfl⟩
end Go.Proofs.YtikjielgnlgnjaaDoor
