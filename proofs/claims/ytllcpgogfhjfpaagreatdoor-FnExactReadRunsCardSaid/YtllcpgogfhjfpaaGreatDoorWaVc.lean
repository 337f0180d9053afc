/-
  Courses of walls: the model's word.
-/
import Derived.Test.YtllcpgogfhjfpaaGreatDoorWa
import Derived.Test.YtllcpgogfhjfpaaGreatDoorPerpI
import Derived.Test.YtllcpgogfhjfpaaGreatDoorWaI
import Derived.Test.YtllcpgogfhjfpaaGreatDoorCoI
namespace Go.Proofs.YtllcpgogfhjfpaaGreatDoor
open Go.ChangeShapes Go.WideShapes Go.ChangeAt Go.RowKit Go.Joins


set_option maxHeartbeats 1600000 in
theorem clen_spec (s : ByteArray) (hs : s.size ≤ 1048576) (w : World) : Calls Tryz.prog 17 #[.string s] w fun e w' => e = .returned (.int .i64 (qall s : Int)) ∧ w = w' := by
  go_enter Tryz.func17, Tryz.ntmps17
  go_wp2
  go_loop [3, 4] (fun t i => ∃ k E : Nat, k ≤ s.size ∧ t = .int .i64 (E : Int) ∧ i = .int .i64 k ∧ Hid (qto s k = E)) (fun _ i => s.size - (intOf i).toNat)
  case atStart => exact ⟨0, 0, Nat.zero_le _, rfl, rfl, qto_zero s⟩
  case round =>
    obtain ⟨k, E, hk, rfl, rfl, hE⟩ := hrel
    have hle : E ≤ 4 * k := by rw [← hE.out]; exact qto_le s k
    by_cases hlt : k < s.size
    · have hlt' : (k : Int) < (s.size : Int) := by omega
      have hk0 : (0 : Int) ≤ (k : Int) := by omega
      have HS : Hid (qto s (k + 1) = E + qtr (s[k]'hlt)) := by show _ = _; rw [qto_succ hlt, hE.out]
      have C := Lib.hid (quarters_spec ((s[k]'hlt).toNat : Int))
      rw [← qtr_eq] at C
      have hq := qtr_le (s[k]'hlt)
      obtain ⟨q, hqe⟩ : ∃ q, qtr (s[k]'hlt) = q := ⟨_, rfl⟩
      rw [hqe] at HS hq C
      clear hqe
      go_wp2_with (go_at_call 26; refine (C.out _).mono ?_; rintro e w' ⟨rfl, rfl⟩)
      go_round
      case rel => exact ⟨k + 1, E + q, by omega, by first | rfl | simp | go_num, by go_num, HS.out⟩
      case measure => simp [intOf]; omega
    · have hge : ¬ (k : Int) < (s.size : Int) := by omega
      have HS : Hid (qall s = E) := by show _ = _; rw [← hE.out, qto_all (by omega)]
      go_wp2
      go_ret
      exact ⟨by rw [HS.out]; rfl, rfl⟩

set_option maxHeartbeats 1600000 in
theorem cok_spec (s : ByteArray) (hs : s.size ≤ 1048576) (w : World) : Calls Tryz.prog 9 #[.string s] w fun e w' => e = .returned (.bool (okCr s)) ∧ w = w' := by
  have P := Lib.hid (pieces_spec s hs)
  have Q := Lib.hid (clen_spec s hs)
  by_cases h2 : (qall s : Int) ≤ 200 <;> cases h0 : inB (s.size : Int) 1 60 <;> cases h1 : piecesB s
  all_goals
    have HO : Hid (okCr s = (inB (s.size : Int) 1 60 && (piecesB s && decide ((qall s : Int) ≤ 200)))) := rfl
    rw [h1] at P HO
    rw [h0] at HO
    first | rw [decide_eq_true h2] at HO | rw [decide_eq_false h2] at HO
    obtain ⟨q, hq⟩ : ∃ q : Int, (qall s : Int) = q := ⟨_, rfl⟩
    rw [hq] at Q h2
    clear hq
    rw [HO.out]
    go_enter Tryz.func9, Tryz.ntmps9
    go_wp2_with (first | (go_at_call 16; refine (P.out _).mono ?_; rintro e w' ⟨rfl, rfl⟩) | (go_at_call 17; refine (Q.out _).mono ?_; rintro e w' ⟨rfl, rfl⟩) | (go_at_call 8; refine (in_any _ _ _ _).mono ?_; rintro e w' ⟨rfl, rfl⟩))
    go_ret
    exact ⟨ret_bool (by simp; try omega), rfl⟩
/-- The code of a course, and its length. -/
def cC (s : ByteArray) : Int := if okCr s = true then 0 else 1
def cN (s : ByteArray) : Int := if okCr s = true then (qall s : Int) else 0
end Go.Proofs.YtllcpgogfhjfpaaGreatDoor
/-
  ValidCourse and CourseLength by the program.
-/
namespace Go.Proofs.YtllcpgogfhjfpaaGreatDoor
open Go.ChangeShapes Go.WideShapes Go.ChangeAt Go.RowKit Go.Joins


theorem pieces_impl6 (s : ByteArray) (hs : s.size ≤ 1048576) (w : World) : Calls Tryz.prog 38 #[.string s, .string ⟨#[83, 72, 84, 66, 67]⟩] w fun e w' => e = .returned (.bool (piecesB s)) ∧ Below w.heap.size w w' := by
  rw [pieces_trim]
  exact consists_impl s ⟨#[83, 72, 84, 66, 67]⟩ hs (by decide) (by decide) w
set_option maxRecDepth 100000 in
set_option maxHeartbeats 1600000 in
theorem validCourse_impl (s : ByteArray) (hs : s.size ≤ 1048576) (w : World) : Calls Tryz.prog 22 #[.string s] w fun e w' => e = .returned (.bool (okCr s)) ∧ Below w.heap.size w w' := by
  have P := Lib.hid (pieces_impl6 s hs)
  have HO : Hid (okCr s = (inB (s.size : Int) 1 60 && (piecesB s && decide ((qall s : Int) ≤ 200)))) := rfl
  have W0 := Lib.hid (wa_impl (s.size : Int) 1 60)
  cases h0 : inB (s.size : Int) 1 60
  · rw [h0] at HO W0
    clear h0
    go_enter Tryz.func22, Tryz.ntmps22
    go_wp2_with (go_at_call 20; refine (W0.out _).mono ?_; rintro e w1 ⟨rfl, rfl⟩)
    go_ret
    exact ⟨ret_bool (by rw [HO.out]; rfl), Below.refl _ _⟩
  · have Q := Lib.hid (len_impl s (by have := inB_true.1 h0; omega))
    rw [h0] at HO W0
    clear h0
    cases h1 : piecesB s
    · rw [h1] at HO P
      go_enter Tryz.func22, Tryz.ntmps22
      go_wp2_with (first | (go_at_call 20; refine (W0.out _).mono ?_; rintro e w1 ⟨rfl, rfl⟩) | (go_at_call 38; refine (P.out _).mono ?_; rintro e w2 ⟨rfl, hb2⟩; have B2 := Lib.hid hb2; clear hb2))
      go_ret
      exact ⟨ret_bool (by rw [HO.out]; rfl), B2.out⟩
    · rw [h1] at HO P
      obtain ⟨q, hq⟩ : ∃ q : Int, (qall s : Int) = q := ⟨_, rfl⟩
      rw [hq] at Q HO
      clear hq
      go_enter Tryz.func22, Tryz.ntmps22
      go_wp2_with (first | (go_at_call 20; refine (W0.out _).mono ?_; rintro e w1 ⟨rfl, rfl⟩) | (go_at_call 38; refine (P.out _).mono ?_; rintro e w2 ⟨rfl, hb2⟩; have B2 := Lib.hid hb2; clear hb2) | (go_at_call 39; refine (Q.out _).mono ?_; rintro e w3 ⟨rfl, hb3⟩; have B3 := Lib.hid (bnext B2.out hb3); clear hb3))
      go_ret
      exact ⟨ret_bool (by rw [HO.out]; simp), B3.out⟩
end Go.Proofs.YtllcpgogfhjfpaaGreatDoor
