/-
  The walk of the law on SplitWords.
-/
import Derived.Test.YtjheklkgilelkabSplitI
import Derived.Test.YtjheklkgilelkabMark2
namespace Go.Proofs.Ytjheklkgilelkab
open Go.ChangeShapes Go.WideShapes Go.ChangeAt Go.RowKit Go.Joins

theorem words_length (s : ByteArray) (hs : s.size ≤ 1048576) : (wordsOf s).length ≤ 1048577 := by
  unfold wordsOf
  rw [List.length_map]
  have h1 := List.length_filter_le (fun x : Nat × Nat => decide (x.1 < x.2)) (cutsC s 32 s.size 0 0)
  have h2 := cuts_length s 32 s.size 0 0
  omega

set_option maxHeartbeats 1600000 in
theorem walk_FnExactSplitWords (s : ByteArray) (_ws : s.size ≤ maxLen) (w : World) : Calls Try.prog 3 #[.string s] w fun e w' => e = .returned (.bool true) ∧ Below w.heap.size w w' := by
  by_cases hl : (1048576 : Int) < (s.size : Int)
  · go_enter Try.func3, Try.ntmps3
    go_wp2_with fail
    go_ret
    exact ⟨rfl, Below.refl _ _⟩
  · have hs : s.size ≤ 1048576 := by omega
    obtain ⟨L, hL, S, I⟩ : ∃ L : List ByteArray, L.length ≤ 1048577 ∧ Hid (∀ w, Calls Try.prog 4 #[.string s] w fun e w' => ∃ g cap, e = .returned (.slice (some ⟨g, 0, none⟩) L.length cap) ∧ PartsAt w L g cap w') ∧ Hid (∀ w, Calls Try.prog 5 #[.string s] w fun e w' => ∃ g cap, e = .returned (.slice (some ⟨g, 0, none⟩) L.length cap) ∧ PartsAt w L g cap w') :=
      ⟨wordsOf s, words_length s hs, fun w => words_spec s hs w, fun w => words_impl s hs w⟩
    obtain ⟨m, hm⟩ : ∃ m : Int, ((1 + L.length : Nat) : Int) = m := ⟨_, rfl⟩
    have hm0 : ¬ m < 0 := by omega
    have HM := Lib.hid hm
    clear hm hs
    go_enter Try.func3, Try.ntmps3
    go_wp2_with fail
    refine (S.out _).mono ?_
    rintro e w1 ⟨g, cap, rfl, P1⟩
    have P1 := Lib.hid P1
    go_wp2_with fail
    refine (I.out _).mono ?_
    rintro e w2 ⟨g', cap', rfl, P2⟩
    have P2 := Lib.hid P2
    have R12 : Hid (RowAt w.heap.size L g cap w2) := row_below P1.out.1 P2.out.2.1
    go_wp2_with fail
    refine (eq_parts L hL g' cap' g cap _ (fun k x hx => (row_facts P2.out.1 hx).1) (fun k x hx => (row_facts R12.out hx).1)).mono ?_
    rintro e w3 ⟨rfl, hb3⟩
    have B3 := Lib.hid hb3
    clear hb3
    have B13 : Hid (Below w1.heap.size w1 w3) := bnext P2.out.2.1 B3.out
    have R23 : Hid (RowAt w1.heap.size L g' cap' w3) := row_below P2.out.1 B3.out
    go_wp2_with fail
    refine (mark_parts L hL 1 (by omega) (by omega) w1.heap.size g' cap' _ B13.out.size R23.out).mono ?_
    rintro e w4 ⟨rfl, hb4, cs, hcs, hmk, hr4⟩
    have B14 : Hid (Below w1.heap.size w1 w4) := B13.out.trans hb4
    have R4 := Lib.hid hr4
    have R14 : Hid (RowAt w.heap.size L g cap w4) := row_below P1.out.1 B14.out
    have HD : Hid (∀ w, RowAt w1.heap.size cs g' cap' w → Calls Try.prog 8 #[.slice (some ⟨g', 0, none⟩) L.length cap', .int .i64 1] w fun e w' => e = .returned (.int .i64 m) ∧ Below w.heap.size w w') := by
      intro w hr
      have h := held_parts cs (by omega) 1 (by omega) (by omega) (fun j hj => hmk j (by omega)) w1.heap.size g' cap' w hr
      rw [hcs, HM.out] at h
      exact h
    rw [HM.out]
    clear hb4 hmk hr4 hcs
    go_wp2_with fail
    refine (HD.out _ R4.out).mono ?_
    rintro e w5 ⟨rfl, hb5⟩
    have B5 := Lib.hid hb5
    clear hb5
    go_wp2_with fail
    refine (I.out _).mono ?_
    rintro e w6 ⟨g6, cap6, rfl, P6⟩
    have P6 := Lib.hid P6
    have B46 : Hid (Below w4.heap.size w4 w6) := bnext B5.out P6.out.2.1
    have R16 : Hid (RowAt w.heap.size L g cap w6) := row_below R14.out B46.out
    have R46 : Hid (RowAt w1.heap.size cs g' cap' w6) := row_below R4.out B46.out
    go_wp2_with fail
    refine (eq_parts L hL g6 cap6 g cap _ (fun k x hx => (row_facts P6.out.1 hx).1) (fun k x hx => (row_facts R16.out hx).1)).mono ?_
    rintro e w7 ⟨rfl, hb7⟩
    have B7 := Lib.hid hb7
    clear hb7
    go_wp2_with fail
    refine (HD.out _ (row_below R46.out B7.out)).mono ?_
    rintro e w8 ⟨rfl, hb8⟩
    have BB : Hid (Below w.heap.size w w8) := bnext (bnext (bnext (bnext P1.out.2.1 B14.out) B46.out) B7.out) hb8
    clear hb8
    go_wp2
    go_ret
    exact ⟨rfl, BB.out⟩
end Go.Proofs.Ytjheklkgilelkab
