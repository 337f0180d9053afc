/-
  Plans as plain data: how long one goes around, which side runs through, how long a side is in a course. Nothing of the dump.
-/
import Derived.Test.YtllcpgogfhjfpaaDoorHo
import Derived.Test.YtllcpgogfhjfpaaDoorHoT
import Derived.Deep.RegionWith
import Derived.Test.YtllcpgogfhjfpaaDoorHoI
namespace Go.Proofs.YtllcpgogfhjfpaaDoor
open Go.ChangeShapes Go.WideShapes Go.ChangeAt Go.RowKit Go.Joins

/-- The first sides together. -/
def sumT (P : List Int) (k : Nat) : Int := (P.take k).sum
theorem sumT_zero (P : List Int) : sumT P 0 = 0 := by simp [sumT]
theorem sumT_succ {P : List Int} {k : Nat} {z : Int} (h : P[k]? = some z) : sumT P (k + 1) = sumT P k + z := by
  unfold sumT
  rw [List.take_add_one, h]
  simp
theorem sumT_all {P : List Int} {k : Nat} (h : P.length ≤ k) : sumT P k = P.sum := by
  unfold sumT
  rw [List.take_of_length_le h]
theorem sumT_le {P : List Int} (h : runsB P = true) : ∀ k, k ≤ P.length → 0 ≤ sumT P k ∧ sumT P k ≤ 200 * (k : Int)
  | 0, _ => by rw [sumT_zero]; omega
  | k + 1, hk => by
    obtain ⟨h1, h2⟩ := sumT_le h k (by omega)
    have hz : P[k]? = some (P[k]'(by omega)) := List.getElem?_eq_getElem _
    have := runsB_at h hz
    rw [sumT_succ hz]
    omega
def rhV (P : List Int) (T : ByteArray) : Int := if okHo P T = true then P.sum else 0
theorem rh_bad {P : List Int} {T : ByteArray} (h : okHo P T = false) : rhV P T = 0 ∧ hoC P T = 1 := by simp [rhV, hoC, h]
theorem rh_good {P : List Int} {T : ByteArray} (h : okHo P T = true) : rhV P T = P.sum ∧ hoC P T = 0 := by simp [rhV, hoC, h]
/-- The side before a corner runs through. -/
def thruB (k c : Int) : Bool := decide ((k + c).tmod 2 = 0)
/-- How long a side is in a course. -/
def sideV (P : List Int) (k c : Int) : Int := P.getD k.toNat 0 - (if thruB ((k + (P.length : Int) - 1).tmod (P.length : Int)) c = true then 2 else 0) - (if thruB k c = true then 0 else 2)
theorem hoK_cases (P : List Int) (T : ByteArray) (k c : Int) : (okHo P T = false ∧ hoK P T k c = 1) ∨ (okHo P T = true ∧ ¬ (0 ≤ k ∧ k ≤ (P.length : Int) - 1) ∧ hoK P T k c = 2) ∨ (okHo P T = true ∧ (0 ≤ k ∧ k ≤ (P.length : Int) - 1) ∧ ¬ (0 ≤ c ∧ c ≤ 1000) ∧ hoK P T k c = 2) ∨ (okHo P T = true ∧ (0 ≤ k ∧ k ≤ (P.length : Int) - 1) ∧ (0 ≤ c ∧ c ≤ 1000) ∧ hoK P T k c = 0) := by
  unfold hoK
  by_cases h : okHo P T = true
  · rw [if_pos h]
    by_cases h1 : inB k 0 ((P.length : Int) - 1) = true
    · rw [if_pos h1]
      by_cases h2 : inB c 0 1000 = true
      · rw [if_pos h2]
        exact .inr (.inr (.inr ⟨h, inB_true.1 h1, inB_true.1 h2, rfl⟩))
      · rw [if_neg h2]
        exact .inr (.inr (.inl ⟨h, inB_true.1 h1, fun e => h2 (inB_true.2 e), rfl⟩))
    · rw [if_neg h1]
      exact .inr (.inl ⟨h, fun e => h1 (inB_true.2 e), rfl⟩)
  · rw [if_neg h]
    exact .inl ⟨by simpa using h, rfl⟩
theorem hoK_zero {P : List Int} {T : ByteArray} {k c : Int} (h : hoK P T k c = 0) : okHo P T = true ∧ (0 ≤ k ∧ k ≤ (P.length : Int) - 1) ∧ (0 ≤ c ∧ c ≤ 1000) := by
  rcases hoK_cases P T k c with ⟨_, h1⟩ | ⟨_, _, h1⟩ | ⟨_, _, _, h1⟩ | ⟨h1, h2, h3, _⟩
  · omega
  · omega
  · omega
  · exact ⟨h1, h2, h3⟩
theorem okHo_size {P : List Int} {T : ByteArray} (h : okHo P T = true) : 4 ≤ P.length ∧ P.length ≤ 12 ∧ T.size = P.length ∧ runsB P = true := by
  obtain ⟨⟨h1, h2⟩, h3, h4, _⟩ := okHo_true.1 h
  exact ⟨h1, h2, h3, h4⟩
theorem okHo_walk {P : List Int} {T : ByteArray} (h : okHo P T = true) : lrB T = true := (okHo_true.1 h).2.2.2.1
/-- Answers: which side runs through; how long a side is; how long all are. -/
def rtV (P : List Int) (T : ByteArray) (k c : Int) : Bool := if hoK P T k c = 0 then thruB k c else false
def siV (P : List Int) (T : ByteArray) (k c : Int) : Int := if hoK P T k c = 0 then sideV P k c else 0
def qlV (P : List Int) (T : ByteArray) (k : Int) (b : Bool) : Int := if hoK P T k 0 = 0 then (if b = true then 1 else 2) else 0
def cour (P : List Int) (c : Int) (m : Nat) : List Int := (List.range m).map fun (k : Nat) => sideV P (k : Int) c
theorem cour_length (P : List Int) (c : Int) (m : Nat) : (cour P c m).length = m := by simp [cour]
theorem cour_succ (P : List Int) (c : Int) (m : Nat) : cour P c (m + 1) = cour P c m ++ [sideV P (m : Int) c] := by simp [cour, List.range_succ]
def caV (P : List Int) (T : ByteArray) (c : Int) : List Int := if hoK P T 0 c = 0 then cour P c P.length else []
theorem caV_length (P : List Int) (T : ByteArray) (c : Int) : (caV P T c).length ≤ 12 := by
  unfold caV
  split
  · rename_i h
    obtain ⟨h1, _, _⟩ := hoK_zero h
    have := okHo_size h1
    rw [cour_length]
    omega
  · simp
end Go.Proofs.YtllcpgogfhjfpaaDoor
/-
  Plans by the model: lengths around, sides that run through, sides in courses.
-/
namespace Go.Proofs.YtllcpgogfhjfpaaDoor
open Go.ChangeShapes Go.WideShapes Go.ChangeAt Go.RowKit Go.Joins

end Go.Proofs.YtllcpgogfhjfpaaDoor
/-
  Plans by the program: their codes, lengths around, sides that run through, sides in courses.
-/
namespace Go.Proofs.YtllcpgogfhjfpaaDoor
open Go.ChangeShapes Go.WideShapes Go.ChangeAt Go.RowKit Go.Joins


set_option maxHeartbeats 1600000 in
theorem checkHouse_impl (P : List Int) (T : ByteArray) (a : Option Addr) (cap : Nat) (hl : P.length ≤ 1048576) (hs : T.size ≤ 1048576) (k c : Int) (w : World) (ha : IntArg w a P) (hd : DirAt w) :
    Calls Tryd.prog 51 #[.agg #[.slice a P.length cap, .string T], .int .i64 k, .int .i64 c] w fun e w' => e = .returned (.int .i64 (hoK P T k c)) ∧ Below w.heap.size w w' := by
  have K := house_new w (.slice a P.length cap) T 36
  obtain ⟨W0, hW⟩ : ∃ W0, w.alloc (.cells #[.slice a P.length cap, .string T] 36) = W0 := ⟨_, rfl⟩
  have E0 : Hid (Below w.heap.size w W0) := by show Below w.heap.size w W0; rw [← hW]; exact balloc0 _ _
  rw [hW] at K
  have C := Lib.hid (validHouse_impl P T a cap hl hs W0 (ha.later E0.out) (hd.later E0.out))
  have HW := Lib.hid hW
  have IK := Lib.hid (wa_impl k 0 ((P.length : Int) - 1))
  have IC := Lib.hid (wa_impl c 0 1000)
  obtain ⟨d0, d1⟩ := K.out _ (Below.refl _ _)
  clear hW ha hd
  rcases hoK_cases P T k c with ⟨h1, h4⟩ | ⟨h1, h2, h4⟩ | ⟨h1, h2, h3, h4⟩ | ⟨h1, h2, h3, h4⟩
  · rw [h4]
    rw [h1] at C
    clear h1 h4
    go_enter Tryd.func51, Tryd.ntmps51
    go_wp2_with fail
    rw [HW.out]
    go_wp2_with fail
    refine C.out.mono ?_
    rintro e w1 ⟨rfl, hb1⟩
    have B1 := Lib.hid (bnext E0.out hb1)
    clear hb1
    go_wp2
    go_ret
    exact ⟨rfl, B1.out⟩
  · rw [h4]
    rw [h1] at C
    rw [inB_false.2 h2] at IK
    clear h1 h4 h2
    go_enter Tryd.func51, Tryd.ntmps51
    go_wp2_with fail
    rw [HW.out]
    go_wp2_with fail
    refine C.out.mono ?_
    rintro e w1 ⟨rfl, hb1⟩
    have B1 := Lib.hid (bnext E0.out hb1)
    clear d0 d1
    obtain ⟨d0, d1⟩ := K.out _ hb1
    clear hb1
    go_wp2_with (go_at_call 37; refine (IK.out _).mono ?_; rintro e w2 ⟨rfl, rfl⟩)
    go_ret
    exact ⟨rfl, B1.out⟩
  · rw [h4]
    rw [h1] at C
    rw [inB_true.2 h2] at IK
    rw [inB_false.2 h3] at IC
    clear h1 h4 h2 h3
    go_enter Tryd.func51, Tryd.ntmps51
    go_wp2_with fail
    rw [HW.out]
    go_wp2_with fail
    refine C.out.mono ?_
    rintro e w1 ⟨rfl, hb1⟩
    have B1 := Lib.hid (bnext E0.out hb1)
    clear d0 d1
    obtain ⟨d0, d1⟩ := K.out _ hb1
    clear hb1
    go_wp2_with fail
    refine (IK.out _).mono ?_
    rintro e w2 ⟨rfl, rfl⟩
    go_wp2_with fail
    refine (IC.out _).mono ?_
    rintro e w3 ⟨rfl, rfl⟩
    go_wp2
    go_ret
    exact ⟨rfl, B1.out⟩
  · rw [h4]
    rw [h1] at C
    rw [inB_true.2 h2] at IK
    rw [inB_true.2 h3] at IC
    clear h1 h4 h2 h3
    go_enter Tryd.func51, Tryd.ntmps51
    go_wp2_with fail
    rw [HW.out]
    go_wp2_with fail
    refine C.out.mono ?_
    rintro e w1 ⟨rfl, hb1⟩
    have B1 := Lib.hid (bnext E0.out hb1)
    clear d0 d1
    obtain ⟨d0, d1⟩ := K.out _ hb1
    clear hb1
    go_wp2_with fail
    refine (IK.out _).mono ?_
    rintro e w2 ⟨rfl, rfl⟩
    go_wp2_with fail
    refine (IC.out _).mono ?_
    rintro e w3 ⟨rfl, rfl⟩
    go_wp2
    go_ret
    exact ⟨rfl, B1.out⟩
end Go.Proofs.YtllcpgogfhjfpaaDoor
