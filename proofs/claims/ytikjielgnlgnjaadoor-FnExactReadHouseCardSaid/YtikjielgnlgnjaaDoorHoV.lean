/-
  Plans as plain data: how long one goes around, which side runs through, how long a side is in a course. Nothing of the dump.
-/
import Derived.Test.YtikjielgnlgnjaaDoorHo
namespace Go.Proofs.YtikjielgnlgnjaaDoor
open Go.ChangeShapes Go.WideShapes Go.ChangeAt Go.RowKit Go.Joins

/-- The first sides together. -/
def sumT (P : List Int) (k : Nat) : Int := (P.take k).sum
theorem sumT_zero (P : List Int) : sumT P 0 = 0 := by simp [sumT]
theorem sumT_succ {P : List Int} {k : Nat} {z : Int} (h : P[k]? = some z) : sumT P (k + 1) = sumT P k + z := by
  unfold sumT
  rw [List.take_add_one, h]
  simp
theorem sumT_all {P : List Int} {k : Nat} (h : P.length ≤ k) : sumT P k = P.sum := by
  unfold sumT
  rw [List.take_of_length_le h]
theorem sumT_le {P : List Int} (h : runsB P = true) : ∀ k, k ≤ P.length → 0 ≤ sumT P k ∧ sumT P k ≤ 200 * (k : Int)
  | 0, _ => by rw [sumT_zero]; omega
  | k + 1, hk => by
    obtain ⟨h1, h2⟩ := sumT_le h k (by omega)
    have hz : P[k]? = some (P[k]'(by omega)) := List.getElem?_eq_getElem _
    have := runsB_at h hz
    rw [sumT_succ hz]
    omega
def rhV (P : List Int) (T : ByteArray) : Int := if okHo P T = true then P.sum else 0
theorem rh_bad {P : List Int} {T : ByteArray} (h : okHo P T = false) : rhV P T = 0 ∧ hoC P T = 1 := by simp [rhV, hoC, h]
theorem rh_good {P : List Int} {T : ByteArray} (h : okHo P T = true) : rhV P T = P.sum ∧ hoC P T = 0 := by simp [rhV, hoC, h]
/-- The side before a corner runs through. -/
def thruB (k c : Int) : Bool := decide ((k + c).tmod 2 = 0)
/-- How long a side is in a course. -/
def sideV (P : List Int) (k c : Int) : Int := P.getD k.toNat 0 - (if thruB ((k + (P.length : Int) - 1).tmod (P.length : Int)) c = true then 2 else 0) - (if thruB k c = true then 0 else 2)
theorem hoK_cases (P : List Int) (T : ByteArray) (k c : Int) : (okHo P T = false ∧ hoK P T k c = 1) ∨ (okHo P T = true ∧ ¬ (0 ≤ k ∧ k ≤ (P.length : Int) - 1) ∧ hoK P T k c = 2) ∨ (okHo P T = true ∧ (0 ≤ k ∧ k ≤ (P.length : Int) - 1) ∧ ¬ (0 ≤ c ∧ c ≤ 1000) ∧ hoK P T k c = 2) ∨ (okHo P T = true ∧ (0 ≤ k ∧ k ≤ (P.length : Int) - 1) ∧ (0 ≤ c ∧ c ≤ 1000) ∧ hoK P T k c = 0) := by
  unfold hoK
  by_cases h : okHo P T = true
  · rw [if_pos h]
    by_cases h1 : inB k 0 ((P.length : Int) - 1) = true
    · rw [if_pos h1]
      by_cases h2 : inB c 0 1000 = true
      · rw [if_pos h2]
        exact .inr (.inr (.inr ⟨h, inB_true.1 h1, inB_true.1 h2, rfl⟩))
      · rw [if_neg h2]
        exact .inr (.inr (.inl ⟨h, inB_true.1 h1, fun e => h2 (inB_true.2 e), rfl⟩))
    · rw [if_neg h1]
      exact .inr (.inl ⟨h, fun e => h1 (inB_true.2 e), rfl⟩)
  · rw [if_neg h]
    exact .inl ⟨by simpa using h, rfl⟩
theorem hoK_zero {P : List Int} {T : ByteArray} {k c : Int} (h : hoK P T k c = 0) : okHo P T = true ∧ (0 ≤ k ∧ k ≤ (P.length : Int) - 1) ∧ (0 ≤ c ∧ c ≤ 1000) := by
  rcases hoK_cases P T k c with ⟨_, h1⟩ | ⟨_, _, h1⟩ | ⟨_, _, _, h1⟩ | ⟨h1, h2, h3, _⟩
  · omega
  · omega
  · omega
  · exact ⟨h1, h2, h3⟩
theorem okHo_size {P : List Int} {T : ByteArray} (h : okHo P T = true) : 4 ≤ P.length ∧ P.length ≤ 12 ∧ T.size = P.length ∧ runsB P = true := by
  obtain ⟨⟨h1, h2⟩, h3, h4, _⟩ := okHo_true.1 h
  exact ⟨h1, h2, h3, h4⟩
theorem okHo_walk {P : List Int} {T : ByteArray} (h : okHo P T = true) : lrB T = true := (okHo_true.1 h).2.2.2.1
/-- Answers: which side runs through; how long a side is; how long all are. -/
def rtV (P : List Int) (T : ByteArray) (k c : Int) : Bool := if hoK P T k c = 0 then thruB k c else false
def siV (P : List Int) (T : ByteArray) (k c : Int) : Int := if hoK P T k c = 0 then sideV P k c else 0
def qlV (P : List Int) (T : ByteArray) (k : Int) (b : Bool) : Int := if hoK P T k 0 = 0 then (if b = true then 1 else 2) else 0
def cour (P : List Int) (c : Int) (m : Nat) : List Int := (List.range m).map fun (k : Nat) => sideV P (k : Int) c
theorem cour_length (P : List Int) (c : Int) (m : Nat) : (cour P c m).length = m := by simp [cour]
theorem cour_succ (P : List Int) (c : Int) (m : Nat) : cour P c (m + 1) = cour P c m ++ [sideV P (m : Int) c] := by simp [cour, List.range_succ]
def caV (P : List Int) (T : ByteArray) (c : Int) : List Int := if hoK P T 0 c = 0 then cour P c P.length else []
theorem caV_length (P : List Int) (T : ByteArray) (c : Int) : (caV P T c).length ≤ 12 := by
  unfold caV
  split
  · rename_i h
    obtain ⟨h1, _, _⟩ := hoK_zero h
    have := okHo_size h1
    rw [cour_length]
    omega
  · simp
end Go.Proofs.YtikjielgnlgnjaaDoor
