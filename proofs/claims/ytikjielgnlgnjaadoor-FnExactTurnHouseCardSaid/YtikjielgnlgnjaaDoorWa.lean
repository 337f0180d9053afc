/-
  Courses of walls as plain data: how long they are, where their perpends are. Nothing of the dump.
-/
import Derived.Test.YtikjielgnlgnjaaDoorPerp
namespace Go.Proofs.YtikjielgnlgnjaaDoor
open Go.ChangeShapes Go.WideShapes Go.ChangeAt Go.RowKit Go.Joins

/-- The quarters of pieces together. -/
def qsum : List UInt8 → Nat
  | [] => 0
  | x :: r => qtr x + qsum r
theorem qsum_append : ∀ a b : List UInt8, qsum (a ++ b) = qsum a + qsum b
  | [], b => by simp [qsum]
  | x :: a, b => by rw [List.cons_append, qsum, qsum, qsum_append a b]; omega
theorem qsum_le : ∀ a : List UInt8, qsum a ≤ 4 * a.length
  | [] => Nat.le_refl _
  | x :: a => by have := qsum_le a; have := qtr_le x; simp only [qsum, List.length_cons]; omega
theorem qsum_reverse : ∀ a : List UInt8, qsum a.reverse = qsum a
  | [] => rfl
  | x :: a => by rw [List.reverse_cons, qsum_append, qsum_reverse a]; simp [qsum]; omega
/-- The quarters of a text. -/
def qall (s : ByteArray) : Nat := qsum s.data.toList
/-- Where its first k pieces end. -/
def qto (s : ByteArray) (k : Nat) : Nat := qsum (s.data.toList.take k)
theorem qto_zero (s : ByteArray) : qto s 0 = 0 := by simp [qto, qsum]
theorem qto_succ {s : ByteArray} {k : Nat} (h : k < s.size) : qto s (k + 1) = qto s k + qtr (s[k]'h) := by
  have h' : k < s.data.toList.length := by simpa using h
  unfold qto
  rw [List.take_add_one, List.getElem?_eq_getElem h', qsum_append]
  simp [qsum]
  rfl
theorem qto_le (s : ByteArray) (k : Nat) : qto s k ≤ 4 * k := by
  have h1 := qsum_le (s.data.toList.take k)
  have h2 : (s.data.toList.take k).length ≤ k := by simp; omega
  unfold qto
  omega
theorem qto_all {s : ByteArray} {k : Nat} (h : s.size ≤ k) : qto s k = qall s := by
  unfold qto qall
  rw [List.take_of_length_le (by simpa using h)]
theorem qall_le (s : ByteArray) : qall s ≤ 4 * s.size := by
  have := qsum_le s.data.toList
  simpa [qall] using this
/-- A course of a wall. -/
def okCr (s : ByteArray) : Bool := inB (s.size : Int) 1 60 && (piecesB s && decide ((qall s : Int) ≤ 200))
theorem okCr_facts {s : ByteArray} (h : okCr s = true) : 1 ≤ s.size ∧ s.size ≤ 60 ∧ piecesB s = true ∧ qall s ≤ 200 := by
  simp only [okCr, Bool.and_eq_true, inB_true, decide_eq_true_eq] at h
  refine ⟨by omega, by omega, h.2.1, by omega⟩
/-- The perpends of a text. -/
def prpC (s : ByteArray) (m : Nat) : List Int := (List.range m).map fun i => ((qto s (i + 1) : Nat) : Int)
theorem prpC_length (s : ByteArray) (m : Nat) : (prpC s m).length = m := by simp [prpC]
theorem prpC_succ (s : ByteArray) (m : Nat) : prpC s (m + 1) = prpC s m ++ [((qto s (m + 1) : Nat) : Int)] := by simp [prpC, List.range_succ]
theorem prpC_at {s : ByteArray} {m k : Nat} (h : k < m) : (prpC s m)[k]? = some ((qto s (k + 1) : Nat) : Int) := by simp [prpC, h]
/-- All ends of pieces but the last one. -/
def perpsC (s : ByteArray) : List Int := prpC s (s.size - 1)
/-- How many pieces are cut. -/
def cutU (x : UInt8) : Bool := decide (x = 84) || (decide (x = 66) || decide (x = 67))
def nCutTo (s : ByteArray) (k : Nat) : Nat := (s.data.toList.take k).countP cutU
def nCut (s : ByteArray) : Nat := s.data.toList.countP cutU
theorem nCutTo_succ {s : ByteArray} {k : Nat} (h : k < s.size) : nCutTo s (k + 1) = nCutTo s k + if cutU (s[k]'h) = true then 1 else 0 := by
  have h' : k < s.data.toList.length := by simpa using h
  unfold nCutTo
  rw [List.take_add_one, List.getElem?_eq_getElem h', List.countP_append]
  simp only [Option.toList_some, List.countP_cons, List.countP_nil, Nat.zero_add]
  rfl
theorem nCutTo_all {s : ByteArray} {k : Nat} (h : s.size ≤ k) : nCutTo s k = nCut s := by
  unfold nCutTo nCut
  rw [List.take_of_length_le (by simpa using h)]
theorem nCutTo_le (s : ByteArray) (k : Nat) : nCutTo s k ≤ k := by
  have h1 := List.countP_le_length (p := cutU) (l := s.data.toList.take k)
  have h2 : (s.data.toList.take k).length ≤ k := by simp; omega
  unfold nCutTo
  omega
/-- A text from the other end. -/
def mirB (s : ByteArray) : ByteArray := ⟨s.data.toList.reverse.toArray⟩
end Go.Proofs.YtikjielgnlgnjaaDoor
