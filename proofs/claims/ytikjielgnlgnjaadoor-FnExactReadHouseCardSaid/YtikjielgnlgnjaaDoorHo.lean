/-
  Courses of walls as plain data: how long they are, where their perpends are. Nothing of the dump.
-/
import Derived.Test.YtikjielgnlgnjaaDoorPerp
namespace Go.Proofs.YtikjielgnlgnjaaDoor
open Go.ChangeShapes Go.WideShapes Go.ChangeAt Go.RowKit Go.Joins

/-- The quarters of pieces together. -/
def qsum : List UInt8 → Nat
  | [] => 0
  | x :: r => qtr x + qsum r
theorem qsum_append : ∀ a b : List UInt8, qsum (a ++ b) = qsum a + qsum b
  | [], b => by simp [qsum]
  | x :: a, b => by rw [List.cons_append, qsum, qsum, qsum_append a b]; omega
theorem qsum_le : ∀ a : List UInt8, qsum a ≤ 4 * a.length
  | [] => Nat.le_refl _
  | x :: a => by have := qsum_le a; have := qtr_le x; simp only [qsum, List.length_cons]; omega
theorem qsum_reverse : ∀ a : List UInt8, qsum a.reverse = qsum a
  | [] => rfl
  | x :: a => by rw [List.reverse_cons, qsum_append, qsum_reverse a]; simp [qsum]; omega
/-- The quarters of a text. -/
def qall (s : ByteArray) : Nat := qsum s.data.toList
/-- Where its first k pieces end. -/
def qto (s : ByteArray) (k : Nat) : Nat := qsum (s.data.toList.take k)
theorem qto_zero (s : ByteArray) : qto s 0 = 0 := by simp [qto, qsum]
theorem qto_succ {s : ByteArray} {k : Nat} (h : k < s.size) : qto s (k + 1) = qto s k + qtr (s[k]'h) := by
  have h' : k < s.data.toList.length := by simpa using h
  unfold qto
  rw [List.take_add_one, List.getElem?_eq_getElem h', qsum_append]
  simp [qsum]
  rfl
theorem qto_le (s : ByteArray) (k : Nat) : qto s k ≤ 4 * k := by
  have h1 := qsum_le (s.data.toList.take k)
  have h2 : (s.data.toList.take k).length ≤ k := by simp; omega
  unfold qto
  omega
theorem qto_all {s : ByteArray} {k : Nat} (h : s.size ≤ k) : qto s k = qall s := by
  unfold qto qall
  rw [List.take_of_length_le (by simpa using h)]
theorem qall_le (s : ByteArray) : qall s ≤ 4 * s.size := by
  have := qsum_le s.data.toList
  simpa [qall] using this
/-- A course of a wall. -/
def okCr (s : ByteArray) : Bool := inB (s.size : Int) 1 60 && (piecesB s && decide ((qall s : Int) ≤ 200))
theorem okCr_facts {s : ByteArray} (h : okCr s = true) : 1 ≤ s.size ∧ s.size ≤ 60 ∧ piecesB s = true ∧ qall s ≤ 200 := by
  simp only [okCr, Bool.and_eq_true, inB_true, decide_eq_true_eq] at h
  refine ⟨by omega, by omega, h.2.1, by omega⟩
/-- The perpends of a text. -/
def prpC (s : ByteArray) (m : Nat) : List Int := (List.range m).map fun i => ((qto s (i + 1) : Nat) : Int)
theorem prpC_length (s : ByteArray) (m : Nat) : (prpC s m).length = m := by simp [prpC]
theorem prpC_succ (s : ByteArray) (m : Nat) : prpC s (m + 1) = prpC s m ++ [((qto s (m + 1) : Nat) : Int)] := by simp [prpC, List.range_succ]
theorem prpC_at {s : ByteArray} {m k : Nat} (h : k < m) : (prpC s m)[k]? = some ((qto s (k + 1) : Nat) : Int) := by simp [prpC, h]
/-- All ends of pieces but the last one. -/
def perpsC (s : ByteArray) : List Int := prpC s (s.size - 1)
/-- How many pieces are cut. -/
def cutU (x : UInt8) : Bool := decide (x = 84) || (decide (x = 66) || decide (x = 67))
def nCutTo (s : ByteArray) (k : Nat) : Nat := (s.data.toList.take k).countP cutU
def nCut (s : ByteArray) : Nat := s.data.toList.countP cutU
theorem nCutTo_succ {s : ByteArray} {k : Nat} (h : k < s.size) : nCutTo s (k + 1) = nCutTo s k + if cutU (s[k]'h) = true then 1 else 0 := by
  have h' : k < s.data.toList.length := by simpa using h
  unfold nCutTo
  rw [List.take_add_one, List.getElem?_eq_getElem h', List.countP_append]
  simp only [Option.toList_some, List.countP_cons, List.countP_nil, Nat.zero_add]
  rfl
theorem nCutTo_all {s : ByteArray} {k : Nat} (h : s.size ≤ k) : nCutTo s k = nCut s := by
  unfold nCutTo nCut
  rw [List.take_of_length_le (by simpa using h)]
theorem nCutTo_le (s : ByteArray) (k : Nat) : nCutTo s k ≤ k := by
  have h1 := List.countP_le_length (p := cutU) (l := s.data.toList.take k)
  have h2 : (s.data.toList.take k).length ≤ k := by simp; omega
  unfold nCutTo
  omega
/-- A text from the other end. -/
def mirB (s : ByteArray) : ByteArray := ⟨s.data.toList.reverse.toArray⟩
end Go.Proofs.YtikjielgnlgnjaaDoor
/-
  Plans of buildings as plain data: where one goes, when one comes back, which plan is right. Nothing of the dump.
-/
namespace Go.Proofs.YtikjielgnlgnjaaDoor
open Go.ChangeShapes Go.WideShapes Go.ChangeAt Go.RowKit Go.Joins

/-- The way of one quarter in a direction. -/
def wayX (d : Nat) : Int := if d = 0 then 1 else if d = 2 then -1 else 0
def wayY (d : Nat) : Int := if d = 1 then 1 else if d = 3 then -1 else 0
/-- The direction behind a turn. -/
def turnTo (d : Nat) (t : UInt8) : Nat := if t = 76 then (d + 1) % 4 else (d + 3) % 4
/-- A place, and the direction there. -/
structure Spot where
  x : Int
  y : Int
  d : Nat
def Spot.to (s : Spot) (z : Int) (t : UInt8) : Spot := ⟨s.x + wayX s.d * z, s.y + wayY s.d * z, turnTo s.d t⟩
/-- Where one is behind so many sides. -/
def spot (P : List Int) (T : ByteArray) : Nat → Spot
  | 0 => ⟨0, 0, 0⟩
  | k + 1 => (spot P T k).to (P.getD k 0) (T.data.toList.getD k 0)
theorem spot_zero (P : List Int) (T : ByteArray) : spot P T 0 = ⟨0, 0, 0⟩ := rfl
theorem spot_succ {P : List Int} {T : ByteArray} {k : Nat} {z : Int} (hz : P[k]? = some z) (ht : k < T.size) : spot P T (k + 1) = (spot P T k).to z (T[k]'ht) := by
  have h' : k < T.data.toList.length := by simpa using ht
  show (spot P T k).to (P.getD k 0) (T.data.toList.getD k 0) = _
  rw [List.getD_eq_getElem?_getD, hz, List.getD_eq_getElem?_getD, List.getElem?_eq_getElem h']
  rfl
theorem turnTo_lt (d : Nat) (t : UInt8) : turnTo d t < 4 := by unfold turnTo; split <;> omega
theorem spot_dir (P : List Int) (T : ByteArray) (k : Nat) : (spot P T k).d < 4 := by
  cases k with
  | zero => show 0 < 4; omega
  | succ k => exact turnTo_lt _ _
theorem wayX_cases (d : Nat) : wayX d = 1 ∨ wayX d = 0 ∨ wayX d = -1 := by unfold wayX; repeat' split
                                                                           all_goals simp
theorem wayY_cases (d : Nat) : wayY d = 1 ∨ wayY d = 0 ∨ wayY d = -1 := by unfold wayY; repeat' split
                                                                           all_goals simp
/-- All sides are as long as one may be. -/
def runsB (P : List Int) : Bool := P.all fun z => inB z 8 200
theorem runsB_at {P : List Int} (h : runsB P = true) {k : Nat} {z : Int} (hz : P[k]? = some z) : 8 ≤ z ∧ z ≤ 200 := by
  have := List.all_eq_true.1 h z (List.mem_of_getElem? hz)
  exact inB_true.1 this
theorem spot_le {P : List Int} (h : runsB P = true) (T : ByteArray) : ∀ k : Nat, -(200 * (k : Int)) ≤ (spot P T k).x ∧ (spot P T k).x ≤ 200 * (k : Int) ∧ -(200 * (k : Int)) ≤ (spot P T k).y ∧ (spot P T k).y ≤ 200 * (k : Int)
  | 0 => by simp [spot]
  | k + 1 => by
    obtain ⟨h1, h2, h3, h4⟩ := spot_le h T k
    have hz : 0 ≤ P.getD k 0 ∧ P.getD k 0 ≤ 200 := by
      rw [List.getD_eq_getElem?_getD]
      cases e : P[k]? with
      | none => simp
      | some z => have := runsB_at h e; simp; omega
    show -(200 * ((k + 1 : Nat) : Int)) ≤ (spot P T k).x + wayX (spot P T k).d * P.getD k 0 ∧ (spot P T k).x + wayX (spot P T k).d * P.getD k 0 ≤ 200 * ((k + 1 : Nat) : Int) ∧ -(200 * ((k + 1 : Nat) : Int)) ≤ (spot P T k).y + wayY (spot P T k).d * P.getD k 0 ∧ (spot P T k).y + wayY (spot P T k).d * P.getD k 0 ≤ 200 * ((k + 1 : Nat) : Int)
    rcases wayX_cases (spot P T k).d with e | e | e <;> rcases wayY_cases (spot P T k).d with f | f | f <;> rw [e, f] <;> omega
/-- Letters of turns alone. -/
def isLR (x : UInt8) : Bool := decide (x = 76) || decide (x = 82)
def lrB (T : ByteArray) : Bool := T.data.toList.all isLR
theorem lrB_at {T : ByteArray} (h : lrB T = true) {k : Nat} (hk : k < T.size) : T[k]'hk = 76 ∨ T[k]'hk = 82 := by
  have h' : k < T.data.toList.length := by simpa using hk
  have := List.all_eq_true.1 h (T.data.toList[k]'h') (List.getElem_mem h')
  simp only [isLR, Bool.or_eq_true, decide_eq_true_eq] at this
  exact this
/-- How many letters of one kind are among the first ones. -/
def nTurn (T : ByteArray) (x : UInt8) (k : Nat) : Nat := (T.data.toList.take k).count x
theorem nTurn_zero (T : ByteArray) (x : UInt8) : nTurn T x 0 = 0 := by simp [nTurn]
theorem nTurn_succ {T : ByteArray} (x : UInt8) {k : Nat} (hk : k < T.size) : nTurn T x (k + 1) = nTurn T x k + if T[k]'hk = x then 1 else 0 := by
  have h' : k < T.data.toList.length := by simpa using hk
  unfold nTurn
  rw [List.take_add_one, List.getElem?_eq_getElem h', List.count_append]
  simp only [Option.toList_some, List.count_cons, List.count_nil, Nat.zero_add, beq_iff_eq]
  rfl
theorem nTurn_le (T : ByteArray) (x : UInt8) (k : Nat) : nTurn T x k ≤ k := by
  have h1 := List.count_le_length (a := x) (l := T.data.toList.take k)
  have h2 : (T.data.toList.take k).length ≤ k := by simp; omega
  unfold nTurn
  omega
/-- There are four more turns to the left. -/
def roundB (T : ByteArray) : Bool := decide (nTurn T 76 T.size = nTurn T 82 T.size + 4)
/-- One comes back. -/
def backB (P : List Int) (T : ByteArray) : Bool := decide ((spot P T P.length).x = 0) && decide ((spot P T P.length).y = 0)
/-- A plan as told. -/
def okHo (P : List Int) (T : ByteArray) : Bool := inB (P.length : Int) 4 12 && (decide (T.size = P.length) && (runsB P && (lrB T && (roundB T && backB P T))))
theorem okHo_true {P : List Int} {T : ByteArray} : okHo P T = true ↔ (4 ≤ P.length ∧ P.length ≤ 12) ∧ T.size = P.length ∧ runsB P = true ∧ lrB T = true ∧ roundB T = true ∧ backB P T = true := by
  simp only [okHo, Bool.and_eq_true, inB_true, decide_eq_true_eq]
  constructor
  · rintro ⟨⟨h1, h2⟩, h⟩; exact ⟨⟨by omega, by omega⟩, h⟩
  · rintro ⟨⟨h1, h2⟩, h⟩; exact ⟨⟨by omega, by omega⟩, h⟩
/-- The code of a plan; of a plan, one of its sides and a course. -/
def hoC (P : List Int) (T : ByteArray) : Int := if okHo P T = true then 0 else 1
def hoK (P : List Int) (T : ByteArray) (k c : Int) : Int := if okHo P T = true then (if inB k 0 ((P.length : Int) - 1) = true then (if inB c 0 1000 = true then 0 else 2) else 2) else 1
end Go.Proofs.YtikjielgnlgnjaaDoor
