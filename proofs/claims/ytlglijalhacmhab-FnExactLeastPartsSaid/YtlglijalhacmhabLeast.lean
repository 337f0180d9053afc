/-
  LeastParts: the model's and the program's answers.
-/
import Derived.Test.YtlglijalhacmhabInts
import Derived.Test.YtlglijalhacmhabPartsA
import Derived.Test.YtlglijalhacmhabMean
import Derived.Test.YtlglijalhacmhabCheck
import Derived.OwnWalk
namespace Go.Proofs.Ytlglijalhacmhab
open Go.ChangeShapes Go.WideShapes Go.ChangeAt Go.RowKit Go.Joins


/-- The greatest common divisor of the first k parts. -/
def gcdTo (P : List Int) : Nat → Nat
  | 0 => 0
  | k + 1 => Int.gcd (gcdTo P k : Int) ((P[k]?).getD 0)
theorem gcdTo_step {P : List Int} {k : Nat} {z : Int} (h : P[k]? = some z) : gcdTo P (k + 1) = Int.gcd (gcdTo P k : Int) z := by simp [gcdTo, h]
theorem gcdTo_le {P : List Int} (hP : okParts P = true) {k : Nat} (hk : k ≤ P.length) : gcdTo P k ≤ 1000 := by
  induction k with
  | zero => simp [gcdTo]
  | succ k ih =>
    obtain ⟨z, hz⟩ : ∃ z, P[k]? = some z := ⟨_, List.getElem?_eq_getElem (by omega)⟩
    obtain ⟨z0, z1⟩ := okParts_at hP hz
    rw [gcdTo_step hz]
    have h1 := ih (by omega)
    by_cases h0 : z = 0
    · subst h0; simpa using h1
    · have : ((Int.gcd (gcdTo P k : Int) z : Nat) : Int) ≤ z := Int.le_of_dvd (by omega) (Int.gcd_dvd_right ..)
      omega
theorem gcdTo_zero {P : List Int} {k : Nat} (h : gcdTo P k = 0) : sumTo P k = 0 := by
  induction k with
  | zero => rfl
  | succ k ih =>
    simp only [gcdTo, Int.gcd_eq_zero_iff] at h
    simp only [sumTo]
    rw [ih (by omega), h.2]
    rfl
def gcdP (P : List Int) : Nat := gcdTo P P.length
theorem gcdP_pos {L : List Cl} {P : List Int} (h : codeP L P true = 0) : 1 ≤ gcdP P ∧ gcdP P ≤ 1000 := by
  have h1 := (codeP_sum h).1
  have h2 := gcdTo_le (codeP_facts h).2.2.1 (Nat.le_refl _)
  have h3 : gcdTo P P.length ≠ 0 := fun e => by
    have := gcdTo_zero e
    unfold sumP at h1
    omega
  exact ⟨by unfold gcdP; omega, h2⟩
/-- The least parts. -/
def leastL (P : List Int) : List Int := P.map fun z => z / (gcdP P : Int)
theorem leastL_length (P : List Int) : (leastL P).length = P.length := by simp [leastL]
theorem leastL_at {P : List Int} {k : Nat} {z : Int} (h : P[k]? = some z) : (leastL P)[k]? = some (z / (gcdP P : Int)) := by simp [leastL, h]

def sliceE (v : Value) (c : Int) : Ending := .returned (.tuple #[v, .int .i64 c])
/-- What LeastParts hands back: nothing and a code, or a new row. -/
def LeastOut (w : World) (L : List Cl) (P : List Int) (e : Ending) (w' : World) : Prop :=
  Below w.heap.size w w' ∧ ((codeP L P true ≠ 0 ∧ e = sliceE (.slice none 0 0) (codeP L P true)) ∨ (codeP L P true = 0 ∧ ∃ g cap, e = sliceE (.slice (some ⟨g, 0, none⟩) P.length cap) 0 ∧ IntOwn w.heap.size (leastL P) g w'))
theorem LeastOut.bad {w w' : World} {L : List Cl} {P : List Int} {q : Int} (h : codeP L P true = q) (hq : ¬ q = 0) (hb : Below w.heap.size w w') : LeastOut w L P (.returned (.tuple #[.slice none 0 0, .int .i64 q])) w' := by
  unfold LeastOut sliceE
  exact And.intro hb (Or.inl (And.intro (by rw [h]; exact hq) (by rw [h])))
theorem LeastOut.good {w w' : World} {L : List Cl} {P : List Int} {g cap : Nat} (h : codeP L P true = 0) (ho : IntOwn w.heap.size (leastL P) g w') (hb : Below w.heap.size w w') : LeastOut w L P (.returned (.tuple #[.slice (some ⟨g, 0, none⟩) P.length cap, .int .i64 0])) w' := by
  unfold LeastOut sliceE
  exact And.intro hb (Or.inr (And.intro h (Exists.intro g (Exists.intro cap (And.intro rfl ho)))))
end Go.Proofs.Ytlglijalhacmhab
