/-
  Rows of numbers within bounds, plainly. Nothing of the dump.
-/
import Derived.Test.YtlglijalhacmhabBase
namespace Go.Proofs.Ytlglijalhacmhab
open Go.ChangeShapes Go.WideShapes Go.ChangeAt Go.RowKit Go.Joins

/-- All numbers of a row are low to high. -/
def allB (P : List Int) (lo hi : Int) : Bool := P.all fun z => inB z lo hi
theorem allB_true {P : List Int} {lo hi : Int} : allB P lo hi = true ↔ ∀ (k : Nat) (z : Int), P[k]? = some z → inB z lo hi = true := by
  unfold allB
  rw [List.all_eq_true]
  constructor
  · intro h k z hz; exact h z (List.mem_of_getElem? hz)
  · intro h z hz
    obtain ⟨j, hj, he⟩ := List.mem_iff_getElem.1 hz
    exact h j z (by rw [List.getElem?_eq_getElem hj, he])
theorem allB_no {P : List Int} {lo hi : Int} {k : Nat} {z : Int} (hz : P[k]? = some z) (h : inB z lo hi = false) : allB P lo hi = false := by
  cases e : allB P lo hi
  · rfl
  · have := allB_true.1 e k z hz; rw [h] at this; cases this
theorem allB_getD {P : List Int} {lo hi : Int} (h : allB P lo hi = true) {k : Nat} (hk : k < P.length) : lo ≤ P.getD k 0 ∧ P.getD k 0 ≤ hi := by
  have := allB_true.1 h k _ (List.getElem?_eq_getElem hk)
  rw [List.getD_eq_getElem?_getD, List.getElem?_eq_getElem hk]
  exact inB_true.1 this
theorem getD_of {P : List Int} {k : Nat} {z : Int} (h : P[k]? = some z) : P.getD k 0 = z := by rw [List.getD_eq_getElem?_getD, h]; rfl
theorem some_getD {P : List Int} {k : Nat} (h : k < P.length) : P[k]? = some (P.getD k 0) := by
  rw [List.getD_eq_getElem?_getD, List.getElem?_eq_getElem h]; rfl
end Go.Proofs.Ytlglijalhacmhab
