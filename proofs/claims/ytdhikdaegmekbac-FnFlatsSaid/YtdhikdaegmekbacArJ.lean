/-
  Joints and tapers of a ring with its bricks: contracts of the program. A box and two results that are stored beside calls.
-/
import Derived.Test.YtdhikdaegmekbacArL
import Derived.Test.YtdhikdaegmekbacSetM
namespace Go.Proofs.Ytdhikdaegmekbac
open Go.ChangeShapes Go.WideShapes Go.ChangeAt Go.RowKit Go.Joins


/-- A box with its cells in block g, two results in the blocks a and b. -/
def ArB (w : World) (g : Nat) (V : List Value) (a b : Nat) (W : World) : Prop := Below w.heap.size w W ∧ W.rangeAt g 0 V ∧ (W.there a 0 2 ∧ W.there b 0 2) ∧ (w.heap.size ≤ a ∧ w.heap.size ≤ b ∧ a ≠ g ∧ b ≠ g ∧ a ≠ b)
theorem ArB.later {w W W' : World} {g a b : Nat} {V : List Value} (h : ArB w g V a b W) (hb : Below W.heap.size W W') : ArB w g V a b W' :=
  ⟨bnext h.1 hb, range_below h.2.1 hb, ⟨there_below h.2.2.1.1 hb, there_below h.2.2.1.2 hb⟩, h.2.2.2⟩
theorem ArB.drew {w W : World} {g a b : Nat} {V : List Value} (h : ArB w g V a b W) : ArB w g V a b W.drew := ⟨h.1.drew, h.2.1, h.2.2.1, h.2.2.2⟩
theorem there_other {W : World} {a c k n : Nat} {v : Value} (h : W.there a 0 n) (hne : a ≠ c) : (W.setCell ⟨c, k, none⟩ v).there a 0 n := fun j hj =>
  ⟨by rw [World.cell?_setCell_other _ _ _ _ (fun e => hne (by cases e; rfl))]; exact (h j hj).1, by rw [World.frozen?_setCell]; exact (h j hj).2⟩
theorem range_other {W : World} {g c k : Nat} {v : Value} {V : List Value} (h : W.rangeAt g 0 V) (hne : g ≠ c) : (W.setCell ⟨c, k, none⟩ v).rangeAt g 0 V := fun j x hx => by
  rw [World.cell?_setCell_other _ _ _ _ (fun e => hne (by cases e; rfl))]; exact h j x hx
theorem ArB.seta {w W : World} {g a b k : Nat} {v : Value} {V : List Value} (h : ArB w g V a b W) : ArB w g V a b (W.setCell ⟨a, k, none⟩ v) :=
  ⟨h.1.setCell h.2.2.2.1 _, range_other h.2.1 (Ne.symm h.2.2.2.2.2.1), ⟨there_setM h.2.2.1.1 _ _, there_other h.2.2.1.2 (Ne.symm h.2.2.2.2.2.2.2)⟩, h.2.2.2⟩
theorem ArB.setb {w W : World} {g a b k : Nat} {v : Value} {V : List Value} (h : ArB w g V a b W) : ArB w g V a b (W.setCell ⟨b, k, none⟩ v) :=
  ⟨h.1.setCell h.2.2.2.2.1 _, range_other h.2.1 (Ne.symm h.2.2.2.2.2.2.1), ⟨there_other h.2.2.1.1 h.2.2.2.2.2.2.2, there_setM h.2.2.1.2 _ _⟩, h.2.2.2⟩
theorem low_over (a b n : Int) (hb : 0 < b) : lowN (lowN a b) (n * lowD a b) = lowN a (n * b) ∧ lowD (lowN a b) (n * lowD a b) = lowD a (n * b) := by
  have h := low_step a b 0 n hb
  simpa using h
end Go.Proofs.Ytdhikdaegmekbac
