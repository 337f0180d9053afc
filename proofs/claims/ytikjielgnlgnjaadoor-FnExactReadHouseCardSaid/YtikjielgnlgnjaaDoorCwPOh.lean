/-
  Rows of numbers that lie low.
-/
import Derived.Test.YtikjielgnlgnjaaDoorHoL
namespace Go.Proofs.YtikjielgnlgnjaaDoor
open Go.ChangeShapes Go.WideShapes Go.ChangeAt Go.RowKit Go.Joins

/-- A row of numbers that lies low. -/
def LowInt (B : Nat) (a : Option Addr) (P : List Int) (w : World) : Prop := P = [] ∨ ∃ g, a = some ⟨g, 0, none⟩ ∧ g < B ∧ IntAt w g 0 P
theorem LowInt.of {B : Nat} {a : Option Addr} {P : List Int} {w : World} (h : IntRes B P a w) : LowInt w.heap.size a P w := by
  rcases h with h | ⟨g, h1, h2⟩
  · exact .inl h
  · exact .inr ⟨g, h1, h2.2.2.2, h2.2.1⟩
theorem LowInt.arg {B : Nat} {a : Option Addr} {P : List Int} {w : World} (h : LowInt B a P w) : IntArg w a P := by
  rcases h with h | ⟨g, h1, _, h2⟩
  · exact .inl h
  · exact .inr ⟨g, 0, h1, h2⟩
theorem LowInt.below {B n : Nat} {a : Option Addr} {P : List Int} {w w' : World} (h : LowInt B a P w) (hb : Below n w w') (hn : B ≤ n) : LowInt B a P w' := by
  rcases h with h | ⟨g, h1, h2, h3⟩
  · exact .inl h
  · exact .inr ⟨g, h1, h2, fun k z hk => (hb.cell (p := ⟨g, 0 + k, none⟩) (by show g < n; omega)).trans (h3 k z hk)⟩
theorem LowInt.later {B : Nat} {a : Option Addr} {P : List Int} {w w' : World} (h : LowInt B a P w) (hb : Below w.heap.size w w') : LowInt B a P w' := by
  rcases h with h | ⟨g, h1, h2, h3⟩
  · exact .inl h
  · exact .inr ⟨g, h1, h2, h3.later hb⟩
theorem LowInt.only {B g : Nat} {a : Option Addr} {P : List Int} {w w' : World} (h : LowInt B a P w) (ho : Only g w w') (hg : B ≤ g) : LowInt B a P w' := by
  rcases h with h | ⟨g1, h1, h2, h3⟩
  · exact .inl h
  · exact .inr ⟨g1, h1, h2, fun k z hk => by
      have h4 := h3 k z hk
      rw [World.cell?_of_block (w := w) (a := ⟨g1, 0 + k, none⟩) (ho.block g1 (World.block_lt_of_cell? w _ h4) (fun e => by cases e; omega))]
      exact h4⟩
end Go.Proofs.YtikjielgnlgnjaaDoor
