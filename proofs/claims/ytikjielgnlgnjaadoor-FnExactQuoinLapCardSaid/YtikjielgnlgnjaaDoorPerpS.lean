/-
  Perpends by the model.
-/
import Derived.Test.YtikjielgnlgnjaaDoorPerp
import Derived.Test.YtikjielgnlgnjaaDoorInts
namespace Go.Proofs.YtikjielgnlgnjaaDoor
open Go.ChangeShapes Go.WideShapes Go.ChangeAt Go.RowKit Go.Joins


theorem box2c (w : World) (x y : ByteArray) (t : TypeId) : (w.alloc (.cells #[.string x, .string y] t)).cell? ⟨w.heap.size, 0, none⟩ = some (.string x) ∧ (w.alloc (.cells #[.string x, .string y] t)).cell? ⟨w.heap.size, 1, none⟩ = some (.string y) := by
  refine ⟨?_, ?_⟩ <;> (rw [cell_of_row _ _ _ _ t (0, 0) (heap_alloc_new w _)]; rfl)

/-- Perpends are handed back. -/
def PerpOut (w : World) (c : Co) (u : Nat) (e : Ending) (w' : World) : Prop :=
  ∃ m g cap, PerpIs c u m ∧ e = .returned (.slice (some ⟨g, 0, none⟩) m cap) ∧ IntOwn w.heap.size (perpL c m) g w' ∧ Below w.heap.size w w'

theorem own_later {w w' : World} {B e size n : Nat} {v : Value} {xs : List Value} (h : w.ownsRow B e size v n xs) (hb : Below w.heap.size w w') : w'.ownsRow B e size v n xs := by
  refine ⟨h.1, ?_⟩
  rcases h.2 with hn | ⟨g, cap, cur, hv, hB, hgg, rest⟩
  · exact .inl hn
  · exact .inr ⟨g, cap, cur, hv, hB, (hb.block g (Array.getElem?_eq_some_iff.1 hgg).1).trans hgg, rest⟩
theorem nums_later {W0 w w' : World} {ps : List Int} {g cap : Nat} (h : NumsAt W0 ps g cap w) (hb : Below w.heap.size w w') : NumsAt W0 ps g cap w' :=
  ⟨own_later h.1 hb, h.2.1.trans (hb.mono (Nat.le_of_succ_le h.2.2)), Nat.le_trans h.2.2 hb.size⟩
end Go.Proofs.YtikjielgnlgnjaaDoor
