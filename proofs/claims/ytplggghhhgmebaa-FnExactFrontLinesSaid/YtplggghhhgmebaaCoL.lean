/-
  What the laws ask of bonds before and behind the call: their size, copies, equality.
-/
import Derived.Test.YtplggghhhgmebaaCo
import Derived.Test.YtplggghhhgmebaaRow
import Derived.Deep.RegionWith
import Derived.Deep.OwnRows
import Derived.WalkSmall
import Derived.Deep.QuietTactic
import Derived.BigQuiet
namespace Go.Proofs.Ytplggghhhgmebaa
open Go.ChangeShapes Go.WideShapes Go.ChangeAt Go.RowKit Go.Joins
theorem boxB (w : World) (nm : ByteArray) (v : Value) (t : TypeId) : (w.alloc (.cells #[.string nm, v] t)).cell? ⟨w.heap.size, 0, none⟩ = some (.string nm) ∧ (w.alloc (.cells #[.string nm, v] t)).cell? ⟨w.heap.size, 1, none⟩ = some v := by
  refine ⟨?_, ?_⟩ <;> (rw [cell_of_row _ _ _ _ t (0, 0) (heap_alloc_new w _)]; rfl)
/-- A row of the call's own that holds these courses: it may be written. -/
def CoOwn (B : Nat) (L : List Co) (g : Nat) (w : World) : Prop := B ≤ g ∧ CoAt w g 0 L ∧ w.there g 0 (L.length * 2) ∧ g < w.heap.size
theorem CoOwn.arg {B : Nat} {L : List Co} {g : Nat} {w : World} (h : CoOwn B L g w) : CoArg w (some ⟨g, 0, none⟩) L := .inr ⟨g, 0, rfl, h.2.1⟩

theorem CoOwn.only {B : Nat} {L : List Co} {g b : Nat} {w w' : World} (h : CoOwn B L g w) (ho : Only b w w') (hne : g ≠ b) : CoOwn B L g w' :=
  ⟨h.1, fun k c hk => ho.range hne (h.2.1 k c hk), ho.there hne h.2.2.1, Nat.lt_of_lt_of_le h.2.2.2 ho.size⟩
theorem CoOwn.set {B : Nat} {L : List Co} {g b o : Nat} {v : Value} {w : World} (h : CoOwn B L g w) (hne : g ≠ b) : CoOwn B L g (w.setCell ⟨b, o, none⟩ v) := h.only ((Only.refl b w).set o v) hne
theorem CoOwn.later {B : Nat} {L : List Co} {g : Nat} {w w' : World} (h : CoOwn B L g w) (hb : Below w.heap.size w w') : CoOwn B L g w' := ⟨h.1, h.2.1.later hb, there_below h.2.2.1 hb, Nat.lt_of_lt_of_le h.2.2.2 hb.size⟩
end Go.Proofs.Ytplggghhhgmebaa
