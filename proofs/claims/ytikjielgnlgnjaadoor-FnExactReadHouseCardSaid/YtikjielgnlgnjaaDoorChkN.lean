/-
  What the laws ask of bonds before and behind the call: their size, copies, equality.
-/
import Derived.Test.YtikjielgnlgnjaaDoorCo
import Derived.Test.YtikjielgnlgnjaaDoorRow
import Derived.Deep.RegionWith
import Derived.Deep.OwnRows
import Derived.WalkSmall
import Derived.Deep.QuietTactic
import Derived.BigQuiet
import Derived.Test.YtikjielgnlgnjaaDoorChkI
namespace Go.Proofs.YtikjielgnlgnjaaDoor
open Go.ChangeShapes Go.WideShapes Go.ChangeAt Go.RowKit Go.Joins
theorem boxB (w : World) (nm : ByteArray) (v : Value) (t : TypeId) : (w.alloc (.cells #[.string nm, v] t)).cell? ⟨w.heap.size, 0, none⟩ = some (.string nm) ∧ (w.alloc (.cells #[.string nm, v] t)).cell? ⟨w.heap.size, 1, none⟩ = some v := by
  refine ⟨?_, ?_⟩ <;> (rw [cell_of_row _ _ _ _ t (0, 0) (heap_alloc_new w _)]; rfl)
/-- A row of the call's own that holds these courses: it may be written. -/
def CoOwn (B : Nat) (L : List Co) (g : Nat) (w : World) : Prop := B ≤ g ∧ CoAt w g 0 L ∧ w.there g 0 (L.length * 2) ∧ g < w.heap.size
theorem CoOwn.arg {B : Nat} {L : List Co} {g : Nat} {w : World} (h : CoOwn B L g w) : CoArg w (some ⟨g, 0, none⟩) L := .inr ⟨g, 0, rfl, h.2.1⟩

theorem CoOwn.only {B : Nat} {L : List Co} {g b : Nat} {w w' : World} (h : CoOwn B L g w) (ho : Only b w w') (hne : g ≠ b) : CoOwn B L g w' :=
  ⟨h.1, fun k c hk => ho.range hne (h.2.1 k c hk), ho.there hne h.2.2.1, Nat.lt_of_lt_of_le h.2.2.2 ho.size⟩
theorem CoOwn.set {B : Nat} {L : List Co} {g b o : Nat} {v : Value} {w : World} (h : CoOwn B L g w) (hne : g ≠ b) : CoOwn B L g (w.setCell ⟨b, o, none⟩ v) := h.only ((Only.refl b w).set o v) hne
theorem CoOwn.later {B : Nat} {L : List Co} {g : Nat} {w w' : World} (h : CoOwn B L g w) (hb : Below w.heap.size w w') : CoOwn B L g w' := ⟨h.1, h.2.1.later hb, there_below h.2.2.1 hb, Nat.lt_of_lt_of_le h.2.2.2 hb.size⟩
end Go.Proofs.YtikjielgnlgnjaaDoor
/-
  The program's course of a word.
-/
namespace Go.Proofs.YtikjielgnlgnjaaDoor
open Go.ChangeShapes Go.WideShapes Go.ChangeAt Go.RowKit Go.Joins

end Go.Proofs.YtikjielgnlgnjaaDoor
/-
  The program's noting of a problem.
-/
namespace Go.Proofs.YtikjielgnlgnjaaDoor
open Go.ChangeShapes Go.WideShapes Go.ChangeAt Go.RowKit Go.Joins


/-- The cells of a row of problems. -/
def prVals (ps : List (Int × Int)) : List Value := ps.flatMap fun p => [.int .i64 p.1, .int .i64 p.2]
theorem prVals_snoc (ps : List (Int × Int)) (a b : Int) : prVals (ps ++ [(a, b)]) = prVals ps ++ [.int .i64 a, .int .i64 b] := by simp [prVals]
theorem row2_new (T : TypeId) (base : Nat) (w : World) (c d : Value) (hb : base ≤ w.heap.size) : (w.alloc (.cells #[c, d] T)).ownsRow base T 2 (.slice (some ⟨w.heap.size, 0, none⟩) 1 1) 1 [c, d] :=
  ⟨rfl, .inr ⟨w.heap.size, 1, #[c, d], rfl, hb, heap_alloc_new w _, Nat.le_refl _, by decide, rfl, rfl⟩⟩
theorem own_keep2 {ts : List TypeId} {w w' : World} {B e size n : Nat} {v : Value} {xs : List Value} (h : w.ownsRow B e size v n xs) (hk : KeepT ts w w') (he : e ∉ ts) : w'.ownsRow B e size v n xs := by
  refine ⟨h.1, ?_⟩
  rcases h.2 with hn | ⟨g, cap, cur, hv, hB, hgg, rest⟩
  · exact .inl hn
  · exact .inr ⟨g, cap, cur, hv, hB, hk _ _ _ _ hgg he, rest⟩
theorem own_later2 {w w' : World} {B e size n : Nat} {v : Value} {xs : List Value} (h : w.ownsRow B e size v n xs) (hb : Below w.heap.size w w') : w'.ownsRow B e size v n xs := by
  refine ⟨h.1, ?_⟩
  rcases h.2 with hn | ⟨g, cap, cur, hv, hB, hgg, rest⟩
  · exact .inl hn
  · exact .inr ⟨g, cap, cur, hv, hB, (hb.block g (Array.getElem?_eq_some_iff.1 hgg).1).trans hgg, rest⟩
/-- What grows by an own row keeps the blocks of other types. -/
theorem keep_grown2 {ts : List TypeId} {w w' : World} {v : Value} {B e size n : Nat} {xs : List Value} (hg : w.grownBy w' v.ownBlock) (ho : w.ownsRow B e size v n xs) (he : e ∈ ts) : KeepT ts w w' := fun i T cs fr h1 h2 => by
  refine (hg.block i (Array.getElem?_eq_some_iff.1 h1).1 (fun h3 => ?_)).trans h1
  rcases ho.2 with ⟨hv, _⟩ | ⟨g, cap, cur, hv, hB, hgg, _⟩
  · rw [hv] at h3
    simp [Value.ownBlock] at h3
  · rw [hv] at h3
    simp only [Value.ownBlock, Option.some.injEq] at h3
    subst h3
    rw [h1] at hgg
    cases hgg
    exact h2 he

/-- What is noted: nothing where there is no problem. -/
def noted (ps : List (Int × Int)) (k : Nat) (x : Int) : List (Int × Int) := if x = 0 then ps else ps ++ [((k : Int), x)]
end Go.Proofs.YtikjielgnlgnjaaDoor
