/-
  What the walks ask of rows of numbers besides.
-/
import Derived.Test.YtlglijalhacmhabInts
namespace Go.Proofs.Ytlglijalhacmhab
open Go.ChangeShapes Go.WideShapes Go.ChangeAt Go.RowKit Go.Joins

theorem IntArg.only {Q : List Int} {a : Option Addr} {b : Nat} {w w' : World} (h : IntArg w a Q) (hb : Only b w w') (hB : ∀ g o, ¬ Q = [] → a = some ⟨g, o, none⟩ → g ≠ b) : IntArg w' a Q := by
  by_cases hq : Q = []
  · exact .inl hq
  rcases h with h | ⟨g, o, h1, h2⟩
  · exact .inl h
  · refine .inr ⟨g, o, h1, fun k z hk => ?_⟩
    have h3 := h2 k z hk
    have h4 := World.block_lt_of_cell? w _ h3
    rw [World.cell?_of_block (w := w) (a := ⟨g, o + k, none⟩) (hb.block g h4 (fun e => hB g o hq h1 (by cases e; rfl)))]
    exact h3
theorem IntArg.base {Q : List Int} {a : Option Addr} {B : Nat} {w w' : World} (h : IntArg w a Q) (hb : Below B w w') (hB : ∀ g o, ¬ Q = [] → a = some ⟨g, o, none⟩ → g < B) : IntArg w' a Q := by
  by_cases hq : Q = []
  · exact .inl hq
  rcases h with h | ⟨g, o, h1, h2⟩
  · exact .inl h
  · refine .inr ⟨g, o, h1, fun k z hk => ?_⟩
    rw [hb.cell (p := ⟨g, o + k, none⟩) (hB g o hq h1)]
    exact h2 k z hk
theorem IntRes.lt {B : Nat} {Q : List Int} {a : Option Addr} {w : World} (h : IntRes B Q a w) : ∀ g o, ¬ Q = [] → a = some ⟨g, o, none⟩ → g < w.heap.size := by
  intro g o hq ha
  rcases h with h | ⟨g', h1, h2⟩
  · exact absurd h hq
  · rw [h1] at ha
    cases ha
    exact h2.2.2.2
theorem IntRes.mono {B B2 : Nat} {Q : List Int} {a : Option Addr} {w : World} (h : IntRes B Q a w) (hB : B2 ≤ B) : IntRes B2 Q a w := by
  rcases h with h | ⟨g, h1, h2⟩
  · exact .inl h
  · exact .inr ⟨g, h1, Nat.le_trans hB h2.1, h2.2⟩
end Go.Proofs.Ytlglijalhacmhab
