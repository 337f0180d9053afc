/-
  The laws' letters in a row of texts: written and looked for.
-/
import Derived.Test.YtgffgcobgjngnaaDoorMark
import Derived.Test.YtgffgcobgjngnaaDoorSplitEV
import Derived.Deep.RegionWith
namespace Go.Proofs.YtgffgcobgjngnaaDoor
open Go.ChangeShapes Go.WideShapes Go.ChangeAt Go.RowKit Go.Joins
theorem own_belowP {w w' : World} {B e size n : Nat} {v : Value} {xs : List Value} (h : w.ownsRow B e size v n xs) (hb : Below w.heap.size w w') : w'.ownsRow B e size v n xs := by
  refine ⟨h.1, ?_⟩
  rcases h.2 with hn | ⟨g, cap, cur, hv, hB, hgg, rest⟩
  · exact .inl hn
  · exact .inr ⟨g, cap, cur, hv, hB, (hb.block g (Array.getElem?_eq_some_iff.1 hgg).1).trans hgg, rest⟩
theorem partVals_set (cs : List ByteArray) (k : Nat) (x : ByteArray) : (partVals cs).set k (.string x) = partVals (cs.set k x) := by simp [partVals]
/-- The row that is looked at. -/
def RowAt (B : Nat) (cs : List ByteArray) (g cap : Nat) (wr : World) : Prop := wr.ownsRow B 9 1 (.slice (some ⟨g, 0, none⟩) cs.length cap) cs.length (partVals cs)
theorem row_below {B g cap : Nat} {cs : List ByteArray} {w w' : World} (h : RowAt B cs g cap w) (hb : Below w.heap.size w w') : RowAt B cs g cap w' := own_belowP h hb
theorem row_facts {B g cap k : Nat} {cs : List ByteArray} {w : World} {x : ByteArray} (h : RowAt B cs g cap w) (hx : cs[k]? = some x) : w.cell? ⟨g, k, none⟩ = some (.string x) ∧ w.frozen? ⟨g, k, none⟩ = false := by
  have hk : k < cs.length := (List.getElem?_eq_some_iff.1 hx).1
  refine ⟨?_, World.ownsRow.frozenAt h k⟩
  rw [World.ownsRow.cellAt h k (by omega)]
  simp [partVals, hx]
theorem row_store {B g cap : Nat} {cs : List ByteArray} {w : World} (h : RowAt B cs g cap w) (k : Nat) (x : ByteArray) : RowAt B (cs.set k x) g cap (w.setCell ⟨g, k, none⟩ (.string x)) ∧ w.grownBy (w.setCell ⟨g, k, none⟩ (.string x)) (some g) := by
  have hs := World.ownsRow.stored h k (.string x)
  refine ⟨?_, hs.2⟩
  have h1 := hs.1
  rw [partVals_set] at h1
  unfold RowAt
  rw [List.length_set]
  exact h1
end Go.Proofs.YtgffgcobgjngnaaDoor
