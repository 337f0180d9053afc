/-
  The model's CheckBond: what lies where, and the walk.
-/
import Derived.Test.YtgffgcobgjngnaaDoorChkW
namespace Go.Proofs.YtgffgcobgjngnaaDoor
open Go.ChangeShapes Go.WideShapes Go.ChangeAt Go.RowKit Go.Joins

/-- What lies where while the model reads words. -/
structure CsAt (w : World) (ws : List ByteArray) (g cap b k j : Nat) (pv cv : Value) (wr : World) : Prop where
  pr : wr.ownsRow w.heap.size 73 2 pv (probsTo ws k).length (prVals (probsTo ws k))
  co : wr.ownsRow w.heap.size 68 2 cv (cosTo ws j).length (coVals (cosTo ws j))
  bx : wr.heap[b]? = some (.cells #[.string (ws.getD 0 .empty), cv] 24 (0, 0))
  rs : wr.heap[w.heap.size]? = some (.cells #[.string ⟨#[]⟩, .slice none 0 0] 24 (0, 0))
  wd : wr.ownsRow w.heap.size 9 1 (.slice (some ⟨g, 0, none⟩) ws.length cap) ws.length (partVals ws)
  bl : Below w.heap.size w wr
  hb : w.heap.size < b
theorem CsAt.later {w wr w' : World} {ws : List ByteArray} {g cap b k j : Nat} {pv cv : Value} (h : CsAt w ws g cap b k j pv cv wr) (hb : Below wr.heap.size wr w') : CsAt w ws g cap b k j pv cv w' :=
  ⟨own_later2 h.pr hb, own_later2 h.co hb, (hb.block _ (Array.getElem?_eq_some_iff.1 h.bx).1).trans h.bx, (hb.block _ (Array.getElem?_eq_some_iff.1 h.rs).1).trans h.rs, own_later2 h.wd hb, bnext h.bl hb, h.hb⟩
theorem CsAt.word {w wr : World} {ws : List ByteArray} {g cap b k j i : Nat} {pv cv : Value} {x : ByteArray} (h : CsAt w ws g cap b k j pv cv wr) (hx : ws[i]? = some x) : wr.cell? ⟨g, i, none⟩ = some (.string x) := by
  have hk : i < ws.length := (List.getElem?_eq_some_iff.1 hx).1
  rw [World.ownsRow.cellAt h.wd i (by omega)]
  simp [partVals, hx]
/-- A problem has been appended. -/
theorem CsAt.note {w w2 w3 : World} {ws : List ByteArray} {g cap b k j : Nat} {pv cv v : Value} {x y : Value} (h : CsAt w ws g cap b k j pv cv w2)
    (ho : w3.ownsRow w.heap.size 73 2 v ((probsTo ws k).length + 1) (prVals (probsTo ws k) ++ [.int .i64 (k : Int), .int .i64 (kindAt ws k)])) (hk : ¬ kindAt ws k = 0) (hj : cosTo ws (k + 1) = cosTo ws k) (hjk : j = k) (hg : (w2.alloc (.cells #[x, y] 73)).grownBy w3 pv.ownBlock) : CsAt w ws g cap b (k + 1) (j + 1) v cv w3 := by
  subst hjk
  have K : KeepT [73] w2 w3 := (KeepT.below (balloc0 _ _)).trans (keep_grown2 hg (h.pr.alloc _) (by simp))
  have B3 : Below w.heap.size w w3 := (h.bl.alloc h.bl.size _).grown hg (by have := h.bl.size; simp; omega) (fun p hp => (h.pr.lt p hp).1)
  refine ⟨?_, ?_, K _ _ _ _ h.bx (by decide), K _ _ _ _ h.rs (by decide), own_keep2 h.wd K (by decide), B3, h.hb⟩
  · have e : probsTo ws (j + 1) = probsTo ws j ++ [((j : Int), kindAt ws j)] := by simp only [probsTo]; rw [if_neg hk]
    rw [e, prVals_snoc, List.length_append]
    exact ho
  · rw [hj]
    exact own_keep2 h.co K (by decide)
/-- A course has been put behind the others, and the row of them into the bond. -/
theorem CsAt.grow {w w2 w3 : World} {ws : List ByteArray} {g cap b k j : Nat} {pv cv v3 : Value} (h : CsAt w ws g cap b k j pv cv w2) (c : Co) (hc : cosTo ws (j + 1) = cosTo ws j ++ [c]) (hp : probsTo ws (k + 1) = probsTo ws k)
    (ho : w3.ownsRow w.heap.size 68 2 v3 ((cosTo ws j).length + 1) (coVals (cosTo ws j) ++ [.string c.lead, .string c.cyc])) (hg : (w2.alloc (.cells #[.string c.lead, .string c.cyc] 68)).grownBy w3 cv.ownBlock) :
    w3.cell? ⟨b, 1, none⟩ = some cv ∧ w3.frozen? ⟨b, 1, none⟩ = false ∧ CsAt w ws g cap b (k + 1) (j + 1) pv v3 (w3.setCell ⟨b, 1, none⟩ v3) := by
  have K : KeepT [68] w2 w3 := (KeepT.below (balloc0 _ _)).trans (keep_grown2 hg (h.co.alloc _) (by simp))
  have hbx := K _ _ _ _ h.bx (by decide)
  have B3 : Below w.heap.size w w3 := (h.bl.alloc h.bl.size _).grown hg (by have := h.bl.size; simp; omega) (fun p hp => (h.co.lt p hp).1)
  have K2 : KeepT [24] w3 (w3.setCell ⟨b, 1, none⟩ v3) := KeepT.set hbx (by simp)
  refine ⟨by rw [cell_of_row _ _ _ _ _ (0, 0) hbx]; rfl, frozen_of_row _ _ _ _ _ hbx, ?_, ?_, ?_, ?_, own_keep2 (own_keep2 h.wd K (by decide)) K2 (by decide), B3.setCell (by have := h.hb; show w.heap.size ≤ b; omega) _, h.hb⟩
  · rw [hp]
    exact own_keep2 (own_keep2 h.pr K (by decide)) K2 (by decide)
  · rw [hc, coVals_snoc, List.length_append]
    exact own_keep2 ho K2 (by decide)
  · rw [heap_setCell_same w3 _ 1 _ _ _ hbx]
    rfl
  · rw [Below.heap_setCell _ _ _ _ (by have := h.hb; show w.heap.size ≠ b; omega)]
    exact K _ _ _ _ h.rs (by decide)
theorem cos_one (ws : List ByteArray) : cosTo ws 1 = cosTo ws 0 := by simp [cosTo]
/-- What the model's reading hands back: the bond and the problems. -/
def LckOut (s : ByteArray) (w : World) (e : Ending) (w' : World) : Prop :=
  ∃ nm cv pv, e = .returned (.tuple #[.agg #[.string nm, cv], pv]) ∧ nm = (if chkP s = [] then (wordsB s).getD 0 .empty else .empty) ∧ (chkP s = [] → w'.ownsRow w.heap.size 68 2 cv (cosTo (wordsB s) (wordsB s).length).length (coVals (cosTo (wordsB s) (wordsB s).length))) ∧ (¬ chkP s = [] → cv = .slice none 0 0) ∧ w'.ownsRow w.heap.size 73 2 pv (chkP s).length (prVals (chkP s)) ∧ Below w.heap.size w w'
end Go.Proofs.YtgffgcobgjngnaaDoor
