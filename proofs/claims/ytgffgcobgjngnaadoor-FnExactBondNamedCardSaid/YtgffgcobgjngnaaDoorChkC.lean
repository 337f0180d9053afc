/-
  The program's CheckBond.
-/
import Derived.Test.YtgffgcobgjngnaaDoorChkN
namespace Go.Proofs.YtgffgcobgjngnaaDoor
open Go.ChangeShapes Go.WideShapes Go.ChangeAt Go.RowKit Go.Joins

/-- The cells of a row of courses. -/
def coVals (L : List Co) : List Value := L.flatMap fun c => [.string c.lead, .string c.cyc]
theorem coVals_snoc (L : List Co) (c : Co) : coVals (L ++ [c]) = coVals L ++ [.string c.lead, .string c.cyc] := by simp [coVals]
theorem infoCo : (Tryd.prog.info? 68).map (fun i => (i.zero, i.size, i.bytes)) = some (some (.agg #[.string ⟨#[]⟩, .string ⟨#[]⟩]), 2, 32) := by kernel_rfl
theorem fault_range (c : Co) (h : Bool) : 0 ≤ c.fault h ∧ c.fault h ≤ 6 := by
  unfold Co.fault
  split
  · split
    · omega
    · split <;> omega
  · omega
theorem kind_range (ws : List ByteArray) (i : Nat) : 0 ≤ kindAt ws i ∧ kindAt ws i ≤ 6 := by
  unfold kindAt
  split
  · split
    · omega
    · split <;> omega
  · split
    · omega
    · unfold wordOf
      split
      · exact fault_range _ _
      · exact fault_range _ _
      · simp
theorem noted_to (ws : List ByteArray) (k : Nat) : noted (probsTo ws k) k (kindAt ws k) = probsTo ws (k + 1) := by simp [noted, probsTo]
/-- What CheckBond hands back. -/
def ChkOut (s : ByteArray) (w : World) (e : Ending) (w' : World) : Prop :=
  ∃ cv pv, e = .returned (.tuple #[.agg #[.string (ckN s), cv], pv, .int .i64 (ckC s)]) ∧ w'.ownsRow w.heap.size 68 2 cv (ckL s).length (coVals (ckL s)) ∧ w'.ownsRow w.heap.size 73 2 pv (ckP s).length (prVals (ckP s)) ∧ Below w.heap.size w w'
/-- What lies where while words are read. -/
structure CkAt (w : World) (ws : List ByteArray) (k j : Nat) (pv cv : Value) (wr : World) : Prop where
  pr : wr.ownsRow w.heap.size 73 2 pv (probsTo ws k).length (prVals (probsTo ws k))
  co : wr.ownsRow w.heap.size 68 2 cv (cosI ws j).length (coVals (cosI ws j))
  bx : wr.heap[w.heap.size + 1 + 1]? = some (.cells #[.string (ws.getD 0 .empty), cv] 24 (0, 0))
  rs : wr.heap[w.heap.size]? = some (.cells #[.string ⟨#[]⟩, .slice none 0 0] 24 (0, 0))
  wd : wr.heap[w.heap.size + 1]? = some (.cells (ws.map Value.string).toArray 9 (0, 0))
  bl : Below w.heap.size w wr
theorem CkAt.later {w wr w' : World} {ws : List ByteArray} {k j : Nat} {pv cv : Value} (h : CkAt w ws k j pv cv wr) (hb : Below wr.heap.size wr w') : CkAt w ws k j pv cv w' :=
  ⟨own_later2 h.pr hb, own_later2 h.co hb, (hb.block _ (Array.getElem?_eq_some_iff.1 h.bx).1).trans h.bx, (hb.block _ (Array.getElem?_eq_some_iff.1 h.rs).1).trans h.rs, (hb.block _ (Array.getElem?_eq_some_iff.1 h.wd).1).trans h.wd, bnext h.bl hb⟩
theorem CkAt.word {w wr : World} {ws : List ByteArray} {k j i : Nat} {pv cv : Value} {x : ByteArray} (h : CkAt w ws k j pv cv wr) (hx : ws[i]? = some x) : wr.cell? ⟨w.heap.size + 1, i, none⟩ = some (.string x) := by
  rw [cell_of_row _ _ _ _ _ (0, 0) h.wd]
  simp [hx]

/-- A problem has been noted. -/
theorem CkAt.note {w wr w' : World} {ws : List ByteArray} {k j : Nat} {pv cv v : Value} (h : CkAt w ws k j pv cv wr) (o : w'.ownsRow w.heap.size 73 2 v (noted (probsTo ws k) k (kindAt ws k)).length (prVals (noted (probsTo ws k) k (kindAt ws k)))) (b : Below w.heap.size wr w') (hk : KeepT [73] wr w') : CkAt w ws (k + 1) j v cv w' := by
  rw [noted_to] at o
  exact ⟨o, own_keep2 h.co hk (by decide), hk _ _ _ _ h.bx (by decide), hk _ _ _ _ h.rs (by decide), hk _ _ _ _ h.wd (by decide), h.bl.trans b⟩
/-- A course has been put behind the others, and the row of them into the bond. -/
theorem CkAt.grow {w w2 w3 : World} {ws : List ByteArray} {k j : Nat} {pv cv v3 : Value} (h : CkAt w ws k j pv cv w2) (c : Co) (hc : cosI ws (j + 1) = cosI ws j ++ [c])
    (ho : w3.ownsRow w.heap.size 68 2 v3 ((cosI ws j).length + 1) (coVals (cosI ws j) ++ [.string c.lead, .string c.cyc])) (hg : (w2.alloc (.cells #[.string c.lead, .string c.cyc] 68)).grownBy w3 cv.ownBlock) :
    w3.cell? ⟨w.heap.size + 1 + 1, 1, none⟩ = some cv ∧ w3.frozen? ⟨w.heap.size + 1 + 1, 1, none⟩ = false ∧ CkAt w ws k (j + 1) pv v3 (w3.setCell ⟨w.heap.size + 1 + 1, 1, none⟩ v3) := by
  have K : KeepT [68] w2 w3 := (KeepT.below (balloc0 _ _)).trans (keep_grown2 hg (h.co.alloc _) (by simp))
  have hbx := K _ _ _ _ h.bx (by decide)
  have hbase : w.heap.size ≤ w2.heap.size := h.bl.size
  have B3 : Below w.heap.size w w3 := (h.bl.alloc hbase _).grown hg (by simp; omega) (fun p hp => (h.co.lt p hp).1)
  have K2 : KeepT [24] w3 (w3.setCell ⟨w.heap.size + 1 + 1, 1, none⟩ v3) := KeepT.set hbx (by simp)
  refine ⟨by rw [cell_of_row _ _ _ _ _ (0, 0) hbx]; rfl, frozen_of_row _ _ _ _ _ hbx, own_keep2 (own_keep2 h.pr K (by decide)) K2 (by decide), ?_, ?_, ?_, K2 _ _ _ _ (K _ _ _ _ h.wd (by decide)) (by decide), B3.setCell (by simp; omega) _⟩
  · rw [hc, coVals_snoc, List.length_append]
    exact own_keep2 ho K2 (by decide)
  · rw [heap_setCell_same w3 _ 1 _ _ _ hbx]
    rfl
  · rw [Below.heap_setCell _ _ _ _ (by simp; omega)]
    exact K _ _ _ _ h.rs (by decide)

theorem chk_bad (s : ByteArray) (w w' : World) (h : 400 < s.size) (hb : Below w.heap.size w w') : ChkOut s w (.returned (.tuple #[.agg #[.string ⟨#[]⟩, .slice none 0 0], .slice none 0 0, .int .i64 5])) w' := by
  have hbad : chkBad s = true := by simp [chkBad, h]
  have e1 : ckN s = .empty := by rw [ckN, if_pos hbad]
  have e2 : ckL s = [] := by rw [ckL, if_pos hbad]
  have e3 : ckP s = [] := by rw [ckP, if_pos h]
  have e4 : ckC s = 5 := by rw [ckC, if_pos h]
  refine ⟨.slice none 0 0, .slice none 0 0, by rw [e1, e4]; rfl, ?_, ?_, hb⟩
  · rw [e2]; exact ⟨rfl, .inl ⟨rfl, rfl⟩⟩
  · rw [e3]; exact ⟨rfl, .inl ⟨rfl, rfl⟩⟩
theorem chk_probs (s : ByteArray) (w w' : World) (h : ¬ 400 < s.size) (pv : Value) (hp : probsTo (wordsB s) (wordsB s).length ≠ []) (ho : w'.ownsRow w.heap.size 73 2 pv (probsTo (wordsB s) (wordsB s).length).length (prVals (probsTo (wordsB s) (wordsB s).length))) (hb : Below w.heap.size w w') :
    ChkOut s w (.returned (.tuple #[.agg #[.string ⟨#[]⟩, .slice none 0 0], pv, .int .i64 0])) w' := by
  have hbad : chkBad s = true := by
    have : (chkP s).isEmpty = false := by cases hq : chkP s with | nil => exact absurd hq hp | cons a b => rfl
    simp [chkBad, this]
  have e1 : ckN s = .empty := by rw [ckN, if_pos hbad]
  have e2 : ckL s = [] := by rw [ckL, if_pos hbad]
  have e3 : ckP s = probsTo (wordsB s) (wordsB s).length := by rw [ckP, if_neg h]; rfl
  have e4 : ckC s = 0 := by rw [ckC, if_neg h]
  refine ⟨.slice none 0 0, pv, by rw [e1, e4]; rfl, ?_, ?_, hb⟩
  · rw [e2]; exact ⟨rfl, .inl ⟨rfl, rfl⟩⟩
  · rw [e3]; exact ho
theorem chk_good (s : ByteArray) (w w' : World) (h : ¬ 400 < s.size) (cv pv : Value) (hp : probsTo (wordsB s) (wordsB s).length = []) (hpv : w'.ownsRow w.heap.size 73 2 pv 0 []) (ho : w'.ownsRow w.heap.size 68 2 cv (cosI (wordsB s) (wordsB s).length).length (coVals (cosI (wordsB s) (wordsB s).length))) (hb : Below w.heap.size w w') :
    ChkOut s w (.returned (.tuple #[.agg #[.string ((wordsB s).getD 0 .empty), cv], pv, .int .i64 0])) w' := by
  have hbad : ¬ chkBad s = true := by
    have e : chkP s = [] := hp
    simp only [chkBad, e]
    simp
    omega
  have e1 : ckN s = (wordsB s).getD 0 .empty := by rw [ckN, if_neg hbad]
  have e2 : ckL s = cosI (wordsB s) (wordsB s).length := by rw [ckL, if_neg hbad, cosI_eq hp]
  have e3 : ckP s = [] := by rw [ckP, if_neg h]; exact hp
  have e4 : ckC s = 0 := by rw [ckC, if_neg h]
  refine ⟨cv, pv, by rw [e1, e4], ?_, ?_, hb⟩
  · rw [e2]; exact ho
  · rw [e3]; exact hpv
theorem words_length (s : ByteArray) : 1 ≤ (wordsB s).length ∧ (wordsB s).length ≤ s.size + 1 := by
  refine ⟨?_, ?_⟩
  · have := splitB_count 32 s
    show 1 ≤ (partsOf s 32).length
    omega
  · show (cutParts s (cutsC s 32 s.size 0 0)).length ≤ _
    have := cuts_length s 32 s.size 0 0
    simp [cutParts]; omega
theorem word_size {s x : ByteArray} {i : Nat} (h : (wordsB s)[i]? = some x) : x.size ≤ s.size := part_size (List.mem_of_getElem? h)
end Go.Proofs.YtgffgcobgjngnaaDoor
