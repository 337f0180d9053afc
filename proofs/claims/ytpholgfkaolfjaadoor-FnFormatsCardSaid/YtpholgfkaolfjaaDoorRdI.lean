/-
  ReadClay: the program's answer.
-/
import Derived.Test.YtpholgfkaolfjaaDoorRdS
import Derived.Test.YtpholgfkaolfjaaDoorNumI
import Derived.Test.YtpholgfkaolfjaaDoorSplitI
import Derived.Test.YtpholgfkaolfjaaDoorClTxtJ
namespace Go.Proofs.YtpholgfkaolfjaaDoor
open Go.ChangeShapes Go.WideShapes Go.ChangeAt Go.RowKit Go.Joins


theorem word_size {s x : ByteArray} (h : x ∈ wordsOf s) : x.size ≤ s.size := by
  rw [← parts_words s] at h
  have h2 := (List.mem_filter.1 h).1
  unfold cutParts at h2
  obtain ⟨q, _, rfl⟩ := List.mem_map.1 h2
  rw [ByteArray.size_extract]
  omega
theorem gSynC : Tryd.prog.globalNamed "strconv.ErrSyntax" = some 2 := by kernel_rfl

/-- The box of a clay. -/
def RdBox (B : Nat) (nm : ByteArray) (a b c d : Int) (w : World) : Prop :=
  w.cell? ⟨B, 0, none⟩ = some (.string nm) ∧ w.cell? ⟨B, 1, none⟩ = some (.int .i64 a) ∧ w.cell? ⟨B, 2, none⟩ = some (.int .i64 b) ∧ w.cell? ⟨B, 3, none⟩ = some (.int .i64 c) ∧ w.cell? ⟨B, 4, none⟩ = some (.int .i64 d) ∧ w.there B 0 5
theorem RdBox.later {B : Nat} {nm : ByteArray} {a b c d : Int} {w w' : World} (h : RdBox B nm a b c d w) (hb : Below w.heap.size w w') : RdBox B nm a b c d w' := by
  obtain ⟨h0, h1, h2, h3, h4, h5⟩ := h
  have hl := World.block_lt_of_cell? w _ h0
  exact ⟨(hb.cell (p := ⟨B, 0, none⟩) hl).trans h0, (hb.cell (p := ⟨B, 1, none⟩) hl).trans h1, (hb.cell (p := ⟨B, 2, none⟩) hl).trans h2, (hb.cell (p := ⟨B, 3, none⟩) hl).trans h3, (hb.cell (p := ⟨B, 4, none⟩) hl).trans h4, there_below h5 hb⟩
theorem RdBox.set1 {B : Nat} {nm : ByteArray} {a b c d : Int} {w : World} (h : RdBox B nm a b c d w) (x : Int) : RdBox B nm x b c d (w.setCell ⟨B, 1, none⟩ (.int .i64 x)) := by
  obtain ⟨h0, h1, h2, h3, h4, h5⟩ := h
  refine ⟨?_, ?_, ?_, ?_, ?_, (int_store h5 (by omega) _).1⟩ <;> first | exact World.cell?_setCell_same _ _ _ h1 | exact (World.cell?_setCell_other _ _ _ _ (by simp)).trans (by assumption)
theorem RdBox.set2 {B : Nat} {nm : ByteArray} {a b c d : Int} {w : World} (h : RdBox B nm a b c d w) (x : Int) : RdBox B nm a x c d (w.setCell ⟨B, 2, none⟩ (.int .i64 x)) := by
  obtain ⟨h0, h1, h2, h3, h4, h5⟩ := h
  refine ⟨?_, ?_, ?_, ?_, ?_, (int_store h5 (by omega) _).1⟩ <;> first | exact World.cell?_setCell_same _ _ _ h2 | exact (World.cell?_setCell_other _ _ _ _ (by simp)).trans (by assumption)
theorem RdBox.set3 {B : Nat} {nm : ByteArray} {a b c d : Int} {w : World} (h : RdBox B nm a b c d w) (x : Int) : RdBox B nm a b x d (w.setCell ⟨B, 3, none⟩ (.int .i64 x)) := by
  obtain ⟨h0, h1, h2, h3, h4, h5⟩ := h
  refine ⟨?_, ?_, ?_, ?_, ?_, (int_store h5 (by omega) _).1⟩ <;> first | exact World.cell?_setCell_same _ _ _ h3 | exact (World.cell?_setCell_other _ _ _ _ (by simp)).trans (by assumption)
theorem RdBox.set4 {B : Nat} {nm : ByteArray} {a b c d : Int} {w : World} (h : RdBox B nm a b c d w) (x : Int) : RdBox B nm a b c x (w.setCell ⟨B, 4, none⟩ (.int .i64 x)) := by
  obtain ⟨h0, h1, h2, h3, h4, h5⟩ := h
  refine ⟨?_, ?_, ?_, ?_, ?_, (int_store h5 (by omega) _).1⟩ <;> first | exact World.cell?_setCell_same _ _ _ h4 | exact (World.cell?_setCell_other _ _ _ _ (by simp)).trans (by assumption)
/-- The row of the four fields' addresses. -/
def RdPtr (Q B : Nat) (w : World) : Prop :=
  w.cell? ⟨Q, 0, none⟩ = some (.pointer (some ⟨B, 1, none⟩)) ∧ w.cell? ⟨Q, 1, none⟩ = some (.pointer (some ⟨B, 2, none⟩)) ∧ w.cell? ⟨Q, 2, none⟩ = some (.pointer (some ⟨B, 3, none⟩)) ∧ w.cell? ⟨Q, 3, none⟩ = some (.pointer (some ⟨B, 4, none⟩))
theorem RdPtr.later {Q B : Nat} {w w' : World} (h : RdPtr Q B w) (hb : Below w.heap.size w w') : RdPtr Q B w' := by
  obtain ⟨h0, h1, h2, h3⟩ := h
  have hl := World.block_lt_of_cell? w _ h0
  exact ⟨(hb.cell (p := ⟨Q, 0, none⟩) hl).trans h0, (hb.cell (p := ⟨Q, 1, none⟩) hl).trans h1, (hb.cell (p := ⟨Q, 2, none⟩) hl).trans h2, (hb.cell (p := ⟨Q, 3, none⟩) hl).trans h3⟩
theorem RdPtr.set {Q B : Nat} {w : World} (h : RdPtr Q B w) (hn : B ≠ Q) (o : Nat) (v : Value) : RdPtr Q B (w.setCell ⟨B, o, none⟩ v) := by
  obtain ⟨h0, h1, h2, h3⟩ := h
  exact ⟨(World.cell?_setCell_far _ _ _ _ hn).trans h0, (World.cell?_setCell_far _ _ _ _ hn).trans h1, (World.cell?_setCell_far _ _ _ _ hn).trans h2, (World.cell?_setCell_far _ _ _ _ hn).trans h3⟩
theorem rdPtr_new (w : World) (B : Nat) (t : TypeId) : RdPtr w.heap.size B (w.alloc (.cells #[.pointer (some ⟨B, 1, none⟩), .pointer (some ⟨B, 2, none⟩), .pointer (some ⟨B, 3, none⟩), .pointer (some ⟨B, 4, none⟩)] t)) := by
  refine ⟨?_, ?_, ?_, ?_⟩ <;> (rw [cell_of_row _ _ _ _ t (0, 0) (heap_alloc_new w _)]; rfl)
/-- What the first k of four numbers hold. -/
def sel (k j : Nat) (v : Int) : Int := if j < k then v else 0

end Go.Proofs.YtpholgfkaolfjaaDoor
