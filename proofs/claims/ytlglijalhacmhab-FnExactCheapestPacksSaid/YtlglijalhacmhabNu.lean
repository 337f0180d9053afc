/-
  A row of numbers that a function makes, of its own: read and written in place.
-/
import Derived.Test.YtlglijalhacmhabInts
import Derived.Test.YtlglijalhacmhabAll
import Derived.OneCell
namespace Go.Proofs.Ytlglijalhacmhab
open Go.ChangeShapes Go.WideShapes Go.ChangeAt Go.RowKit Go.Joins

theorem make_nuz (n : Nat) (hn : n ≤ 1048576) (w : World) : (Instr.makeSlice 23 (.int .i64 (n : Int)) (.int .i64 (n : Int))).run Try.prog w = .ok (.slice (some ⟨w.heap.size, 0, none⟩) n n) (w.alloc (.cells (madeCells #[.int .i64 0] n) 2)) :=
  run_make_row' (P := Try.prog) 23 2 (.int .i64 0) 8 Try.underlying23 infoInt rfl .i64 .i64 n (by omega) (by omega) w
/-- A row of numbers of the call's own, its length and its room n. -/
def NzOwn (B g n : Nat) (O : List Int) (w : World) : Prop := O.length = n ∧ w.ownsRow B 2 1 (.slice (some ⟨g, 0, none⟩) n n) n (intVals O)
theorem NzOwn.cell {B g n k : Nat} {O : List Int} {w : World} (h : NzOwn B g n O w) (hk : k < n) : w.cell? ⟨g, k, none⟩ = some (.int .i64 (O.getD k 0)) := by
  rw [World.ownsRow.cellAt h.2 k (by omega)]
  show (O.map (Value.int .i64))[k]? = _
  rw [List.getElem?_map, some_getD (by rw [h.1]; exact hk)]
  rfl
theorem NzOwn.frozen {B g n k : Nat} {O : List Int} {w : World} (h : NzOwn B g n O w) : w.frozen? ⟨g, k, none⟩ = false := World.ownsRow.frozenAt h.2 k
theorem NzOwn.put {B g n k : Nat} {O : List Int} {w : World} (h : NzOwn B g n O w) (x : Int) : NzOwn B g n (O.set k x) (w.setCell ⟨g, k, none⟩ (.int .i64 x)) := by
  refine ⟨by simp [h.1], ?_⟩
  have e : intVals (O.set k x) = (intVals O).set k (.int .i64 x) := by simp [intVals, List.map_set]
  rw [e]
  exact (h.2.stored k _).1
theorem NzOwn.base {B g n : Nat} {O : List Int} {w : World} (h : NzOwn B g n O w) : B ≤ g := own_base8 h.2
theorem NzOwn.new {B n : Nat} {w : World} (hB : B ≤ w.heap.size) (hn : n ≤ 1048576) : NzOwn B w.heap.size n (List.replicate n 0) (w.alloc (.cells (madeCells #[.int .i64 0] n) 2)) := by
  refine ⟨by simp, by simp [intVals], .inr ⟨w.heap.size, n, _, rfl, hB, heap_alloc_new w _, Nat.le_refl _, by unfold maxLen; omega, by simp [size_madeCells], ?_⟩⟩
  rw [toList_madeCells_one]
  simp [intVals]
theorem NzOwn.later {B g n : Nat} {O : List Int} {w w' : World} (h : NzOwn B g n O w) (hb : Below w.heap.size w w') : NzOwn B g n O w' := by
  refine ⟨h.1, h.2.1, ?_⟩
  rcases h.2.2 with hn | ⟨g', cap, cur, hv, hB, hgg, rest⟩
  · exact .inl hn
  · exact .inr ⟨g', cap, cur, hv, hB, (hb.block g' (Array.getElem?_eq_some_iff.1 hgg).1).trans hgg, rest⟩
theorem NzOwn.lt {B g n : Nat} {O : List Int} {w : World} (h : NzOwn B g n O w) : g < w.heap.size := (h.2.lt g rfl).2
theorem NzOwn.own {B g n : Nat} {O : List Int} {w : World} (h : NzOwn B g n O w) : IntOwn B O g w := by
  refine ⟨h.base, fun k z hk => ?_, fun j hj => ?_, h.lt⟩
  · have hl := (List.getElem?_eq_some_iff.1 hk).1
    have hc := h.cell (k := k) (by rw [← h.1]; exact hl)
    rw [Nat.zero_add, hc, getD_of hk]
  · rw [Nat.zero_add]
    refine ⟨?_, h.frozen⟩
    rw [h.cell (by rw [← h.1]; exact hj)]
    simp
/-- A store into another block. -/
theorem NzOwn.set {B g n b o : Nat} {O : List Int} {u : Value} {w : World} (h : NzOwn B g n O w) (hne : g ≠ b) : NzOwn B g n O (w.setCell ⟨b, o, none⟩ u) :=
  ⟨h.1, ownsRow_setCell_other h.2 (fun e => hne (by simpa [Value.ownBlock] using e)) u⟩
theorem set_getD_ne {O : List Int} {n i : Nat} {v : Int} (h : ¬ i = n) : (O.set n v).getD i 0 = O.getD i 0 := by
  rw [List.getD_eq_getElem?_getD, List.getElem?_set_ne (fun e => h e.symm), ← List.getD_eq_getElem?_getD]
theorem set_getD_self {O : List Int} {n : Nat} {v : Int} (h : n < O.length) : (O.set n v).getD n 0 = v := by
  rw [List.getD_eq_getElem?_getD, List.getElem?_set_self h]; rfl
end Go.Proofs.Ytlglijalhacmhab
