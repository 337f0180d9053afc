/-
  ShareUses: the row of shares in memory.
-/
import Derived.Test.YtdandhmallbemaaDoorSuP
import Derived.Test.YtdandhmallbemaaDoorInts
import Derived.Test.YtdandhmallbemaaDoorMoV
namespace Go.Proofs.YtdandhmallbemaaDoor
open Go.ChangeShapes Go.WideShapes Go.ChangeAt Go.RowKit Go.Joins

theorem make_nums (n : Nat) (hn : n ≤ 1048576) (w : World) : (Instr.makeSlice 27 (.int .i64 (n : Int)) (.int .i64 (n : Int))).run Tryd.prog w = .ok (.slice (some ⟨w.heap.size, 0, none⟩) n n) (w.alloc (.cells (madeCells #[.int .i64 0] n) 2)) :=
  run_make_row' (P := Tryd.prog) 27 2 (.int .i64 0) 8 Tryd.underlying27 infoInt rfl .i64 .i64 n (by omega) (by omega) w
/-- A row of numbers of the call's own, its length and its room n. -/
def NuOwn (B g n : Nat) (O : List Int) (w : World) : Prop := O.length = n ∧ w.ownsRow B 2 1 (.slice (some ⟨g, 0, none⟩) n n) n (intVals O)
theorem NuOwn.cell {B g n k : Nat} {O : List Int} {w : World} (h : NuOwn B g n O w) (hk : k < n) : w.cell? ⟨g, k, none⟩ = some (.int .i64 (og O k)) := by
  rw [World.ownsRow.cellAt h.2 k (by omega)]
  show (O.map (Value.int .i64))[k]? = _
  rw [List.getElem?_map, og_get (by rw [h.1]; exact hk)]
  rfl
theorem NuOwn.frozen {B g n k : Nat} {O : List Int} {w : World} (h : NuOwn B g n O w) : w.frozen? ⟨g, k, none⟩ = false := World.ownsRow.frozenAt h.2 k
theorem NuOwn.put {B g n k : Nat} {O : List Int} {w : World} (h : NuOwn B g n O w) (x : Int) : NuOwn B g n (O.set k x) (w.setCell ⟨g, k, none⟩ (.int .i64 x)) := by
  refine ⟨by simp [h.1], ?_⟩
  have e : intVals (O.set k x) = (intVals O).set k (.int .i64 x) := by simp [intVals, List.map_set]
  rw [e]
  exact (h.2.stored k _).1
theorem NuOwn.base {B g n : Nat} {O : List Int} {w : World} (h : NuOwn B g n O w) : B ≤ g := own_base8 h.2
theorem NuOwn.new {B n : Nat} {w : World} (hB : B ≤ w.heap.size) (hn : n ≤ 1048576) : NuOwn B w.heap.size n (List.replicate n 0) (w.alloc (.cells (madeCells #[.int .i64 0] n) 2)) := by
  refine ⟨by simp, by simp [intVals], .inr ⟨w.heap.size, n, _, rfl, hB, heap_alloc_new w _, Nat.le_refl _, by unfold maxLen; omega, by simp [size_madeCells], ?_⟩⟩
  rw [toList_madeCells_one]
  simp [intVals]
theorem NuOwn.later {B g n : Nat} {O : List Int} {w w' : World} (h : NuOwn B g n O w) (hb : Below w.heap.size w w') : NuOwn B g n O w' := by
  refine ⟨h.1, h.2.1, ?_⟩
  rcases h.2.2 with hn | ⟨g', cap, cur, hv, hB, hgg, rest⟩
  · exact .inl hn
  · exact .inr ⟨g', cap, cur, hv, hB, (hb.block g' (Array.getElem?_eq_some_iff.1 hgg).1).trans hgg, rest⟩
theorem NuOwn.lt {B g n : Nat} {O : List Int} {w : World} (h : NuOwn B g n O w) : g < w.heap.size := (h.2.lt g rfl).2
theorem NuOwn.own {B g n : Nat} {O : List Int} {w : World} (h : NuOwn B g n O w) : IntOwn B O g w := by
  refine ⟨h.base, fun k z hk => ?_, fun j hj => ?_, h.lt⟩
  · have hl := (List.getElem?_eq_some_iff.1 hk).1
    have hc := h.cell (k := k) (by rw [← h.1]; exact hl)
    rw [Nat.zero_add, hc]
    have := og_get hl
    rw [hk] at this
    rw [Option.some.inj this]
  · rw [Nat.zero_add]
    refine ⟨?_, h.frozen⟩
    rw [h.cell (by rw [← h.1]; exact hj)]
    simp
/-- A mould's uses where a list lies. -/
theorem uses_cell {w : World} {b o : Nat} {L : List Mo} (h : MoAt w b o L) {k : Nat} (hk : k < L.length) : w.cell? ⟨b, o + k * 4 + 3, none⟩ = some (.int .i64 (usA L k)) := (h.cells (atM_get hk)).2.2.2
theorem uses_range {L : List Mo} (h : okMos L = true) {k : Nat} (hk : k < L.length) : 0 ≤ usA L k ∧ usA L k ≤ 100000 := (Mo.ok_facts ((okMos_all h).2 k _ (atM_get hk))).2.2.2
end Go.Proofs.YtdandhmallbemaaDoor
