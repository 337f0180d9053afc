/-
  The model's drawn moulds: a mould, and its spoiling.
-/
import Derived.Test.YtdandhmallbemaaDoorDrA
import Derived.Test.YtdandhmallbemaaDoorDraw2
import Derived.Test.YtdandhmallbemaaDoorMoV
namespace Go.Proofs.YtdandhmallbemaaDoor
open Go.ChangeShapes Go.WideShapes Go.ChangeAt Go.RowKit Go.Joins

/-- A mould has been drawn. -/
def MoDrawn (w0 w : World) (B : Nat) (cv : Value) (k : Nat) (e : Ending) (w' : World) : Prop :=
  ∃ c : Mo, e = .returned (.agg #[.int .i64 c.le, .int .i64 c.wi, .int .i64 c.he, .int .i64 c.us]) ∧ Src w0 w' B cv k ∧ Touch B w w'

set_option maxHeartbeats 3200000 in
theorem draw_mould (w0 w : World) (B : Nat) (cv : Value) (k : Nat) (hk : k ≤ 900000) (hB : B < w0.heap.size) (hw : w0.heap.size ≤ w.heap.size) (h : Src w0 w B cv k) :
    Calls Tryd.prog 50 #[.pointer (some ⟨B, 0, none⟩)] w (MoDrawn w0 w B cv (k + 8)) := by
  have HS := Lib.hid h
  clear h
  have hne : w.heap.size ≠ B := by omega
  go_enter Tryd.func50, Tryd.ntmps50
  go_wp2_with fail
  refine (src_pick w0 _ B cv k 60 (by omega) (by omega) (by omega) (HS.out.alloc _)).mono ?_
  rintro e w1 ⟨r1, a1, b1, rfl, h1, t1⟩
  have z1 : w.heap.size < w1.heap.size := by have := t1.size; simp at this; omega
  have R1 := Lib.hid ((t1.block w.heap.size (by simp) hne).trans (heap_alloc_new w _))
  have T1 := Lib.hid ((touch_alloc B w _).trans t1)
  have H1 := Lib.hid h1
  clear h1 t1
  have hn1 : w1.heap.size ≠ B := by omega
  go_wp2_with fail
  refine (src_pick w0 _ B cv (k + 2) 40 (by omega) (by omega) (by omega) (H1.out.alloc _)).mono ?_
  rintro e w2 ⟨r2, a2, b2, rfl, h2, t2⟩
  have z2 : w1.heap.size < w2.heap.size := by have := t2.size; simp at this; omega
  have F2 := Lib.hid ((t2.block w1.heap.size (by simp) hn1).trans (heap_alloc_new w1 _))
  have R2 := Lib.hid ((t2.block w.heap.size (by simp; omega) hne).trans ((Below.heap_alloc w1 _ _ z1).trans R1.out))
  have T2 := Lib.hid ((T1.out.trans (touch_alloc B w1 _)).trans t2)
  have H2 := Lib.hid h2
  clear h2 t2
  have c21 : w2.cell? ⟨w1.heap.size, 1, none⟩ = some (.int .i64 0) := by rw [cell_of_block F2.out]; rfl
  have f21 : w2.frozen? ⟨w1.heap.size, 1, none⟩ = false := unfrozen_of_block F2.out 1
  go_wp2_with fail
  refine (src_pick w0 _ B cv (k + 4) 40 (by omega) (by omega) (by omega) (H2.out.setCell hB (by omega) _ _)).mono ?_
  rintro e w3 ⟨r3, a3, b3, rfl, h3, t3⟩
  have z3 : w1.heap.size < w3.heap.size := by have := t3.size; simp [World.setCell] at this; omega
  have F3 := Lib.hid ((t3.block w1.heap.size (by simpa [World.setCell] using z2) hn1).trans (block_setCell (i := 1) F2.out (.int .i64 (100 + r2))))
  have R3 := Lib.hid ((t3.block w.heap.size (by simp [World.setCell]; omega) hne).trans ((Below.heap_setCell w2 ⟨w1.heap.size, 1, none⟩ (.int .i64 (100 + r2)) w.heap.size (by show w.heap.size ≠ w1.heap.size; omega)).trans R2.out))
  have T3 := Lib.hid ((touch_setCell B w1.heap.size 1 w w2 (.int .i64 (100 + r2)) T2.out (by omega)).trans t3)
  have H3 := Lib.hid h3
  clear h3 t3 c21 f21
  have c32 : w3.cell? ⟨w1.heap.size, 2, none⟩ = some (.int .i64 0) := by rw [cell_of_block F3.out]; rfl
  have f32 : w3.frozen? ⟨w1.heap.size, 2, none⟩ = false := unfrozen_of_block F3.out 2
  go_wp2_with fail
  refine (src_pick w0 _ B cv (k + 6) 12 (by omega) (by omega) (by omega) (H3.out.setCell hB (by omega) _ _)).mono ?_
  rintro e w4 ⟨r4, a4, b4, rfl, h4, t4⟩
  have z4 : w1.heap.size < w4.heap.size := by have := t4.size; simp [World.setCell] at this; omega
  have F4 := Lib.hid ((t4.block w1.heap.size (by simpa [World.setCell] using z3) hn1).trans (block_setCell (i := 2) F3.out (.int .i64 (60 + r3))))
  have R4 := Lib.hid ((t4.block w.heap.size (by simp [World.setCell]; omega) hne).trans ((Below.heap_setCell w3 ⟨w1.heap.size, 2, none⟩ (.int .i64 (60 + r3)) w.heap.size (by show w.heap.size ≠ w1.heap.size; omega)).trans R3.out))
  have T4 := Lib.hid ((touch_setCell B w1.heap.size 2 w w3 (.int .i64 (60 + r3)) T3.out (by omega)).trans t4)
  have H4 := Lib.hid h4
  clear h4 t4 c32 f32
  have F5 := Lib.hid (block_setCell (i := 3) F4.out (.int .i64 (10 * r4)))
  have R5 := Lib.hid ((Below.heap_setCell w4 ⟨w1.heap.size, 3, none⟩ (.int .i64 (10 * r4)) w.heap.size (by show w.heap.size ≠ w1.heap.size; omega)).trans R4.out)
  have T5 := Lib.hid (touch_setCell B w1.heap.size 3 w w4 (.int .i64 (10 * r4)) T4.out (by omega))
  have H5 := Lib.hid (H4.out.setCell hB (show w0.heap.size ≤ w1.heap.size by omega) 3 (.int .i64 (10 * r4)))
  have c43 : w4.cell? ⟨w1.heap.size, 3, none⟩ = some (.int .i64 0) := by rw [cell_of_block F4.out]; rfl
  have f43 : w4.frozen? ⟨w1.heap.size, 3, none⟩ = false := unfrozen_of_block F4.out 3
  have g0 : (w4.setCell ⟨w1.heap.size, 3, none⟩ (.int .i64 (10 * r4))).cell? ⟨w1.heap.size, 0, none⟩ = some (.int .i64 (200 + r1)) := by rw [cell_of_block F5.out]; rfl
  have g1 : (w4.setCell ⟨w1.heap.size, 3, none⟩ (.int .i64 (10 * r4))).cell? ⟨w1.heap.size, 1, none⟩ = some (.int .i64 (100 + r2)) := by rw [cell_of_block F5.out]; rfl
  have g2 : (w4.setCell ⟨w1.heap.size, 3, none⟩ (.int .i64 (10 * r4))).cell? ⟨w1.heap.size, 2, none⟩ = some (.int .i64 (60 + r3)) := by rw [cell_of_block F5.out]; rfl
  have g3 : (w4.setCell ⟨w1.heap.size, 3, none⟩ (.int .i64 (10 * r4))).cell? ⟨w1.heap.size, 3, none⟩ = some (.int .i64 (10 * r4)) := by rw [cell_of_block F5.out]; rfl
  have d0 : (w4.setCell ⟨w1.heap.size, 3, none⟩ (.int .i64 (10 * r4))).cell? ⟨w.heap.size, 0, none⟩ = some (.int .i64 0) := (cell_of_block R5.out 0).trans rfl
  have d1 : (w4.setCell ⟨w1.heap.size, 3, none⟩ (.int .i64 (10 * r4))).cell? ⟨w.heap.size, 1, none⟩ = some (.int .i64 0) := (cell_of_block R5.out 1).trans rfl
  have d2 : (w4.setCell ⟨w1.heap.size, 3, none⟩ (.int .i64 (10 * r4))).cell? ⟨w.heap.size, 2, none⟩ = some (.int .i64 0) := (cell_of_block R5.out 2).trans rfl
  have d3 : (w4.setCell ⟨w1.heap.size, 3, none⟩ (.int .i64 (10 * r4))).cell? ⟨w.heap.size, 3, none⟩ = some (.int .i64 0) := (cell_of_block R5.out 3).trans rfl
  have q0 : (w4.setCell ⟨w1.heap.size, 3, none⟩ (.int .i64 (10 * r4))).frozen? ⟨w.heap.size, 0, none⟩ = false := unfrozen_of_block R5.out 0
  have q1 : (w4.setCell ⟨w1.heap.size, 3, none⟩ (.int .i64 (10 * r4))).frozen? ⟨w.heap.size, 1, none⟩ = false := unfrozen_of_block R5.out 1
  have q2 : (w4.setCell ⟨w1.heap.size, 3, none⟩ (.int .i64 (10 * r4))).frozen? ⟨w.heap.size, 2, none⟩ = false := unfrozen_of_block R5.out 2
  have q3 : (w4.setCell ⟨w1.heap.size, 3, none⟩ (.int .i64 (10 * r4))).frozen? ⟨w.heap.size, 3, none⟩ = false := unfrozen_of_block R5.out 3
  go_wp2_with fail
  refine bodyPost_ret (v := .agg #[.int .i64 (200 + r1), .int .i64 (100 + r2), .int .i64 (60 + r3), .int .i64 (10 * r4)]) (by simp [results, Tryd.results50, go_sem, d0, d1, d2, d3]) rfl ⟨⟨200 + r1, 100 + r2, 60 + r3, 10 * r4⟩, rfl, ?_, ?_⟩
  · exact (((H5.out.setCell hB hw 0 _).setCell hB hw 1 _).setCell hB hw 2 _).setCell hB hw 3 _
  · exact touch_setCell B _ _ w _ _ (touch_setCell B _ _ w _ _ (touch_setCell B _ _ w _ _ (touch_setCell B _ _ w _ _ T5.out (Nat.le_refl _)) (Nat.le_refl _)) (Nat.le_refl _)) (Nat.le_refl _)

/-- A row of moulds of the call's own is as it was where the source alone has turned. -/
theorem row_touch {B b e size n : Nat} {v : Value} {xs : List Value} {w w' : World} (h : w.ownsRow b e size v n xs) (ht : Touch B w w') (hb : B < b) : w'.ownsRow b e size v n xs := by
  refine ⟨h.1, ?_⟩
  rcases h.2 with hn | ⟨g, cap, cur, hv, hB, hgg, rest⟩
  · exact .inl hn
  · exact .inr ⟨g, cap, cur, hv, hB, (ht.block g (Array.getElem?_eq_some_iff.1 hgg).1 (by omega)).trans hgg, rest⟩
theorem Src.grown {w0 w w1 : World} {B e size n k : Nat} {cv v : Value} {xs : List Value} (h : Src w0 w B cv k) (hB : B < w0.heap.size) (ho : w.ownsRow w0.heap.size e size v n xs) (hg : w.grownBy w1 v.ownBlock) : Src w0 w1 B cv k := by
  have hne : ∀ i, i < w0.heap.size → some i ≠ v.ownBlock := fun i hi he => by have := (ho.lt i he.symm).1; omega
  obtain ⟨a, s, h1, h2⟩ := h.at'
  refine ⟨⟨a, s, h1, (hg.block B h.lt (hne B hB)).trans h2⟩, ?_, ?_, Nat.lt_of_lt_of_le h.lt hg.size⟩
  · rcases h.code with hc | ⟨b', o', len, cap, z, e1, e2, e3, e4⟩
    · exact .inl hc
    · refine .inr ⟨b', o', len, cap, z, e1, e2, e3, fun i hi => ⟨(World.cell?_of_block (w := w) (a := ⟨b', o' + i, none⟩) (hg.block b' (by have := h.lt; omega) (hne b' (by omega)))).trans (e4 i hi).1, (e4 i hi).2⟩⟩
  · exact h.touch.trans' w1 hg.os hg.tape hg.output hg.size (fun i hi => hg.block i (by have := h.touch.size; omega) (hne i hi))
end Go.Proofs.YtdandhmallbemaaDoor
