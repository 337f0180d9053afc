/-
  The model's drawn format that is seldom not valid.
-/
import Derived.Test.YtdandhmallbemaaDoorDrO
namespace Go.Proofs.YtdandhmallbemaaDoor
open Go.ChangeShapes Go.WideShapes Go.ChangeAt Go.RowKit Go.Joins

/-- A format has been drawn. -/
def FmtBent (w0 w : World) (B : Nat) (cv : Value) (k : Nat) (e : Ending) (w' : World) : Prop :=
  ∃ l wd ht j : Int, e = .returned (.agg #[.int .i64 l, .int .i64 wd, .int .i64 ht, .int .i64 j]) ∧ Src w0 w' B cv k ∧ Touch B w w'

set_option maxRecDepth 100000 in
set_option maxHeartbeats 6400000 in
theorem fmt_bent (w0 w : World) (B : Nat) (cv : Value) (k : Nat) (hk : k ≤ 800000) (hB : B < w0.heap.size) (hw : w0.heap.size ≤ w.heap.size) (h : Src w0 w B cv k) :
    Calls Tryd.prog 35 #[.pointer (some ⟨B, 0, none⟩)] w (FmtBent w0 w B cv (k + 30)) := by
  have HS := Lib.hid h
  clear h
  have hne : w.heap.size ≠ B := by omega
  go_enter Tryd.func35, Tryd.ntmps35
  go_wp2_with fail
  refine (draw_format w0 _ B cv k (by omega) hB (by simp; omega) (HS.out.alloc _)).mono ?_
  rintro e w1 ⟨l, wd, ht, j, _, rfl, h1, t1⟩
  have z1 : w.heap.size < w1.heap.size := by have := t1.size; simp at this; omega
  have R1 := Lib.hid ((t1.block w.heap.size (by simp) hne).trans (heap_alloc_new w _))
  have T1 := Lib.hid ((touch_alloc B w _).trans t1)
  have H1 := Lib.hid h1
  clear h1 t1
  have hn1 : w1.heap.size ≠ B := by omega
  go_wp2_with fail
  refine (src_pick w0 _ B cv (k + 10) 20 (by omega) (by omega) (by omega) (H1.out.alloc _)).mono ?_
  rintro e w2 ⟨r, ra, rb, rfl, h2, t2⟩
  have z2 : w1.heap.size < w2.heap.size := by have := t2.size; simp at this; omega
  have F2 := Lib.hid ((t2.block w1.heap.size (by simp) hn1).trans (heap_alloc_new w1 _))
  have R2 := Lib.hid ((t2.block w.heap.size (by simp; omega) hne).trans ((Below.heap_alloc w1 _ _ z1).trans R1.out))
  have T2 := Lib.hid ((T1.out.trans (touch_alloc B w1 _)).trans t2)
  have H2 := Lib.hid h2
  clear h2 t2
  have h5 : r = 0 ∨ r = 1 ∨ r = 2 ∨ r = 3 ∨ 3 < r := by omega
  rcases h5 with rfl | rfl | rfl | rfl | h4
  · have cw : w2.cell? ⟨w1.heap.size, 1, none⟩ = some (.int .i64 wd) := by rw [cell_of_block F2.out]; rfl
    have A := Lib.hid (among_lit w0 w2 B cv (k + 10 + 2) [99, 100, 500, 501, wd, -9223372036854775808] 6 rfl (by omega) (by omega) (by omega) (by omega) H2.out)
    go_wp2_with fail
    refine A.out.mono ?_
    rintro e w3 ⟨x, rfl, h3, t3⟩
    have z3 : w1.heap.size < w3.heap.size := by have := t3.size; omega
    have F3 := Lib.hid ((t3.block w1.heap.size z2 hn1).trans F2.out)
    have R3 := Lib.hid ((t3.block w.heap.size (by omega) hne).trans R2.out)
    have T3 := Lib.hid (T2.out.trans t3)
    have H3 := Lib.hid h3
    clear h3 t3 cw
    have c3 : w3.cell? ⟨w1.heap.size, 0, none⟩ = some (.int .i64 l) := by rw [cell_of_block F3.out]; rfl
    have f3 : w3.frozen? ⟨w1.heap.size, 0, none⟩ = false := unfrozen_of_block F3.out 0
    have F4 := Lib.hid (block_setCell (i := 0) F3.out (.int .i64 x))
    have R4 := Lib.hid ((Below.heap_setCell w3 ⟨w1.heap.size, 0, none⟩ (.int .i64 x) w.heap.size (by show w.heap.size ≠ w1.heap.size; omega)).trans R3.out)
    have T4 := Lib.hid (touch_setCell B w1.heap.size 0 w w3 (.int .i64 x) T3.out (by omega))
    have H4 := Lib.hid (H3.out.setCell hB (show w0.heap.size ≤ w1.heap.size by omega) 0 (.int .i64 x))
    have g0 : (w3.setCell ⟨w1.heap.size, 0, none⟩ (.int .i64 x)).cell? ⟨w1.heap.size, 0, none⟩ = some (.int .i64 (x)) := by rw [cell_of_block F4.out]; rfl
    have g1 : (w3.setCell ⟨w1.heap.size, 0, none⟩ (.int .i64 x)).cell? ⟨w1.heap.size, 1, none⟩ = some (.int .i64 (wd)) := by rw [cell_of_block F4.out]; rfl
    have g2 : (w3.setCell ⟨w1.heap.size, 0, none⟩ (.int .i64 x)).cell? ⟨w1.heap.size, 2, none⟩ = some (.int .i64 (ht)) := by rw [cell_of_block F4.out]; rfl
    have g3 : (w3.setCell ⟨w1.heap.size, 0, none⟩ (.int .i64 x)).cell? ⟨w1.heap.size, 3, none⟩ = some (.int .i64 (j)) := by rw [cell_of_block F4.out]; rfl
    have d0 : (w3.setCell ⟨w1.heap.size, 0, none⟩ (.int .i64 x)).cell? ⟨w.heap.size, 0, none⟩ = some (.int .i64 0) := (cell_of_block R4.out 0).trans rfl
    have q0 : (w3.setCell ⟨w1.heap.size, 0, none⟩ (.int .i64 x)).frozen? ⟨w.heap.size, 0, none⟩ = false := unfrozen_of_block R4.out 0
    have d1 : (w3.setCell ⟨w1.heap.size, 0, none⟩ (.int .i64 x)).cell? ⟨w.heap.size, 1, none⟩ = some (.int .i64 0) := (cell_of_block R4.out 1).trans rfl
    have q1 : (w3.setCell ⟨w1.heap.size, 0, none⟩ (.int .i64 x)).frozen? ⟨w.heap.size, 1, none⟩ = false := unfrozen_of_block R4.out 1
    have d2 : (w3.setCell ⟨w1.heap.size, 0, none⟩ (.int .i64 x)).cell? ⟨w.heap.size, 2, none⟩ = some (.int .i64 0) := (cell_of_block R4.out 2).trans rfl
    have q2 : (w3.setCell ⟨w1.heap.size, 0, none⟩ (.int .i64 x)).frozen? ⟨w.heap.size, 2, none⟩ = false := unfrozen_of_block R4.out 2
    have d3 : (w3.setCell ⟨w1.heap.size, 0, none⟩ (.int .i64 x)).cell? ⟨w.heap.size, 3, none⟩ = some (.int .i64 0) := (cell_of_block R4.out 3).trans rfl
    have q3 : (w3.setCell ⟨w1.heap.size, 0, none⟩ (.int .i64 x)).frozen? ⟨w.heap.size, 3, none⟩ = false := unfrozen_of_block R4.out 3
    go_wp2_with fail
    refine bodyPost_ret (v := .agg #[.int .i64 (x), .int .i64 (wd), .int .i64 (ht), .int .i64 (j)]) (by simp [results, Tryd.results35, go_sem, d0, d1, d2, d3]) rfl ⟨x, wd, ht, j, rfl, ?_, ?_⟩
    · exact (((((H4.out.setCell hB hw 0 _).setCell hB hw 1 _).setCell hB hw 2 _).setCell hB hw 3 _)).mono (by omega)
    · exact touch_setCell B _ _ w _ _ (touch_setCell B _ _ w _ _ (touch_setCell B _ _ w _ _ (touch_setCell B _ _ w _ _ T4.out (Nat.le_refl _)) (Nat.le_refl _)) (Nat.le_refl _)) (Nat.le_refl _)
  · have A := Lib.hid (among_lit w0 w2 B cv (k + 10 + 2) [49, 50, 250, 251] 4 rfl (by omega) (by omega) (by omega) (by omega) H2.out)
    go_wp2_with fail
    refine A.out.mono ?_
    rintro e w3 ⟨x, rfl, h3, t3⟩
    have z3 : w1.heap.size < w3.heap.size := by have := t3.size; omega
    have F3 := Lib.hid ((t3.block w1.heap.size z2 hn1).trans F2.out)
    have R3 := Lib.hid ((t3.block w.heap.size (by omega) hne).trans R2.out)
    have T3 := Lib.hid (T2.out.trans t3)
    have H3 := Lib.hid h3
    clear h3 t3
    have c3 : w3.cell? ⟨w1.heap.size, 1, none⟩ = some (.int .i64 wd) := by rw [cell_of_block F3.out]; rfl
    have f3 : w3.frozen? ⟨w1.heap.size, 1, none⟩ = false := unfrozen_of_block F3.out 1
    have F4 := Lib.hid (block_setCell (i := 1) F3.out (.int .i64 x))
    have R4 := Lib.hid ((Below.heap_setCell w3 ⟨w1.heap.size, 1, none⟩ (.int .i64 x) w.heap.size (by show w.heap.size ≠ w1.heap.size; omega)).trans R3.out)
    have T4 := Lib.hid (touch_setCell B w1.heap.size 1 w w3 (.int .i64 x) T3.out (by omega))
    have H4 := Lib.hid (H3.out.setCell hB (show w0.heap.size ≤ w1.heap.size by omega) 1 (.int .i64 x))
    have g0 : (w3.setCell ⟨w1.heap.size, 1, none⟩ (.int .i64 x)).cell? ⟨w1.heap.size, 0, none⟩ = some (.int .i64 (l)) := by rw [cell_of_block F4.out]; rfl
    have g1 : (w3.setCell ⟨w1.heap.size, 1, none⟩ (.int .i64 x)).cell? ⟨w1.heap.size, 1, none⟩ = some (.int .i64 (x)) := by rw [cell_of_block F4.out]; rfl
    have g2 : (w3.setCell ⟨w1.heap.size, 1, none⟩ (.int .i64 x)).cell? ⟨w1.heap.size, 2, none⟩ = some (.int .i64 (ht)) := by rw [cell_of_block F4.out]; rfl
    have g3 : (w3.setCell ⟨w1.heap.size, 1, none⟩ (.int .i64 x)).cell? ⟨w1.heap.size, 3, none⟩ = some (.int .i64 (j)) := by rw [cell_of_block F4.out]; rfl
    have d0 : (w3.setCell ⟨w1.heap.size, 1, none⟩ (.int .i64 x)).cell? ⟨w.heap.size, 0, none⟩ = some (.int .i64 0) := (cell_of_block R4.out 0).trans rfl
    have q0 : (w3.setCell ⟨w1.heap.size, 1, none⟩ (.int .i64 x)).frozen? ⟨w.heap.size, 0, none⟩ = false := unfrozen_of_block R4.out 0
    have d1 : (w3.setCell ⟨w1.heap.size, 1, none⟩ (.int .i64 x)).cell? ⟨w.heap.size, 1, none⟩ = some (.int .i64 0) := (cell_of_block R4.out 1).trans rfl
    have q1 : (w3.setCell ⟨w1.heap.size, 1, none⟩ (.int .i64 x)).frozen? ⟨w.heap.size, 1, none⟩ = false := unfrozen_of_block R4.out 1
    have d2 : (w3.setCell ⟨w1.heap.size, 1, none⟩ (.int .i64 x)).cell? ⟨w.heap.size, 2, none⟩ = some (.int .i64 0) := (cell_of_block R4.out 2).trans rfl
    have q2 : (w3.setCell ⟨w1.heap.size, 1, none⟩ (.int .i64 x)).frozen? ⟨w.heap.size, 2, none⟩ = false := unfrozen_of_block R4.out 2
    have d3 : (w3.setCell ⟨w1.heap.size, 1, none⟩ (.int .i64 x)).cell? ⟨w.heap.size, 3, none⟩ = some (.int .i64 0) := (cell_of_block R4.out 3).trans rfl
    have q3 : (w3.setCell ⟨w1.heap.size, 1, none⟩ (.int .i64 x)).frozen? ⟨w.heap.size, 3, none⟩ = false := unfrozen_of_block R4.out 3
    go_wp2_with fail
    refine bodyPost_ret (v := .agg #[.int .i64 (l), .int .i64 (x), .int .i64 (ht), .int .i64 (j)]) (by simp [results, Tryd.results35, go_sem, d0, d1, d2, d3]) rfl ⟨l, x, ht, j, rfl, ?_, ?_⟩
    · exact (((((H4.out.setCell hB hw 0 _).setCell hB hw 1 _).setCell hB hw 2 _).setCell hB hw 3 _)).mono (by omega)
    · exact touch_setCell B _ _ w _ _ (touch_setCell B _ _ w _ _ (touch_setCell B _ _ w _ _ (touch_setCell B _ _ w _ _ T4.out (Nat.le_refl _)) (Nat.le_refl _)) (Nat.le_refl _)) (Nat.le_refl _)
  · have A := Lib.hid (among_lit w0 w2 B cv (k + 10 + 2) [29, 30, 150, 151] 4 rfl (by omega) (by omega) (by omega) (by omega) H2.out)
    go_wp2_with fail
    refine A.out.mono ?_
    rintro e w3 ⟨x, rfl, h3, t3⟩
    have z3 : w1.heap.size < w3.heap.size := by have := t3.size; omega
    have F3 := Lib.hid ((t3.block w1.heap.size z2 hn1).trans F2.out)
    have R3 := Lib.hid ((t3.block w.heap.size (by omega) hne).trans R2.out)
    have T3 := Lib.hid (T2.out.trans t3)
    have H3 := Lib.hid h3
    clear h3 t3
    have c3 : w3.cell? ⟨w1.heap.size, 2, none⟩ = some (.int .i64 ht) := by rw [cell_of_block F3.out]; rfl
    have f3 : w3.frozen? ⟨w1.heap.size, 2, none⟩ = false := unfrozen_of_block F3.out 2
    have F4 := Lib.hid (block_setCell (i := 2) F3.out (.int .i64 x))
    have R4 := Lib.hid ((Below.heap_setCell w3 ⟨w1.heap.size, 2, none⟩ (.int .i64 x) w.heap.size (by show w.heap.size ≠ w1.heap.size; omega)).trans R3.out)
    have T4 := Lib.hid (touch_setCell B w1.heap.size 2 w w3 (.int .i64 x) T3.out (by omega))
    have H4 := Lib.hid (H3.out.setCell hB (show w0.heap.size ≤ w1.heap.size by omega) 2 (.int .i64 x))
    have g0 : (w3.setCell ⟨w1.heap.size, 2, none⟩ (.int .i64 x)).cell? ⟨w1.heap.size, 0, none⟩ = some (.int .i64 (l)) := by rw [cell_of_block F4.out]; rfl
    have g1 : (w3.setCell ⟨w1.heap.size, 2, none⟩ (.int .i64 x)).cell? ⟨w1.heap.size, 1, none⟩ = some (.int .i64 (wd)) := by rw [cell_of_block F4.out]; rfl
    have g2 : (w3.setCell ⟨w1.heap.size, 2, none⟩ (.int .i64 x)).cell? ⟨w1.heap.size, 2, none⟩ = some (.int .i64 (x)) := by rw [cell_of_block F4.out]; rfl
    have g3 : (w3.setCell ⟨w1.heap.size, 2, none⟩ (.int .i64 x)).cell? ⟨w1.heap.size, 3, none⟩ = some (.int .i64 (j)) := by rw [cell_of_block F4.out]; rfl
    have d0 : (w3.setCell ⟨w1.heap.size, 2, none⟩ (.int .i64 x)).cell? ⟨w.heap.size, 0, none⟩ = some (.int .i64 0) := (cell_of_block R4.out 0).trans rfl
    have q0 : (w3.setCell ⟨w1.heap.size, 2, none⟩ (.int .i64 x)).frozen? ⟨w.heap.size, 0, none⟩ = false := unfrozen_of_block R4.out 0
    have d1 : (w3.setCell ⟨w1.heap.size, 2, none⟩ (.int .i64 x)).cell? ⟨w.heap.size, 1, none⟩ = some (.int .i64 0) := (cell_of_block R4.out 1).trans rfl
    have q1 : (w3.setCell ⟨w1.heap.size, 2, none⟩ (.int .i64 x)).frozen? ⟨w.heap.size, 1, none⟩ = false := unfrozen_of_block R4.out 1
    have d2 : (w3.setCell ⟨w1.heap.size, 2, none⟩ (.int .i64 x)).cell? ⟨w.heap.size, 2, none⟩ = some (.int .i64 0) := (cell_of_block R4.out 2).trans rfl
    have q2 : (w3.setCell ⟨w1.heap.size, 2, none⟩ (.int .i64 x)).frozen? ⟨w.heap.size, 2, none⟩ = false := unfrozen_of_block R4.out 2
    have d3 : (w3.setCell ⟨w1.heap.size, 2, none⟩ (.int .i64 x)).cell? ⟨w.heap.size, 3, none⟩ = some (.int .i64 0) := (cell_of_block R4.out 3).trans rfl
    have q3 : (w3.setCell ⟨w1.heap.size, 2, none⟩ (.int .i64 x)).frozen? ⟨w.heap.size, 3, none⟩ = false := unfrozen_of_block R4.out 3
    go_wp2_with fail
    refine bodyPost_ret (v := .agg #[.int .i64 (l), .int .i64 (wd), .int .i64 (x), .int .i64 (j)]) (by simp [results, Tryd.results35, go_sem, d0, d1, d2, d3]) rfl ⟨l, wd, x, j, rfl, ?_, ?_⟩
    · exact (((((H4.out.setCell hB hw 0 _).setCell hB hw 1 _).setCell hB hw 2 _).setCell hB hw 3 _)).mono (by omega)
    · exact touch_setCell B _ _ w _ _ (touch_setCell B _ _ w _ _ (touch_setCell B _ _ w _ _ (touch_setCell B _ _ w _ _ T4.out (Nat.le_refl _)) (Nat.le_refl _)) (Nat.le_refl _)) (Nat.le_refl _)
  · have A := Lib.hid (among_lit w0 w2 B cv (k + 10 + 2) [-1, 0, 20, 21, 9223372036854775807] 5 rfl (by omega) (by omega) (by omega) (by omega) H2.out)
    go_wp2_with fail
    refine A.out.mono ?_
    rintro e w3 ⟨x, rfl, h3, t3⟩
    have z3 : w1.heap.size < w3.heap.size := by have := t3.size; omega
    have F3 := Lib.hid ((t3.block w1.heap.size z2 hn1).trans F2.out)
    have R3 := Lib.hid ((t3.block w.heap.size (by omega) hne).trans R2.out)
    have T3 := Lib.hid (T2.out.trans t3)
    have H3 := Lib.hid h3
    clear h3 t3
    have c3 : w3.cell? ⟨w1.heap.size, 3, none⟩ = some (.int .i64 j) := by rw [cell_of_block F3.out]; rfl
    have f3 : w3.frozen? ⟨w1.heap.size, 3, none⟩ = false := unfrozen_of_block F3.out 3
    have F4 := Lib.hid (block_setCell (i := 3) F3.out (.int .i64 x))
    have R4 := Lib.hid ((Below.heap_setCell w3 ⟨w1.heap.size, 3, none⟩ (.int .i64 x) w.heap.size (by show w.heap.size ≠ w1.heap.size; omega)).trans R3.out)
    have T4 := Lib.hid (touch_setCell B w1.heap.size 3 w w3 (.int .i64 x) T3.out (by omega))
    have H4 := Lib.hid (H3.out.setCell hB (show w0.heap.size ≤ w1.heap.size by omega) 3 (.int .i64 x))
    have g0 : (w3.setCell ⟨w1.heap.size, 3, none⟩ (.int .i64 x)).cell? ⟨w1.heap.size, 0, none⟩ = some (.int .i64 (l)) := by rw [cell_of_block F4.out]; rfl
    have g1 : (w3.setCell ⟨w1.heap.size, 3, none⟩ (.int .i64 x)).cell? ⟨w1.heap.size, 1, none⟩ = some (.int .i64 (wd)) := by rw [cell_of_block F4.out]; rfl
    have g2 : (w3.setCell ⟨w1.heap.size, 3, none⟩ (.int .i64 x)).cell? ⟨w1.heap.size, 2, none⟩ = some (.int .i64 (ht)) := by rw [cell_of_block F4.out]; rfl
    have g3 : (w3.setCell ⟨w1.heap.size, 3, none⟩ (.int .i64 x)).cell? ⟨w1.heap.size, 3, none⟩ = some (.int .i64 (x)) := by rw [cell_of_block F4.out]; rfl
    have d0 : (w3.setCell ⟨w1.heap.size, 3, none⟩ (.int .i64 x)).cell? ⟨w.heap.size, 0, none⟩ = some (.int .i64 0) := (cell_of_block R4.out 0).trans rfl
    have q0 : (w3.setCell ⟨w1.heap.size, 3, none⟩ (.int .i64 x)).frozen? ⟨w.heap.size, 0, none⟩ = false := unfrozen_of_block R4.out 0
    have d1 : (w3.setCell ⟨w1.heap.size, 3, none⟩ (.int .i64 x)).cell? ⟨w.heap.size, 1, none⟩ = some (.int .i64 0) := (cell_of_block R4.out 1).trans rfl
    have q1 : (w3.setCell ⟨w1.heap.size, 3, none⟩ (.int .i64 x)).frozen? ⟨w.heap.size, 1, none⟩ = false := unfrozen_of_block R4.out 1
    have d2 : (w3.setCell ⟨w1.heap.size, 3, none⟩ (.int .i64 x)).cell? ⟨w.heap.size, 2, none⟩ = some (.int .i64 0) := (cell_of_block R4.out 2).trans rfl
    have q2 : (w3.setCell ⟨w1.heap.size, 3, none⟩ (.int .i64 x)).frozen? ⟨w.heap.size, 2, none⟩ = false := unfrozen_of_block R4.out 2
    have d3 : (w3.setCell ⟨w1.heap.size, 3, none⟩ (.int .i64 x)).cell? ⟨w.heap.size, 3, none⟩ = some (.int .i64 0) := (cell_of_block R4.out 3).trans rfl
    have q3 : (w3.setCell ⟨w1.heap.size, 3, none⟩ (.int .i64 x)).frozen? ⟨w.heap.size, 3, none⟩ = false := unfrozen_of_block R4.out 3
    go_wp2_with fail
    refine bodyPost_ret (v := .agg #[.int .i64 (l), .int .i64 (wd), .int .i64 (ht), .int .i64 (x)]) (by simp [results, Tryd.results35, go_sem, d0, d1, d2, d3]) rfl ⟨l, wd, ht, x, rfl, ?_, ?_⟩
    · exact (((((H4.out.setCell hB hw 0 _).setCell hB hw 1 _).setCell hB hw 2 _).setCell hB hw 3 _)).mono (by omega)
    · exact touch_setCell B _ _ w _ _ (touch_setCell B _ _ w _ _ (touch_setCell B _ _ w _ _ (touch_setCell B _ _ w _ _ T4.out (Nat.le_refl _)) (Nat.le_refl _)) (Nat.le_refl _)) (Nat.le_refl _)
  · have n0 : ¬ r = 0 := by omega
    have n1 : ¬ r = 1 := by omega
    have n2 : ¬ r = 2 := by omega
    have n3 : ¬ r = 3 := by omega
    have m0 : (r == 0) = false := beq_eq_false_iff_ne.2 n0
    have m1 : (r == 1) = false := beq_eq_false_iff_ne.2 n1
    have m2 : (r == 2) = false := beq_eq_false_iff_ne.2 n2
    have m3 : (r == 3) = false := beq_eq_false_iff_ne.2 n3
    have g0 : (w2).cell? ⟨w1.heap.size, 0, none⟩ = some (.int .i64 (l)) := by rw [cell_of_block F2.out]; rfl
    have g1 : (w2).cell? ⟨w1.heap.size, 1, none⟩ = some (.int .i64 (wd)) := by rw [cell_of_block F2.out]; rfl
    have g2 : (w2).cell? ⟨w1.heap.size, 2, none⟩ = some (.int .i64 (ht)) := by rw [cell_of_block F2.out]; rfl
    have g3 : (w2).cell? ⟨w1.heap.size, 3, none⟩ = some (.int .i64 (j)) := by rw [cell_of_block F2.out]; rfl
    have d0 : (w2).cell? ⟨w.heap.size, 0, none⟩ = some (.int .i64 0) := (cell_of_block R2.out 0).trans rfl
    have q0 : (w2).frozen? ⟨w.heap.size, 0, none⟩ = false := unfrozen_of_block R2.out 0
    have d1 : (w2).cell? ⟨w.heap.size, 1, none⟩ = some (.int .i64 0) := (cell_of_block R2.out 1).trans rfl
    have q1 : (w2).frozen? ⟨w.heap.size, 1, none⟩ = false := unfrozen_of_block R2.out 1
    have d2 : (w2).cell? ⟨w.heap.size, 2, none⟩ = some (.int .i64 0) := (cell_of_block R2.out 2).trans rfl
    have q2 : (w2).frozen? ⟨w.heap.size, 2, none⟩ = false := unfrozen_of_block R2.out 2
    have d3 : (w2).cell? ⟨w.heap.size, 3, none⟩ = some (.int .i64 0) := (cell_of_block R2.out 3).trans rfl
    have q3 : (w2).frozen? ⟨w.heap.size, 3, none⟩ = false := unfrozen_of_block R2.out 3
    go_wp2_with fail
    refine bodyPost_ret (v := .agg #[.int .i64 (l), .int .i64 (wd), .int .i64 (ht), .int .i64 (j)]) (by simp [results, Tryd.results35, go_sem, d0, d1, d2, d3]) rfl ⟨l, wd, ht, j, rfl, ?_, ?_⟩
    · exact (((((H2.out.setCell hB hw 0 _).setCell hB hw 1 _).setCell hB hw 2 _).setCell hB hw 3 _)).mono (by omega)
    · exact touch_setCell B _ _ w _ _ (touch_setCell B _ _ w _ _ (touch_setCell B _ _ w _ _ (touch_setCell B _ _ w _ _ T2.out (Nat.le_refl _)) (Nat.le_refl _)) (Nat.le_refl _)) (Nat.le_refl _)
end Go.Proofs.YtdandhmallbemaaDoor
