/-
  The model's drawn format: it is valid.
-/
import Derived.Test.YtpholgfkaolfjaaDoorSrc
import Derived.Deep.RegionWith
import Derived.Deep.DeepMust
namespace Go.Proofs.YtpholgfkaolfjaaDoor
open Go.ChangeShapes Go.WideShapes Go.ChangeAt Go.RowKit Go.Joins

/-- A valid format has been drawn. -/
def FmtDrawn (w0 w : World) (B : Nat) (cv : Value) (k : Nat) (e : Ending) (w' : World) : Prop :=
  ∃ l wd ht j : Int, okB l wd ht j = true ∧ e = .returned (.agg #[.int .i64 l, .int .i64 wd, .int .i64 ht, .int .i64 j]) ∧ Src w0 w' B cv k ∧ Touch B w w'

set_option maxHeartbeats 3200000 in
theorem draw_format (w0 w : World) (B : Nat) (cv : Value) (k : Nat) (hk : k ≤ 900000) (hB : B < w0.heap.size) (hw : w0.heap.size ≤ w.heap.size) (h : Src w0 w B cv k) :
    Calls Tryd.prog 13 #[.pointer (some ⟨B, 0, none⟩)] w (FmtDrawn w0 w B cv (k + 10)) := by
  have HS := Lib.hid h
  clear h
  have hne : w.heap.size ≠ B := by omega
  go_enter Tryd.func13, Tryd.ntmps13
  go_wp2_with fail
  refine (src_pick w0 _ B cv k 30 (by omega) (by omega) (by omega) (HS.out.alloc _)).mono ?_
  rintro e w1 ⟨r1, a1, b1, rfl, h1, t1⟩
  have z1 : w.heap.size < w1.heap.size := by have := t1.size; simp at this; omega
  have R1 := Lib.hid ((t1.block w.heap.size (by simp) hne).trans (heap_alloc_new w _))
  have T1 := Lib.hid ((touch_alloc B w _).trans t1)
  have H1 := Lib.hid h1
  clear h1 t1
  have hn1 : w1.heap.size ≠ B := by omega
  go_wp2_with fail
  refine (src_pick w0 _ B cv (k + 2) 13 (by omega) (by omega) (by omega) (H1.out.alloc _)).mono ?_
  rintro e w2 ⟨r2, a2, b2, rfl, h2, t2⟩
  have z2 : w1.heap.size < w2.heap.size := by have := t2.size; simp at this; omega
  have F2 := Lib.hid ((t2.block w1.heap.size (by simp) hn1).trans (heap_alloc_new w1 _))
  have R2 := Lib.hid ((t2.block w.heap.size (by simp; omega) hne).trans ((Below.heap_alloc w1 _ _ z1).trans R1.out))
  have T2 := Lib.hid ((T1.out.trans (touch_alloc B w1 _)).trans t2)
  have H2 := Lib.hid h2
  clear h2 t2
  have c23 : w2.cell? ⟨w1.heap.size, 3, none⟩ = some (.int .i64 0) := by rw [cell_of_block F2.out]; rfl
  have f23 : w2.frozen? ⟨w1.heap.size, 3, none⟩ = false := unfrozen_of_block F2.out 3
  go_wp2_with fail
  refine (src_pick w0 _ B cv (k + 4) 40 (by omega) (by omega) (by omega) (H2.out.setCell hB (by omega) _ _)).mono ?_
  rintro e w3 ⟨r3, a3, b3, rfl, h3, t3⟩
  have z3 : w1.heap.size < w3.heap.size := by have := t3.size; simp [World.setCell] at this; omega
  have F3 : Hid (w3.heap[w1.heap.size]? = some (.cells #[.int .i64 0, .int .i64 (90 + r1), .int .i64 0, .int .i64 r2] 25 (0, 0))) := (t3.block w1.heap.size (by simpa [World.setCell] using z2) hn1).trans (by simpa using block_setCell (i := 3) F2.out (.int .i64 r2))
  have R3 := Lib.hid ((t3.block w.heap.size (by simp [World.setCell]; omega) hne).trans ((Below.heap_setCell w2 ⟨w1.heap.size, 3, none⟩ (.int .i64 r2) w.heap.size (by show w.heap.size ≠ w1.heap.size; omega)).trans R2.out))
  have T3 := Lib.hid ((touch_setCell B w1.heap.size 3 w w2 (.int .i64 r2) T2.out (by omega)).trans t3)
  have H3 := Lib.hid h3
  clear h3 t3 c23 f23
  have c30 : w3.cell? ⟨w1.heap.size, 0, none⟩ = some (.int .i64 0) := by rw [cell_of_block F3.out]; rfl
  have f30 : w3.frozen? ⟨w1.heap.size, 0, none⟩ = false := unfrozen_of_block F3.out 0
  have c31 : w3.cell? ⟨w1.heap.size, 1, none⟩ = some (.int .i64 (90 + r1)) := by rw [cell_of_block F3.out]; rfl
  have f31 : w3.frozen? ⟨w1.heap.size, 1, none⟩ = false := unfrozen_of_block F3.out 1
  have c32 : w3.cell? ⟨w1.heap.size, 2, none⟩ = some (.int .i64 0) := by rw [cell_of_block F3.out]; rfl
  have f32 : w3.frozen? ⟨w1.heap.size, 2, none⟩ = false := unfrozen_of_block F3.out 2
  have c33 : w3.cell? ⟨w1.heap.size, 3, none⟩ = some (.int .i64 r2) := by rw [cell_of_block F3.out]; rfl
  have f33 : w3.frozen? ⟨w1.heap.size, 3, none⟩ = false := unfrozen_of_block F3.out 3
  go_wp2_with fail
  refine (src_one w0 _ B cv (k + 6) 3 (by omega) (by omega) (by omega) ((H3.out.setCell hB (by omega) _ _).setCell hB (by omega) _ _)).mono ?_
  rintro e w4 ⟨b, rfl, h4, t4⟩
  have z4 : w1.heap.size < w4.heap.size := by have := t4.size; simp [World.setCell] at this; omega
  have F4 : Hid (w4.heap[w1.heap.size]? = some (.cells #[.int .i64 (2 * (90 + r1) + r2), .int .i64 (90 + r1), .int .i64 (50 + r3), .int .i64 r2] 25 (0, 0))) := (t4.block w1.heap.size (by simpa [World.setCell] using z3) hn1).trans (by
    have q1 := block_setCell (i := 2) F3.out (.int .i64 (50 + r3))
    have q2 := block_setCell (i := 0) q1 (.int .i64 (2 * (90 + r1) + r2))
    simpa using q2)
  have R4 := Lib.hid ((t4.block w.heap.size (by simp [World.setCell]; omega) hne).trans ((Below.heap_setCell _ ⟨w1.heap.size, 0, none⟩ _ w.heap.size (by show w.heap.size ≠ w1.heap.size; omega)).trans ((Below.heap_setCell w3 ⟨w1.heap.size, 2, none⟩ _ w.heap.size (by show w.heap.size ≠ w1.heap.size; omega)).trans R3.out)))
  have T4 := Lib.hid ((touch_setCell B w1.heap.size 0 w _ _ (touch_setCell B w1.heap.size 2 w w3 _ T3.out (by omega)) (by omega)).trans t4)
  have H4 := Lib.hid h4
  clear h4 t4 c30 f30 c31 f31 c32 f32 c33 f33
  have c40 : w4.cell? ⟨w1.heap.size, 0, none⟩ = some (.int .i64 (2 * (90 + r1) + r2)) := by rw [cell_of_block F4.out]; rfl
  have f40 : w4.frozen? ⟨w1.heap.size, 0, none⟩ = false := unfrozen_of_block F4.out 0
  have c41 : w4.cell? ⟨w1.heap.size, 1, none⟩ = some (.int .i64 (90 + r1)) := by rw [cell_of_block F4.out]; rfl
  have f41 : w4.frozen? ⟨w1.heap.size, 1, none⟩ = false := unfrozen_of_block F4.out 1
  have c42 : w4.cell? ⟨w1.heap.size, 2, none⟩ = some (.int .i64 (50 + r3)) := by rw [cell_of_block F4.out]; rfl
  have f42 : w4.frozen? ⟨w1.heap.size, 2, none⟩ = false := unfrozen_of_block F4.out 2
  have c43 : w4.cell? ⟨w1.heap.size, 3, none⟩ = some (.int .i64 r2) := by rw [cell_of_block F4.out]; rfl
  have f43 : w4.frozen? ⟨w1.heap.size, 3, none⟩ = false := unfrozen_of_block F4.out 3
  have d40 : w4.cell? ⟨w.heap.size, 0, none⟩ = some (.int .i64 0) := by rw [cell_of_block R4.out]; rfl
  have g40 : w4.frozen? ⟨w.heap.size, 0, none⟩ = false := unfrozen_of_block R4.out 0
  have d41 : w4.cell? ⟨w.heap.size, 1, none⟩ = some (.int .i64 0) := by rw [cell_of_block R4.out]; rfl
  have g41 : w4.frozen? ⟨w.heap.size, 1, none⟩ = false := unfrozen_of_block R4.out 1
  have d42 : w4.cell? ⟨w.heap.size, 2, none⟩ = some (.int .i64 0) := by rw [cell_of_block R4.out]; rfl
  have g42 : w4.frozen? ⟨w.heap.size, 2, none⟩ = false := unfrozen_of_block R4.out 2
  have d43 : w4.cell? ⟨w.heap.size, 3, none⟩ = some (.int .i64 0) := by rw [cell_of_block R4.out]; rfl
  have g43 : w4.frozen? ⟨w.heap.size, 3, none⟩ = false := unfrozen_of_block R4.out 3
  cases b
  · go_wp2_with fail
    refine bodyPost_ret (v := .agg #[.int .i64 (2 * (90 + r1) + r2), .int .i64 (90 + r1), .int .i64 (50 + r3), .int .i64 r2]) (by simp [results, Tryd.results13, go_sem, d40, d41, d42, d43]) rfl ⟨_, _, _, _, by rw [okB_true]; omega, rfl, ?_, ?_⟩
    · exact (((H4.out.setCell hB (by omega) _ _).setCell hB (by omega) _ _).setCell hB (by omega) _ _).setCell hB (by omega) _ _ |>.mono (by omega)
    · exact touch_setCell _ _ _ _ _ _ (touch_setCell _ _ _ _ _ _ (touch_setCell _ _ _ _ _ _ (touch_setCell _ _ _ _ _ _ T4.out (Nat.le_refl _)) (Nat.le_refl _)) (Nat.le_refl _)) (Nat.le_refl _)
  · go_wp2_with fail
    go_region_with (go_at_call 26; go_must ((refine (src_pick w0 _ B cv (k + 8) 30 (by omega) (by omega) (by omega) H4.out.drew).mono ?_; rintro e w5 ⟨r5, a5, b5, rfl, h5, t5⟩; have z5 : w1.heap.size < w5.heap.size := Nat.lt_of_lt_of_le z4 t5.size; have F5 := Lib.hid ((t5.block w1.heap.size z4 hn1).trans F4.out); have R5 := Lib.hid ((t5.block w.heap.size (Nat.lt_trans z1 z4) hne).trans R4.out); have H5 := Lib.hid h5; have T5 := Lib.hid (T4.out.drew.trans t5); clear h5 t5; have c50 : w5.cell? ⟨w1.heap.size, 0, none⟩ = some (.int .i64 (2 * (90 + r1) + r2)) := (cell_of_block F5.out 0).trans rfl; have c51 : w5.cell? ⟨w1.heap.size, 1, none⟩ = some (.int .i64 (90 + r1)) := (cell_of_block F5.out 1).trans rfl; have c52 : w5.cell? ⟨w1.heap.size, 2, none⟩ = some (.int .i64 (50 + r3)) := (cell_of_block F5.out 2).trans rfl; have c53 : w5.cell? ⟨w1.heap.size, 3, none⟩ = some (.int .i64 r2) := (cell_of_block F5.out 3).trans rfl; have f50 : w5.frozen? ⟨w1.heap.size, 0, none⟩ = false := unfrozen_of_block F5.out 0; have d50 : w5.cell? ⟨w.heap.size, 0, none⟩ = some (.int .i64 0) := (cell_of_block R5.out 0).trans rfl; have d51 : w5.cell? ⟨w.heap.size, 1, none⟩ = some (.int .i64 0) := (cell_of_block R5.out 1).trans rfl; have d52 : w5.cell? ⟨w.heap.size, 2, none⟩ = some (.int .i64 0) := (cell_of_block R5.out 2).trans rfl; have d53 : w5.cell? ⟨w.heap.size, 3, none⟩ = some (.int .i64 0) := (cell_of_block R5.out 3).trans rfl; have g50 : w5.frozen? ⟨w.heap.size, 0, none⟩ = false := unfrozen_of_block R5.out 0; have g51 : w5.frozen? ⟨w.heap.size, 1, none⟩ = false := unfrozen_of_block R5.out 1; have g52 : w5.frozen? ⟨w.heap.size, 2, none⟩ = false := unfrozen_of_block R5.out 2; have g53 : w5.frozen? ⟨w.heap.size, 3, none⟩ = false := unfrozen_of_block R5.out 3)))
    all_goals
      go_wp2_with fail
      refine bodyPost_ret (v := .agg #[.int .i64 (2 * (90 + r1) + r2 + r5), .int .i64 (90 + r1), .int .i64 (50 + r3), .int .i64 r2]) (by simp [results, Tryd.results13, go_sem, d50, d51, d52, d53]) rfl ⟨_, _, _, _, by rw [okB_true]; omega, rfl, ?_, ?_⟩
      · exact ((((H5.out.setCell hB (by omega) _ _).setCell hB (by omega) _ _).setCell hB (by omega) _ _).setCell hB (by omega) _ _).setCell hB (by omega) _ _
      · exact touch_setCell _ _ _ _ _ _ (touch_setCell _ _ _ _ _ _ (touch_setCell _ _ _ _ _ _ (touch_setCell _ _ _ _ _ _ (touch_setCell _ _ _ _ _ _ T5.out (Nat.le_of_lt z1)) (Nat.le_refl _)) (Nat.le_refl _)) (Nat.le_refl _)) (Nat.le_refl _)

def Format2 (w : World) (e : Ending) (w' : World) : Prop :=
  ∃ l wd ht j : Int, okB l wd ht j = true ∧ e = .returned (.agg #[.int .i64 l, .int .i64 wd, .int .i64 ht, .int .i64 j]) ∧ Below w.heap.size w w'
set_option maxHeartbeats 800000 in
/-- A format drawn from bytes that came in is valid. -/
theorem a2_format (w : World) (cv : Value) (hcv : CodeAt w w.heap.size cv) (hsl : ∃ a l c, cv = .slice a l c) : Calls Tryd.prog 5 #[cv] w (Format2 w) := by
  have HC := Lib.hid hcv
  have HL := Lib.hid hsl
  obtain ⟨a, l, c, rfl⟩ := hsl
  clear hcv
  have W1 : ∀ o, CodeAt (w.alloc o) (w.alloc o).heap.size (.slice a l c) := fun o => by
    rcases HC.out with h | ⟨b, o', len, cap, z, h1, h2, h3, h4⟩
    · exact .inl h
    · exact .inr ⟨b, o', len, cap, z, h1, by simp; omega, h3, fun i hi => ⟨(World.cell?_alloc_lt _ _ _ h2).trans (h4 i hi).1, (h4 i hi).2⟩⟩
  have W2 := Lib.hid W1
  clear W1
  go_enter Tryd.func5, Tryd.ntmps5
  go_wp2_with fail
  refine (src_from _ (.slice a l c) (W2.out _) ⟨a, l, c, rfl⟩).mono ?_
  rintro e w1 ⟨rfl, rfl⟩
  go_wp2_with fail
  refine (draw_format _ _ (w.heap.size + 1) (.slice a l c) 0 (by omega) (by simp) (Nat.le_refl _) (by simpa using src_new (w.alloc _) (.slice a l c) (W2.out _))).mono ?_
  rintro e w2 ⟨fl, fw, fh, fj, hok, rfl, h2, t2⟩
  have R2 := (t2.block w.heap.size (by simp; omega) (by omega)).trans ((Below.heap_alloc _ _ _ (by simp)).trans (heap_alloc_new w _))
  have B2 : Below w.heap.size w w2 := (balloc (balloc0 _ _) _).trans (t2.below (Nat.le_succ _) (by simp; omega))
  have HR := Lib.hid R2
  have HB := Lib.hid B2
  have HO := Lib.hid hok
  clear R2 B2 hok h2 t2
  have d0 : w2.cell? ⟨w.heap.size, 0, none⟩ = some (.int .i64 0) := (cell_of_block HR.out 0).trans rfl
  have d1 : w2.cell? ⟨w.heap.size, 1, none⟩ = some (.int .i64 0) := (cell_of_block HR.out 1).trans rfl
  have d2 : w2.cell? ⟨w.heap.size, 2, none⟩ = some (.int .i64 0) := (cell_of_block HR.out 2).trans rfl
  have d3 : w2.cell? ⟨w.heap.size, 3, none⟩ = some (.int .i64 0) := (cell_of_block HR.out 3).trans rfl
  have g0 : w2.frozen? ⟨w.heap.size, 0, none⟩ = false := unfrozen_of_block HR.out 0
  have g1 : w2.frozen? ⟨w.heap.size, 1, none⟩ = false := unfrozen_of_block HR.out 1
  have g2 : w2.frozen? ⟨w.heap.size, 2, none⟩ = false := unfrozen_of_block HR.out 2
  have g3 : w2.frozen? ⟨w.heap.size, 3, none⟩ = false := unfrozen_of_block HR.out 3
  go_wp2_with fail
  refine bodyPost_ret (v := .agg #[.int .i64 fl, .int .i64 fw, .int .i64 fh, .int .i64 fj]) (by simp [results, Tryd.results5, go_sem, d0, d1, d2, d3]) rfl ⟨_, _, _, _, HO.out, rfl, ?_⟩
  exact (((HB.out.setCell (Nat.le_refl _) _).setCell (Nat.le_refl _) _).setCell (Nat.le_refl _) _).setCell (Nat.le_refl _) _
end Go.Proofs.YtpholgfkaolfjaaDoor
