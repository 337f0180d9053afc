/-
  Contracts of LengthOf, VolumeOf and IsModular, by the program and by the model.
-/
import Derived.Test.YtpholgfkaolfjaaDoorC2bI
import Derived.Deep.RegionHeld3
import Derived.Test.YtpholgfkaolfjaaDoorKeep
import Derived.Deep.RegionWith
import Derived.Deep.QuietTactic
import Derived.BigQuiet
namespace Go.Proofs.YtpholgfkaolfjaaDoor
open Go.ChangeShapes Go.WideShapes Go.ChangeAt Go.RowKit Go.Joins
theorem code_cases (l wd ht j n low high : Int) : (okB l wd ht j = false ∧ codeOf l wd ht j n low high = 1) ∨ (okB l wd ht j = true ∧ ¬ (low ≤ n ∧ n ≤ high) ∧ codeOf l wd ht j n low high = 2) ∨ (okB l wd ht j = true ∧ (low ≤ n ∧ n ≤ high) ∧ codeOf l wd ht j n low high = 0) := by
  cases h1 : okB l wd ht j
  · exact .inl ⟨rfl, codeOf_inv h1⟩
  · by_cases h2 : low ≤ n ∧ n ≤ high
    · exact .inr (.inr ⟨rfl, h2, codeOf_ok h1 h2⟩)
    · exact .inr (.inl ⟨rfl, h2, codeOf_rng h1 h2⟩)
/-- What a function answers beside its code: the value where the code is 0. -/
def valOf (c v : Int) : Int := if c = 0 then v else 0
theorem val0 (v : Int) : valOf 0 v = v := rfl
theorem val1 (v : Int) : valOf 1 v = 0 := rfl
theorem val2 (v : Int) : valOf 2 v = 0 := rfl
theorem tup2 {a b a' b' : Int} (h1 : a = a') (h2 : b = b') : Ending.returned (.tuple #[.int .i64 a, .int .i64 b]) = .returned (.tuple #[.int .i64 a', .int .i64 b']) := by rw [h1, h2]

theorem field0 (a b c d : Int) (w : World) : Sem.run Tryd.prog (Instr.field 25 (.agg #[.int .i64 a, .int .i64 b, .int .i64 c, .int .i64 d]) 0) w = .ok (.int .i64 a) w := by kernel_rfl
theorem field2 (a b c d : Int) (w : World) : Sem.run Tryd.prog (Instr.field 25 (.agg #[.int .i64 a, .int .i64 b, .int .i64 c, .int .i64 d]) 2) w = .ok (.int .i64 c) w := by kernel_rfl
theorem below_set2 {B g : Nat} {w w1 : World} {a b : Value} (h : Below B w w1) (hg : B ≤ g) : Below B w ((w1.setCell ⟨g, 0, none⟩ a).setCell ⟨g, 1, none⟩ b) := (h.setCell hg _).setCell hg _
set_option maxHeartbeats 800000 in
theorem length_impl (l wd ht j n : Int) (w : World) : Calls Tryd.prog 9 #[.agg #[.int .i64 l, .int .i64 wd, .int .i64 ht, .int .i64 j], .int .i64 n] w fun e w' => e = .returned (.tuple #[.agg #[.int .i64 (valOf (codeOf l wd ht j n 1 200) (lowN (n * (l + j) - 4 * j) 4)), .int .i64 (valOf (codeOf l wd ht j n 1 200) (lowD (n * (l + j) - 4 * j) 4))], .int .i64 (codeOf l wd ht j n 1 200)]) ∧ Below w.heap.size w w' := by
  rcases code_cases l wd ht j n 1 200 with ⟨_, hc⟩ | ⟨_, _, hc⟩ | ⟨h1, h2, hc⟩
  · rw [hc]
    go_enter Tryd.func9, Tryd.ntmps9
    go_wp2_with fail
    refine (code_impl l wd ht j n 1 200 _).mono ?_
    rintro e w1 ⟨rfl, hb1⟩
    obtain ⟨hc1, hf1⟩ := bcell hb1
    have hz1 : w.heap.size + 1 < w1.heap.size := by have := hb1.size; simp at this; omega
    rw [hc]
    go_wp2
    refine bodyPost_ret (v := .tuple #[.agg #[.int .i64 0, .int .i64 0], .int .i64 1]) (by simp [results, Tryd.results9, go_sem, hc1]) rfl ⟨rfl, ?_⟩
    exact ((bnext (balloc (balloc0 _ _) _) hb1).setCell (by simp) _).setCell (by simp) _
  · rw [hc]
    go_enter Tryd.func9, Tryd.ntmps9
    go_wp2_with fail
    refine (code_impl l wd ht j n 1 200 _).mono ?_
    rintro e w1 ⟨rfl, hb1⟩
    obtain ⟨hc1, hf1⟩ := bcell hb1
    have hz1 : w.heap.size + 1 < w1.heap.size := by have := hb1.size; simp at this; omega
    rw [hc]
    go_wp2
    refine bodyPost_ret (v := .tuple #[.agg #[.int .i64 0, .int .i64 0], .int .i64 2]) (by simp [results, Tryd.results9, go_sem, hc1]) rfl ⟨rfl, ?_⟩
    exact ((bnext (balloc (balloc0 _ _) _) hb1).setCell (by simp) _).setCell (by simp) _
  · obtain ⟨⟨l1, l2⟩, ⟨w1', w2'⟩, ⟨t1, t2⟩, ⟨j1, j2⟩, _⟩ := okB_true.1 h1
    obtain ⟨n1, n2⟩ := h2
    clear h1
    have m0 : 0 ≤ n * (l + j) := Int.mul_nonneg (by omega) (by omega)
    have m1 : n * (l + j) ≤ 104000 := Int.le_trans (Int.mul_le_mul n2 (show l + j ≤ 520 by omega) (by omega) (by omega)) (by omega)
    have m2 : 1 * (l + j) ≤ n * (l + j) := Int.mul_le_mul_of_nonneg_right n1 (by omega)
    rw [hc]
    go_enter Tryd.func9, Tryd.ntmps9
    go_wp2_with fail
    refine (code_impl l wd ht j n 1 200 _).mono ?_
    rintro e w1 ⟨rfl, hb1⟩
    obtain ⟨hc1, hf1⟩ := bcell hb1
    have hz1 : w.heap.size + 1 < w1.heap.size := by have := hb1.size; simp at this; omega
    rw [hc]
    clear hc
    have C : Hid (∀ w, _) := fun w => with_joint l wd ht j (by omega) (by omega) (by omega) (by omega) w
    have D : Hid (∀ w, _) := fun w => lowest_impl (n * (l + j) - 4 * j) 4 (by omega) (by omega) (by omega) (by omega) w
    have e2 : IntKind.i64.wrap (n * (l + j) - 4 * j) = n * (l + j) - 4 * j := IntWalk.i64_in _ (by omega)
    have e1 : IntKind.i64.wrap (n * (l + j)) = n * (l + j) := IntWalk.i64_in _ (by omega)
    have e0 : IntKind.i64.wrap (4 * j) = 4 * j := IntWalk.i64_in _ (by omega)
    have hfl0 := field0
    have r0 : w1.cell? ⟨w.heap.size + 1, 0, none⟩ = some (.int .i64 0) := by simp [hc1]
    have r1 : w1.cell? ⟨w.heap.size + 1, 1, none⟩ = some (.int .i64 0) := by simp [hc1]
    have f0 : w1.frozen? ⟨w.heap.size + 1, 0, none⟩ = false := by simp [hf1]
    have f1 : w1.frozen? ⟨w.heap.size + 1, 1, none⟩ = false := by simp [hf1]
    have hB1 : Below w.heap.size w w1 := bnext (balloc (balloc0 _ _) _) hb1
    have g0 : w1.cell? ⟨w.heap.size, 0, none⟩ = some (.int .i64 l) := (hc1 w.heap.size 0 (by simp; omega)).trans (by simp)
    have g1 : w1.cell? ⟨w.heap.size, 1, none⟩ = some (.int .i64 wd) := (hc1 w.heap.size 1 (by simp; omega)).trans (by simp)
    have g2 : w1.cell? ⟨w.heap.size, 2, none⟩ = some (.int .i64 ht) := (hc1 w.heap.size 2 (by simp; omega)).trans (by simp)
    have g3 : w1.cell? ⟨w.heap.size, 3, none⟩ = some (.int .i64 j) := (hc1 w.heap.size 3 (by simp; omega)).trans (by simp)
    clear hc1 hf1 hb1
    go_wp2_with fail
    go_region_held3 (fun w' => w'.cell? ⟨w.heap.size, 0, none⟩ = some (.int .i64 l) ∧ w'.cell? ⟨w.heap.size, 1, none⟩ = some (.int .i64 wd) ∧ w'.cell? ⟨w.heap.size, 2, none⟩ = some (.int .i64 ht) ∧ w'.cell? ⟨w.heap.size, 3, none⟩ = some (.int .i64 j) ∧ Below w.heap.size w w' ∧ w.heap.size < w'.heap.size)
      (first | exact keep4_call (by assumption) hb | assumption | exact keep4_set2 (Nat.lt_succ_self _) (by assumption) | exact keep4_drew g0 g1 g2 g3 hB1 (Nat.lt_of_succ_lt hz1))
      (first
        | (go_at_call 23; refine (C.out _).mono ?_; rintro e w2 ⟨rfl, hb⟩; have hz2 : w.heap.size + 1 < w2.heap.size := Nat.lt_of_lt_of_le hz1 hb.size; have r2 : w2.cell? ⟨w.heap.size + 1, 0, none⟩ = some (.int .i64 0) := (hb.cell (p := ⟨w.heap.size + 1, 0, none⟩) hz1).trans r0; have r3 : w2.cell? ⟨w.heap.size + 1, 1, none⟩ = some (.int .i64 0) := (hb.cell (p := ⟨w.heap.size + 1, 1, none⟩) hz1).trans r1; have f2 : w2.frozen? ⟨w.heap.size + 1, 0, none⟩ = false := (hb.frozen (p := ⟨w.heap.size + 1, 0, none⟩) hz1).trans f0; have f3 : w2.frozen? ⟨w.heap.size + 1, 1, none⟩ = false := (hb.frozen (p := ⟨w.heap.size + 1, 1, none⟩) hz1).trans f1)
        | (go_at_call 25; refine (D.out _).mono ?_; rintro e w3 ⟨rfl, hb⟩; have r4 : w3.cell? ⟨w.heap.size + 1, 0, none⟩ = some (.int .i64 0) := (hb.cell (p := ⟨w.heap.size + 1, 0, none⟩) hz2).trans r2; have r5 : w3.cell? ⟨w.heap.size + 1, 1, none⟩ = some (.int .i64 0) := (hb.cell (p := ⟨w.heap.size + 1, 1, none⟩) hz2).trans r3; have f4 : w3.frozen? ⟨w.heap.size + 1, 0, none⟩ = false := (hb.frozen (p := ⟨w.heap.size + 1, 0, none⟩) hz2).trans f2; have f5 : w3.frozen? ⟨w.heap.size + 1, 1, none⟩ = false := (hb.frozen (p := ⟨w.heap.size + 1, 1, none⟩) hz2).trans f3))
    clear e0 e1 e2 m0 m1 m2 hB1 g0 g1 g2 g3 r0 r1 f0 f1 r2 r3 f2 f3
    go_wp2
    refine bodyPost_ret (v := .tuple #[.agg #[.int .i64 (lowN (n * (l + j) - 4 * j) 4), .int .i64 (lowD (n * (l + j) - 4 * j) 4)], .int .i64 0]) (by simp [results, Tryd.results9, go_sem, r4, r5]) rfl ⟨rfl, ?_⟩
    go_split_ands
    assumption
theorem tup3 {a b c a' b' c' : Int} (h1 : a = a') (h2 : b = b') (h3 : c = c') : Ending.returned (.tuple #[.int .i64 a, .int .i64 b, .int .i64 c]) = .returned (.tuple #[.int .i64 a', .int .i64 b', .int .i64 c']) := by rw [h1, h2, h3]
end Go.Proofs.YtpholgfkaolfjaaDoor
