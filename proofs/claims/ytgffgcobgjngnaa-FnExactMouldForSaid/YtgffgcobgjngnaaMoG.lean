/-
  MouldFor: the model's answer.
-/
import Derived.Test.YtgffgcobgjngnaaMoR
namespace Go.Proofs.Ytgffgcobgjngnaa
open Go.ChangeShapes Go.WideShapes Go.ChangeAt Go.RowKit Go.Joins

theorem code_casesM (l wd ht j n low high : Int) : (okB l wd ht j = false ∧ codeOf l wd ht j n low high = 1) ∨ (okB l wd ht j = true ∧ ¬ (low ≤ n ∧ n ≤ high) ∧ codeOf l wd ht j n low high = 2) ∨ (okB l wd ht j = true ∧ (low ≤ n ∧ n ≤ high) ∧ codeOf l wd ht j n low high = 0) := by
  cases h1 : okB l wd ht j
  · exact .inl ⟨rfl, codeOf_inv h1⟩
  · by_cases h2 : low ≤ n ∧ n ≤ high
    · exact .inr (.inr ⟨rfl, h2, codeOf_ok h1 h2⟩)
    · exact .inr (.inl ⟨rfl, h2, codeOf_rng h1 h2⟩)
def vOf (c v : Int) : Int := if c = 0 then v else 0
noncomputable def mfE (l wd ht j s : Int) : Ending := .returned (.tuple #[.agg #[.int .i64 (vOf (codeOf l wd ht j s 0 200) (leastF l s)), .int .i64 (vOf (codeOf l wd ht j s 0 200) (leastF wd s)), .int .i64 (vOf (codeOf l wd ht j s 0 200) (leastF ht s)), .int .i64 0], .int .i64 (codeOf l wd ht j s 0 200)])
set_option maxRecDepth 100000 in
set_option maxHeartbeats 6400000 in
theorem mf_spec (l wd ht j s : Int) (w : World) : Calls Try.prog 22 #[.agg #[.int .i64 l, .int .i64 wd, .int .i64 ht, .int .i64 j], .int .i64 s] w fun e w' => e = mfE l wd ht j s ∧ Below w.heap.size w w' := by
  have HB0 := Lib.hid (balloc (balloc0 w (.cells #[.int .i64 l, .int .i64 wd, .int .i64 ht, .int .i64 j] 43)) (.cells #[.int .i64 0, .int .i64 0, .int .i64 0, .int .i64 0] 34))
  rcases code_casesM l wd ht j s 0 200 with ⟨h0, hc⟩ | ⟨h0, h2, hc⟩ | ⟨h0, h2, hc⟩
  · have HE : Hid (mfE l wd ht j s = .returned (.tuple #[.agg #[.int .i64 0, .int .i64 0, .int .i64 0, .int .i64 0], .int .i64 1])) := by show mfE l wd ht j s = _; unfold mfE; rw [hc]; rfl
    rw [HE.out]
    have C := Lib.hid (l02ok l wd ht j)
    rw [h0] at C
    clear h0 hc
    go_enter Try.func22, Try.ntmps22
    go_wp2_with fail
    refine (C.out _).mono ?_
    rintro e w1 ⟨rfl, hb1⟩
    have B1 := Lib.hid (bnext HB0.out hb1)
    obtain ⟨hc1, hf1⟩ := bcell hb1
    have hz1 : w.heap.size + 1 < w1.heap.size := by have := hb1.size; simp at this; omega
    clear hb1
    have g0 : w1.cell? ⟨w.heap.size, 0, none⟩ = some (.int .i64 l) := (hc1 w.heap.size 0 (by simp; omega)).trans (by simp)
    have g1 : w1.cell? ⟨w.heap.size, 1, none⟩ = some (.int .i64 wd) := (hc1 w.heap.size 1 (by simp; omega)).trans (by simp)
    have g2 : w1.cell? ⟨w.heap.size, 2, none⟩ = some (.int .i64 ht) := (hc1 w.heap.size 2 (by simp; omega)).trans (by simp)
    have m0 : w1.cell? ⟨w.heap.size + 1, 0, none⟩ = some (.int .i64 0) := (hc1 (w.heap.size + 1) 0 (by simp)).trans (by simp)
    have f0 : w1.frozen? ⟨w.heap.size + 1, 0, none⟩ = false := (hf1 (w.heap.size + 1) 0 (by simp)).trans (by simp)
    have m1 : w1.cell? ⟨w.heap.size + 1, 1, none⟩ = some (.int .i64 0) := (hc1 (w.heap.size + 1) 1 (by simp)).trans (by simp)
    have f1 : w1.frozen? ⟨w.heap.size + 1, 1, none⟩ = false := (hf1 (w.heap.size + 1) 1 (by simp)).trans (by simp)
    have m2 : w1.cell? ⟨w.heap.size + 1, 2, none⟩ = some (.int .i64 0) := (hc1 (w.heap.size + 1) 2 (by simp)).trans (by simp)
    have f2 : w1.frozen? ⟨w.heap.size + 1, 2, none⟩ = false := (hf1 (w.heap.size + 1) 2 (by simp)).trans (by simp)
    have m3 : w1.cell? ⟨w.heap.size + 1, 3, none⟩ = some (.int .i64 0) := (hc1 (w.heap.size + 1) 3 (by simp)).trans (by simp)
    have f3 : w1.frozen? ⟨w.heap.size + 1, 3, none⟩ = false := (hf1 (w.heap.size + 1) 3 (by simp)).trans (by simp)
    clear hc1 hf1
    go_wp2
    refine bodyPost_ret (v := .tuple #[.agg #[.int .i64 0, .int .i64 0, .int .i64 0, .int .i64 0], .int .i64 1]) (by simp [results, Try.results22, go_sem, m0, m1, m2, m3]) rfl ⟨rfl, ?_⟩
    first | exact (((B1.out.setCell (Nat.le_succ _) _).setCell (Nat.le_succ _) _).setCell (Nat.le_succ _) _).setCell (Nat.le_succ _) _ | exact below_setCells _ (Nat.le_succ _) _ _ _ B1.out
  · have HE : Hid (mfE l wd ht j s = .returned (.tuple #[.agg #[.int .i64 0, .int .i64 0, .int .i64 0, .int .i64 0], .int .i64 2])) := by show mfE l wd ht j s = _; unfold mfE; rw [hc]; rfl
    rw [HE.out]
    have C := Lib.hid (l02ok l wd ht j)
    rw [h0] at C
    have I := Lib.hid (in_any s 0 200)
    rw [inB_false.2 h2] at I
    clear h0 hc
    go_enter Try.func22, Try.ntmps22
    go_wp2_with fail
    refine (C.out _).mono ?_
    rintro e w1 ⟨rfl, hb1⟩
    have B1 := Lib.hid (bnext HB0.out hb1)
    obtain ⟨hc1, hf1⟩ := bcell hb1
    have hz1 : w.heap.size + 1 < w1.heap.size := by have := hb1.size; simp at this; omega
    clear hb1
    have g0 : w1.cell? ⟨w.heap.size, 0, none⟩ = some (.int .i64 l) := (hc1 w.heap.size 0 (by simp; omega)).trans (by simp)
    have g1 : w1.cell? ⟨w.heap.size, 1, none⟩ = some (.int .i64 wd) := (hc1 w.heap.size 1 (by simp; omega)).trans (by simp)
    have g2 : w1.cell? ⟨w.heap.size, 2, none⟩ = some (.int .i64 ht) := (hc1 w.heap.size 2 (by simp; omega)).trans (by simp)
    have m0 : w1.cell? ⟨w.heap.size + 1, 0, none⟩ = some (.int .i64 0) := (hc1 (w.heap.size + 1) 0 (by simp)).trans (by simp)
    have f0 : w1.frozen? ⟨w.heap.size + 1, 0, none⟩ = false := (hf1 (w.heap.size + 1) 0 (by simp)).trans (by simp)
    have m1 : w1.cell? ⟨w.heap.size + 1, 1, none⟩ = some (.int .i64 0) := (hc1 (w.heap.size + 1) 1 (by simp)).trans (by simp)
    have f1 : w1.frozen? ⟨w.heap.size + 1, 1, none⟩ = false := (hf1 (w.heap.size + 1) 1 (by simp)).trans (by simp)
    have m2 : w1.cell? ⟨w.heap.size + 1, 2, none⟩ = some (.int .i64 0) := (hc1 (w.heap.size + 1) 2 (by simp)).trans (by simp)
    have f2 : w1.frozen? ⟨w.heap.size + 1, 2, none⟩ = false := (hf1 (w.heap.size + 1) 2 (by simp)).trans (by simp)
    have m3 : w1.cell? ⟨w.heap.size + 1, 3, none⟩ = some (.int .i64 0) := (hc1 (w.heap.size + 1) 3 (by simp)).trans (by simp)
    have f3 : w1.frozen? ⟨w.heap.size + 1, 3, none⟩ = false := (hf1 (w.heap.size + 1) 3 (by simp)).trans (by simp)
    clear hc1 hf1
    go_wp2_with fail
    refine (I.out _).mono ?_
    rintro e w2 ⟨rfl, rfl⟩
    go_wp2
    refine bodyPost_ret (v := .tuple #[.agg #[.int .i64 0, .int .i64 0, .int .i64 0, .int .i64 0], .int .i64 2]) (by simp [results, Try.results22, go_sem, m0, m1, m2, m3]) rfl ⟨rfl, ?_⟩
    first | exact (((B1.out.setCell (Nat.le_succ _) _).setCell (Nat.le_succ _) _).setCell (Nat.le_succ _) _).setCell (Nat.le_succ _) _ | exact below_setCells _ (Nat.le_succ _) _ _ _ B1.out
  · obtain ⟨⟨l1, l2⟩, ⟨w1', w2'⟩, ⟨t1, t2⟩, ⟨j1, j2⟩, _⟩ := okB_true.1 h0
    obtain ⟨s0, s1⟩ := h2
    have HE : Hid (mfE l wd ht j s = .returned (.tuple #[.agg #[.int .i64 (leastF l s), .int .i64 (leastF wd s), .int .i64 (leastF ht s), .int .i64 0], .int .i64 0])) := by show mfE l wd ht j s = _; unfold mfE; rw [hc]; rfl
    obtain ⟨lf, hlf⟩ : ∃ lf : Int → Int, ∀ n, leastF n s = lf n := ⟨_, fun _ => rfl⟩
    have A : Hid (∀ (n : Int) (wx : World), 30 ≤ n ∧ n ≤ 500 → Calls Try.prog 46 #[.int .i64 n, .int .i64 s] wx fun e w' => e = .returned (.int .i64 (lf n)) ∧ w' = wx) := by
      intro n wx hn
      have h := least_spec n s hn.1 hn.2 s0 s1 wx
      rw [hlf] at h
      exact h.mono (fun _ _ h => ⟨h.1, h.2.symm⟩)
    rw [hlf, hlf, hlf] at HE
    clear hlf
    rw [HE.out]
    have C := Lib.hid (l02ok l wd ht j)
    rw [h0] at C
    have I := Lib.hid (in_any s 0 200)
    rw [inB_true.2 ⟨s0, s1⟩] at I
    clear h0 hc j1 j2
    go_enter Try.func22, Try.ntmps22
    go_wp2_with fail
    refine (C.out _).mono ?_
    rintro e w1 ⟨rfl, hb1⟩
    have B1 := Lib.hid (bnext HB0.out hb1)
    obtain ⟨hc1, hf1⟩ := bcell hb1
    have hz1 : w.heap.size + 1 < w1.heap.size := by have := hb1.size; simp at this; omega
    clear hb1
    have g0 : w1.cell? ⟨w.heap.size, 0, none⟩ = some (.int .i64 l) := (hc1 w.heap.size 0 (by simp; omega)).trans (by simp)
    have g1 : w1.cell? ⟨w.heap.size, 1, none⟩ = some (.int .i64 wd) := (hc1 w.heap.size 1 (by simp; omega)).trans (by simp)
    have g2 : w1.cell? ⟨w.heap.size, 2, none⟩ = some (.int .i64 ht) := (hc1 w.heap.size 2 (by simp; omega)).trans (by simp)
    have m0 : w1.cell? ⟨w.heap.size + 1, 0, none⟩ = some (.int .i64 0) := (hc1 (w.heap.size + 1) 0 (by simp)).trans (by simp)
    have f0 : w1.frozen? ⟨w.heap.size + 1, 0, none⟩ = false := (hf1 (w.heap.size + 1) 0 (by simp)).trans (by simp)
    have m1 : w1.cell? ⟨w.heap.size + 1, 1, none⟩ = some (.int .i64 0) := (hc1 (w.heap.size + 1) 1 (by simp)).trans (by simp)
    have f1 : w1.frozen? ⟨w.heap.size + 1, 1, none⟩ = false := (hf1 (w.heap.size + 1) 1 (by simp)).trans (by simp)
    have m2 : w1.cell? ⟨w.heap.size + 1, 2, none⟩ = some (.int .i64 0) := (hc1 (w.heap.size + 1) 2 (by simp)).trans (by simp)
    have f2 : w1.frozen? ⟨w.heap.size + 1, 2, none⟩ = false := (hf1 (w.heap.size + 1) 2 (by simp)).trans (by simp)
    have m3 : w1.cell? ⟨w.heap.size + 1, 3, none⟩ = some (.int .i64 0) := (hc1 (w.heap.size + 1) 3 (by simp)).trans (by simp)
    have f3 : w1.frozen? ⟨w.heap.size + 1, 3, none⟩ = false := (hf1 (w.heap.size + 1) 3 (by simp)).trans (by simp)
    clear hc1 hf1
    go_wp2_with fail
    refine (I.out _).mono ?_
    rintro e w2 ⟨rfl, rfl⟩
    go_wp2
    go_region_with (first | (go_at_call 46; refine (A.out _ _ ⟨by omega, by omega⟩).mono ?_; rintro e w3 ⟨rfl, rfl⟩))
    all_goals
      go_wp2
      refine bodyPost_ret (v := .tuple #[.agg #[.int .i64 (lf l), .int .i64 (lf wd), .int .i64 (lf ht), .int .i64 0], .int .i64 0]) (by simp [results, Try.results22, go_sem, m0, m1, m2, m3]) rfl ⟨rfl, ?_⟩
      first | exact (((B1.out.drew.setCell (Nat.le_succ _) _).setCell (Nat.le_succ _) _).setCell (Nat.le_succ _) _).setCell (Nat.le_succ _) _ | exact below_setCells _ (Nat.le_succ _) _ _ _ B1.out.drew
end Go.Proofs.Ytgffgcobgjngnaa
