/-
  Contracts of chapter 2's functions that only compute: a format's validity by the program and by the model.
-/
import Derived.Test.YtlglijalhacmhabIn
namespace Go.Proofs.Ytlglijalhacmhab
open Go.ChangeShapes Go.WideShapes Go.ChangeAt Go.RowKit Go.Joins

theorem to_format (l wd h j : Int) (w : World) : Calls Try.prog 32 #[.agg #[.int .i64 l, .int .i64 wd, .int .i64 h, .int .i64 j]] w fun e w' => e = .returned (.agg #[.int .i64 l, .int .i64 wd, .int .i64 h, .int .i64 j]) ∧ Below w.heap.size w w' := by
  go_enter Try.func32, Try.ntmps32
  go_wp2
  refine bodyPost_ret (v := .agg #[.int .i64 l, .int .i64 wd, .int .i64 h, .int .i64 j]) (by simp [results, Try.results32, go_sem]) rfl ⟨rfl, ?_⟩
  exact (((Below.refl _ _).alloc (Nat.le_refl _) _).alloc (by simp) _).alloc (by simp; omega) _
theorem l02ok (l wd ht j : Int) (w : World) : Calls Try.prog 106 #[.agg #[.int .i64 l, .int .i64 wd, .int .i64 ht, .int .i64 j]] w fun e w' => e = .returned (.bool (okB l wd ht j)) ∧ Below w.heap.size w w' := by
  cases h1 : inB l 100 500 <;> cases h2 : inB wd 50 250 <;> cases h3 : inB ht 30 150 <;> cases h4 : inB j 0 20 <;> cases h5 : decide (wd < l)
  all_goals
    go_enter Try.func106, Try.ntmps106
    go_wp2_with (go_at_call 71; refine (in_any _ _ _ _).mono ?_; rintro e w' ⟨rfl, rfl⟩)
    go_ret
    exact ⟨ret_bool (by simp only [okB, h1, h2, h3, h4, h5]; rfl), (Below.refl _ _).alloc (Nat.le_refl _) _⟩

theorem agg4 {a b c d a' b' c' d' : Int} (h1 : a = a') (h2 : b = b') (h3 : c = c') (h4 : d = d') : Ending.returned (.agg #[.int .i64 a, .int .i64 b, .int .i64 c, .int .i64 d]) = .returned (.agg #[.int .i64 a', .int .i64 b', .int .i64 c', .int .i64 d']) := by rw [h1, h2, h3, h4]
set_option maxHeartbeats 1600000 in
theorem clamped (l wd ht j : Int) (w : World) : Calls Try.prog 142 #[.agg #[.int .i64 l, .int .i64 wd, .int .i64 ht, .int .i64 j]] w fun e w' => e = .returned (.agg #[.int .i64 (min (max l 100) 500), .int .i64 (min (max wd 50) 250), .int .i64 (min (max ht 30) 150), .int .i64 (min (max j 0) 20)]) ∧ Below w.heap.size w w' := by
    go_enter Try.func142, Try.ntmps142
    go_wp2
    all_goals
      refine bodyPost_ret (v := .agg #[.int .i64 _, .int .i64 _, .int .i64 _, .int .i64 _]) (by simp [results, Try.results142, go_sem]; exact ⟨rfl, rfl, rfl, rfl⟩) rfl ⟨agg4 (by omega) (by omega) (by omega) (by omega), ?_⟩
      exact ((Below.refl _ _).alloc (Nat.le_refl _) _).alloc (by simp) _
end Go.Proofs.Ytlglijalhacmhab
