/-
  Contracts of chapter 2's functions that only compute: a format's validity by the program and by the model.
-/
import Derived.Test.YtpholgfkaolfjaaDoorIn
namespace Go.Proofs.YtpholgfkaolfjaaDoor
open Go.ChangeShapes Go.WideShapes Go.ChangeAt Go.RowKit Go.Joins
theorem agg4 {a b c d a' b' c' d' : Int} (h1 : a = a') (h2 : b = b') (h3 : c = c') (h4 : d = d') : Ending.returned (.agg #[.int .i64 a, .int .i64 b, .int .i64 c, .int .i64 d]) = .returned (.agg #[.int .i64 a', .int .i64 b', .int .i64 c', .int .i64 d']) := by rw [h1, h2, h3, h4]
set_option maxHeartbeats 1600000 in
theorem clamped (l wd ht j : Int) (w : World) : Calls Tryd.prog 28 #[.agg #[.int .i64 l, .int .i64 wd, .int .i64 ht, .int .i64 j]] w fun e w' => e = .returned (.agg #[.int .i64 (min (max l 100) 500), .int .i64 (min (max wd 50) 250), .int .i64 (min (max ht 30) 150), .int .i64 (min (max j 0) 20)]) ∧ Below w.heap.size w w' := by
    go_enter Tryd.func28, Tryd.ntmps28
    go_wp2
    all_goals
      refine bodyPost_ret (v := .agg #[.int .i64 _, .int .i64 _, .int .i64 _, .int .i64 _]) (by simp [results, Tryd.results28, go_sem]; exact ⟨rfl, rfl, rfl, rfl⟩) rfl ⟨agg4 (by omega) (by omega) (by omega) (by omega), ?_⟩
      exact ((Below.refl _ _).alloc (Nat.le_refl _) _).alloc (by simp) _
end Go.Proofs.YtpholgfkaolfjaaDoor
