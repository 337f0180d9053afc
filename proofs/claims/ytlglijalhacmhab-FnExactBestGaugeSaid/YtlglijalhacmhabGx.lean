/-
  The compare closure of bestCourses over the value of CoursesFor: contracts of the program.
-/
import Derived.Test.YtlglijalhacmhabGw
namespace Go.Proofs.Ytlglijalhacmhab
open Go.ChangeShapes Go.WideShapes Go.ChangeAt Go.RowKit Go.Joins


theorem va_bounds {l wd ht j H c : Int} (h1 : okB l wd ht j = true) (h2 : gB H c = true) (h3 : ¬ H < c * ht) : (0 ≤ vaN ht j H c ∧ vaN ht j H c ≤ 10000) ∧ (1 ≤ vaD ht H c ∧ vaD ht H c ≤ 40) := by
  obtain ⟨⟨H0, H1⟩, c0, c1⟩ := gB_true.1 h2
  obtain ⟨-, -, ⟨t0, t1⟩, ⟨j0, j1⟩, -⟩ := okB_true.1 h1
  have m0 : 0 ≤ c * ht := Int.mul_nonneg (by omega) (by omega)
  obtain ⟨a0, a1, a2, a3⟩ := low_bound (H - c * ht) c (by omega) 6000 (by omega) (by omega)
  have p0 : 0 ≤ j * lowD (H - c * ht) c := Int.mul_nonneg j0 (by omega)
  have p1 : j * lowD (H - c * ht) c ≤ 800 := Int.le_trans (Int.mul_le_mul j1 (show lowD (H - c * ht) c ≤ 40 by omega) (by omega) (by omega)) (by omega)
  unfold vaN vaD
  omega
end Go.Proofs.Ytlglijalhacmhab
