/-
  CoursesFor: contract of the program.
-/
import Derived.Test.YtdhikdaegmekbabHc
namespace Go.Proofs.Ytdhikdaegmekbab
open Go.ChangeShapes Go.WideShapes Go.ChangeAt Go.RowKit Go.Joins

set_option maxRecDepth 100000 in
set_option maxHeartbeats 6400000 in
theorem coursesFor_impl (l wd ht j H least most : Int) (w : World) : Calls Try.prog 37 #[.agg #[.int .i64 l, .int .i64 wd, .int .i64 ht, .int .i64 j], .int .i64 H, .int .i64 least, .int .i64 most] w fun e w' => e = .returned (.tuple #[.int .i64 (cfN l wd ht j H least most), .int .i64 (cfC l wd ht j H least most)]) ∧ Below w.heap.size w w' := by
  have BC := Lib.hid (bestC_impl l wd ht j H least most w.heap.size (w.alloc (.cells #[.int .i64 l, .int .i64 wd, .int .i64 ht, .int .i64 j] 41)) (FmBox.new w l wd ht j 41))
  obtain ⟨u, hu⟩ : ∃ z, cfN l wd ht j H least most = z := ⟨_, rfl⟩
  obtain ⟨v, hv⟩ : ∃ z, cfC l wd ht j H least most = z := ⟨_, rfl⟩
  rw [hu, hv] at BC ⊢
  clear hu hv
  go_enter Try.func37, Try.ntmps37
  go_wp2_with fail
  refine BC.out.mono ?_
  rintro e w1 ⟨rfl, hb1⟩
  have B1 := Lib.hid (bnext (balloc0 w (.cells #[.int .i64 l, .int .i64 wd, .int .i64 ht, .int .i64 j] 41)) hb1)
  clear hb1
  go_wp2
  refine bodyPost_ret (v := .tuple #[.int .i64 u, .int .i64 v]) (by simp [results, Try.results37, go_sem]) rfl ⟨rfl, B1.out⟩
end Go.Proofs.Ytdhikdaegmekbab
