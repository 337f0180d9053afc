/-
  Walks of the exact laws of chapter 2: the model's answer and the program's are the same.
-/
import Derived.Test.YtdhikdaegmekbaaC2f
namespace Go.Proofs.Ytdhikdaegmekbaa
open Go.ChangeShapes Go.WideShapes Go.ChangeAt Go.RowKit Go.Joins
set_option maxHeartbeats 800000 in
theorem walk_FnExactLengthOf (a b c d n : Int) (_wa : (Lit.int .i64 a).wf = true) (_wb : (Lit.int .i64 b).wf = true) (_wc : (Lit.int .i64 c).wf = true) (_wd : (Lit.int .i64 d).wf = true) (_wn : (Lit.int .i64 n).wf = true) (w : World) :
    Calls Try.prog 14 #[.agg #[.int .i64 a, .int .i64 b, .int .i64 c, .int .i64 d], .int .i64 n] w fun e w' => e = .returned (.bool true) ∧ Below w.heap.size w w' := by
  obtain ⟨x, y, z, hs, hi⟩ : ∃ x y z : Int, (∀ w, Calls Try.prog 39 #[.agg #[.int .i64 a, .int .i64 b, .int .i64 c, .int .i64 d], .int .i64 n] w fun e w' => e = .returned (.tuple #[.agg #[.int .i64 x, .int .i64 y], .int .i64 z]) ∧ Below w.heap.size w w') ∧ (∀ w, Calls Try.prog 41 #[.agg #[.int .i64 a, .int .i64 b, .int .i64 c, .int .i64 d], .int .i64 n] w fun e w' => e = .returned (.tuple #[.agg #[.int .i64 x, .int .i64 y], .int .i64 z]) ∧ Below w.heap.size w w') := ⟨_, _, _, fun w => length_spec a b c d n w, fun w => length_impl a b c d n w⟩
  have HS := Lib.hid hs
  have HI := Lib.hid hi
  clear hs hi
  go_enter Try.func14, Try.ntmps14
  go_wp2_with fail
  refine (to_format a b c d _).mono ?_
  rintro e w1 ⟨rfl, hb1⟩
  obtain ⟨hc1, hf1⟩ := bcell hb1
  have hz1 : w.heap.size < w1.heap.size := by have := hb1.size; simp at this; omega
  go_wp2_with fail
  refine (HS.out _).mono ?_
  rintro e w2 ⟨rfl, hb2⟩
  obtain ⟨hc2, hf2⟩ := bcell hb2
  have hz2 : w.heap.size < w2.heap.size := Nat.lt_of_lt_of_le hz1 hb2.size
  have B2 : Below w.heap.size w w2 := bnext (bnext (balloc0 _ _) hb1) hb2
  clear hb1 hb2

  go_wp2_with fail
  refine (to_format a b c d _).mono ?_
  rintro e w3 ⟨rfl, hb3⟩
  obtain ⟨hc3, hf3⟩ := bcell hb3
  have s3 := hb3.size
  simp at s3
  have hz3 : w.heap.size < w3.heap.size := by omega
  have hy3 : w2.heap.size < w3.heap.size := by omega
  have B3 : Below w.heap.size w w3 := bnext (balloc B2 _) hb3
  clear hb3 B2
  go_wp2_with fail
  refine (HI.out _).mono ?_
  rintro e w4 ⟨rfl, hb4⟩
  obtain ⟨hc4, hf4⟩ := bcell hb4
  have s4 := hb4.size
  have hz4 : w.heap.size < w4.heap.size := by omega
  have hy4 : w2.heap.size < w4.heap.size := by omega
  have B4 : Below w.heap.size w w4 := bnext B3 hb4
  clear hb4 B3
  go_wp2_with fail
  refine (eq_fraction x y x y _).mono ?_
  rintro e w5 ⟨rfl, hb5⟩
  go_wp2
  go_ret
  exact ⟨rfl, bnext (balloc B4 _) hb5⟩

end Go.Proofs.Ytdhikdaegmekbaa
