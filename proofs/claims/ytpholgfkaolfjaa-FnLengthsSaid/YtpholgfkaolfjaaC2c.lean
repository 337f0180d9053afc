/-
  Contracts of the model's functions of chapter 2 that answer a number and a code.
-/
import Derived.Test.YtpholgfkaolfjaaC2b
namespace Go.Proofs.Ytpholgfkaolfjaa
open Go.ChangeShapes Go.WideShapes Go.ChangeAt Go.RowKit Go.Joins
theorem code_cases (l wd ht j n low high : Int) : (okB l wd ht j = false ∧ codeOf l wd ht j n low high = 1) ∨ (okB l wd ht j = true ∧ ¬ (low ≤ n ∧ n ≤ high) ∧ codeOf l wd ht j n low high = 2) ∨ (okB l wd ht j = true ∧ (low ≤ n ∧ n ≤ high) ∧ codeOf l wd ht j n low high = 0) := by
  cases h1 : okB l wd ht j
  · exact .inl ⟨rfl, codeOf_inv h1⟩
  · by_cases h2 : low ≤ n ∧ n ≤ high
    · exact .inr (.inr ⟨rfl, h2, codeOf_ok h1 h2⟩)
    · exact .inr (.inl ⟨rfl, h2, codeOf_rng h1 h2⟩)
/-- What a function answers beside its code: the value where the code is 0. -/
def valOf (c v : Int) : Int := if c = 0 then v else 0
theorem val0 (v : Int) : valOf 0 v = v := rfl
theorem val1 (v : Int) : valOf 1 v = 0 := rfl
theorem val2 (v : Int) : valOf 2 v = 0 := rfl
theorem tup2 {a b a' b' : Int} (h1 : a = a') (h2 : b = b') : Ending.returned (.tuple #[.int .i64 a, .int .i64 b]) = .returned (.tuple #[.int .i64 a', .int .i64 b']) := by rw [h1, h2]
end Go.Proofs.Ytpholgfkaolfjaa
