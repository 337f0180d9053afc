/-
  Quantities that are numbers alone: with waste, packs, bags: the model's word and the program's.
-/
import Derived.Test.YtdhikdaegmekbabIn
import Derived.Test.YtdhikdaegmekbabFmB
namespace Go.Proofs.Ytdhikdaegmekbab
open Go.ChangeShapes Go.WideShapes Go.ChangeAt Go.RowKit Go.Joins


theorem qtup2 {a b a' b' : Int} (h1 : a = a') (h2 : b = b') : Ending.returned (.tuple #[.int .i64 a, .int .i64 b]) = .returned (.tuple #[.int .i64 a', .int .i64 b']) := by rw [h1, h2]
theorem qtup3 {a b c a' b' c' : Int} (h1 : a = a') (h2 : b = b') (h3 : c = c') : Ending.returned (.tuple #[.int .i64 a, .int .i64 b, .int .i64 c]) = .returned (.tuple #[.int .i64 a', .int .i64 b', .int .i64 c']) := by rw [h1, h2, h3]
theorem many_spec (n : Int) (w : World) : Calls Try.prog 72 #[.int .i64 n] w fun e w' => e = .returned (.bool (inB n 0 1000000)) ∧ w = w' := by
  go_enter Try.func72, Try.ntmps72
  go_wp2_with (go_at_call 88; refine (in_any _ _ _ _).mono ?_; rintro e w' ⟨rfl, rfl⟩)
  go_ret
  exact ⟨rfl, rfl⟩
/-- Rounded up. -/
def upQ (a b : Int) : Int := (a + b - 1) / b
theorem upQ_range {a b : Int} (ha : 0 ≤ a) (hb : 1 ≤ b) : 0 ≤ upQ a b ∧ upQ a b ≤ a + b - 1 :=
  ⟨Int.ediv_nonneg (by omega) (by omega), Int.ediv_le_self _ (by omega)⟩
def wasteC (n p : Int) : Int := if inB n 0 1000000 = true ∧ inB p 0 1000 = true then 0 else 2
def wasteV (n p : Int) : Int := if inB n 0 1000000 = true ∧ inB p 0 1000 = true then (n * (1000 + p) + 999) / 1000 else 0
def packC (n p : Int) : Int := if inB n 0 1000000 = true ∧ inB p 1 1000 = true then 0 else 2
def packV (n p : Int) : Int := if inB n 0 1000000 = true ∧ inB p 1 1000 = true then upQ n p else 0
def packL (n p : Int) : Int := if inB n 0 1000000 = true ∧ inB p 1 1000 = true then upQ n p * p - n else 0
/-- All three are within their bounds. -/
def bagB (x y z : Int) : Bool := inB x 0 1000000000000 && (inB y 1 1000000 && inB z 1 1000)
def bagC (x y z : Int) : Int := if bagB x y z = true then 0 else 2
def bagV (x y z : Int) : Int := if bagB x y z = true then upQ x (y * z) else 0
end Go.Proofs.Ytdhikdaegmekbab
