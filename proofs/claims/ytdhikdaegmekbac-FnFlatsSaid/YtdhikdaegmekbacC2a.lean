/-
  Contracts of chapter 2's functions that only compute: a format's validity by the program and by the model.
-/
import Derived.Test.YtdhikdaegmekbacIn
namespace Go.Proofs.Ytdhikdaegmekbac
open Go.ChangeShapes Go.WideShapes Go.ChangeAt Go.RowKit Go.Joins
theorem agg4 {a b c d a' b' c' d' : Int} (h1 : a = a') (h2 : b = b') (h3 : c = c') (h4 : d = d') : Ending.returned (.agg #[.int .i64 a, .int .i64 b, .int .i64 c, .int .i64 d]) = .returned (.agg #[.int .i64 a', .int .i64 b', .int .i64 c', .int .i64 d']) := by rw [h1, h2, h3, h4]
end Go.Proofs.Ytdhikdaegmekbac
