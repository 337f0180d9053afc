/-
  Contracts of the program's functions of chapter 2 that answer a number and a code.
-/
import Derived.Test.YtdhikdaegmekbaaC2c
import Derived.Deep.RegionHeld3
namespace Go.Proofs.Ytdhikdaegmekbaa
open Go.ChangeShapes Go.WideShapes Go.ChangeAt Go.RowKit Go.Joins


theorem field0 (a b c d : Int) (w : World) : Sem.run Try.prog (Instr.field 51 (.agg #[.int .i64 a, .int .i64 b, .int .i64 c, .int .i64 d]) 0) w = .ok (.int .i64 a) w := by kernel_rfl
theorem field2 (a b c d : Int) (w : World) : Sem.run Try.prog (Instr.field 51 (.agg #[.int .i64 a, .int .i64 b, .int .i64 c, .int .i64 d]) 2) w = .ok (.int .i64 c) w := by kernel_rfl
end Go.Proofs.Ytdhikdaegmekbaa
