/-
  The answers on rings: inner length, number of bricks, joints, taper, whether it must taper: contracts of the program and of the model.
-/
import Derived.Test.YtdhikdaegmekbacArJ
namespace Go.Proofs.Ytdhikdaegmekbac
open Go.ChangeShapes Go.WideShapes Go.ChangeAt Go.RowKit Go.Joins


theorem arf1 {a b c a' b' c' : Int} (h1 : a = a') (h2 : b = b') (h3 : c = c') : Ending.returned (.tuple #[.agg #[.int .i64 a, .int .i64 b], .int .i64 c]) = .returned (.tuple #[.agg #[.int .i64 a', .int .i64 b'], .int .i64 c']) := by rw [h1, h2, h3]
theorem arf2 {a b c d k a' b' c' d' k' : Int} (h1 : a = a') (h2 : b = b') (h3 : c = c') (h4 : d = d') (h5 : k = k') : Ending.returned (.tuple #[.agg #[.int .i64 a, .int .i64 b], .agg #[.int .i64 c, .int .i64 d], .int .i64 k]) = .returned (.tuple #[.agg #[.int .i64 a', .int .i64 b'], .agg #[.int .i64 c', .int .i64 d'], .int .i64 k']) := by rw [h1, h2, h3, h4, h5]
theorem arf0 {a b a' b' : Int} (h1 : a = a') (h2 : b = b') : Ending.returned (.tuple #[.int .i64 a, .int .i64 b]) = .returned (.tuple #[.int .i64 a', .int .i64 b']) := by rw [h1, h2]
theorem arfb {a a' : Bool} {b b' : Int} (h1 : a = a') (h2 : b = b') : Ending.returned (.tuple #[.bool a, .int .i64 b]) = .returned (.tuple #[.bool a', .int .i64 b']) := by rw [h1, h2]
def iC (R D B J : Int) : Int := if okR R D B J = true then 0 else 1
def iN (R D B J : Int) : Int := if okR R D B J = true then lowN (355 * R) 113 else 0
def iD (R D B J : Int) : Int := if okR R D B J = true then lowD (355 * R) 113 else 0
def joN (X R D B J : Int) : Int := if rC R D B J = 0 then jN X B (rN R D B J) else 0
def joD (X R D B J : Int) : Int := if rC R D B J = 0 then jD X B (rN R D B J) else 0
def taN (R D B J : Int) : Int := if rC R D B J = 0 then lowN (355 * D) (113 * rN R D B J) else 0
def taD (R D B J : Int) : Int := if rC R D B J = 0 then lowD (355 * D) (113 * rN R D B J) else 0
def muC (R D B J m : Int) : Int := if okR R D B J = true then (if inB m 1 100 = true then rC R D B J else 2) else 1
def muB (R D B J m : Int) : Bool := decide (muC R D B J m = 0) && decide (m * jD (R + D) B (rN R D B J) < jN (R + D) B (rN R D B J))
end Go.Proofs.Ytdhikdaegmekbac
