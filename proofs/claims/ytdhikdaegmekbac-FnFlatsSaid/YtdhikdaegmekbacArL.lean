/-
  Rings: whether some bricks have place, the greatest odd number that has, a ring with its bricks: contracts of the program.
-/
import Derived.Test.YtdhikdaegmekbacArR
namespace Go.Proofs.Ytdhikdaegmekbac
open Go.ChangeShapes Go.WideShapes Go.ChangeAt Go.RowKit Go.Joins

end Go.Proofs.Ytdhikdaegmekbac
