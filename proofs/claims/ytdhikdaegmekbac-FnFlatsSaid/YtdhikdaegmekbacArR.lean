/-
  Rings: what is valid, the place of some bricks, the number of bricks: contracts of the program and of the model.
-/
import Derived.Test.YtdhikdaegmekbacArB
namespace Go.Proofs.Ytdhikdaegmekbac
open Go.ChangeShapes Go.WideShapes Go.ChangeAt Go.RowKit Go.Joins

end Go.Proofs.Ytdhikdaegmekbac
