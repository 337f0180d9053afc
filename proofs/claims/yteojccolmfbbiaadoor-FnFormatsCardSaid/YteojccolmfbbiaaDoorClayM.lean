/-
  A clay as told: the model's word.
-/
import Derived.Test.YteojccolmfbbiaaDoorClay
namespace Go.Proofs.YteojccolmfbbiaaDoor
open Go.ChangeShapes Go.WideShapes Go.ChangeAt Go.RowKit Go.Joins

end Go.Proofs.YteojccolmfbbiaaDoor
