/-
  The text of a clay: ClayText of the program.
-/
import Derived.Test.YteojccolmfbbiaaDoorClTxtI
namespace Go.Proofs.YteojccolmfbbiaaDoor
open Go.ChangeShapes Go.WideShapes Go.ChangeAt Go.RowKit Go.Joins

end Go.Proofs.YteojccolmfbbiaaDoor
