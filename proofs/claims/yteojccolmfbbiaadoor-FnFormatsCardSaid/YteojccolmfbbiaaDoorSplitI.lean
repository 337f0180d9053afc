/-
  The program's words of a text.
-/
import Derived.Test.YteojccolmfbbiaaDoorSplitV
namespace Go.Proofs.YteojccolmfbbiaaDoor
open Go.ChangeShapes Go.WideShapes Go.ChangeAt Go.RowKit Go.Joins

end Go.Proofs.YteojccolmfbbiaaDoor
