/-
  A clay as told: the program's answer.
-/
import Derived.Test.YteojccolmfbbiaaDoorClay
import Derived.Test.YteojccolmfbbiaaDoorNameI
import Derived.Deep.RegionWith
namespace Go.Proofs.YteojccolmfbbiaaDoor
open Go.ChangeShapes Go.WideShapes Go.ChangeAt Go.RowKit Go.Joins

end Go.Proofs.YteojccolmfbbiaaDoor
