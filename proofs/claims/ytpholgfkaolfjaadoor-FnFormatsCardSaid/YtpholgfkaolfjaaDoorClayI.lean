/-
  A clay as told: the program's answer.
-/
import Derived.Test.YtpholgfkaolfjaaDoorClay
import Derived.Test.YtpholgfkaolfjaaDoorNameI
import Derived.Deep.RegionWith
namespace Go.Proofs.YtpholgfkaolfjaaDoor
open Go.ChangeShapes Go.WideShapes Go.ChangeAt Go.RowKit Go.Joins

end Go.Proofs.YtpholgfkaolfjaaDoor
