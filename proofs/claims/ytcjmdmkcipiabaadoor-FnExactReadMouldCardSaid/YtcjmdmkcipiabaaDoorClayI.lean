/-
  A clay as told: the program's answer.
-/
import Derived.Test.YtcjmdmkcipiabaaDoorClay
import Derived.Test.YtcjmdmkcipiabaaDoorNameI
import Derived.Deep.RegionWith
namespace Go.Proofs.YtcjmdmkcipiabaaDoor
open Go.ChangeShapes Go.WideShapes Go.ChangeAt Go.RowKit Go.Joins

end Go.Proofs.YtcjmdmkcipiabaaDoor
