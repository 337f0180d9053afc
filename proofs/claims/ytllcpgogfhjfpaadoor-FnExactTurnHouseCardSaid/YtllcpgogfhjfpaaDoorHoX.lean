/-
  Plans by the model: lengths around, sides that run through, sides in courses.
-/
import Derived.Test.YtllcpgogfhjfpaaDoorHoT
import Derived.Test.YtllcpgogfhjfpaaDoorHoV
import Derived.Deep.RegionWith
namespace Go.Proofs.YtllcpgogfhjfpaaDoor
open Go.ChangeShapes Go.WideShapes Go.ChangeAt Go.RowKit Go.Joins

end Go.Proofs.YtllcpgogfhjfpaaDoor
