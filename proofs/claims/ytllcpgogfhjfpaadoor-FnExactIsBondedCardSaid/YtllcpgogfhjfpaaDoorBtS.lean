/-
  Texts of bonds: the model's.
-/
import Derived.Test.YtllcpgogfhjfpaaDoorBtP
import Derived.Test.YtllcpgogfhjfpaaDoorCoS
namespace Go.Proofs.YtllcpgogfhjfpaaDoor
open Go.ChangeShapes Go.WideShapes Go.ChangeAt Go.RowKit Go.Joins

end Go.Proofs.YtllcpgogfhjfpaaDoor
