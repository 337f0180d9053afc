/-
  Texts of bonds: the model's.
-/
import Derived.Test.YtgffgcobgjngnaaDoorBtP
import Derived.Test.YtgffgcobgjngnaaDoorCoS
namespace Go.Proofs.YtgffgcobgjngnaaDoor
open Go.ChangeShapes Go.WideShapes Go.ChangeAt Go.RowKit Go.Joins

end Go.Proofs.YtgffgcobgjngnaaDoor
