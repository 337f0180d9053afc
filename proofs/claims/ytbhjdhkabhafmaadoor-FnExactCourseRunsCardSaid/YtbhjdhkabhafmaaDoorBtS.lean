/-
  Texts of bonds: the model's.
-/
import Derived.Test.YtbhjdhkabhafmaaDoorBtP
import Derived.Test.YtbhjdhkabhafmaaDoorCoS
namespace Go.Proofs.YtbhjdhkabhafmaaDoor
open Go.ChangeShapes Go.WideShapes Go.ChangeAt Go.RowKit Go.Joins

end Go.Proofs.YtbhjdhkabhafmaaDoor
