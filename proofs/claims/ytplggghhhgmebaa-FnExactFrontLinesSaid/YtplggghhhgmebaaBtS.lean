/-
  Texts of bonds: the model's.
-/
import Derived.Test.YtplggghhhgmebaaBtP
import Derived.Test.YtplggghhhgmebaaCoS
namespace Go.Proofs.Ytplggghhhgmebaa
open Go.ChangeShapes Go.WideShapes Go.ChangeAt Go.RowKit Go.Joins

end Go.Proofs.Ytplggghhhgmebaa
