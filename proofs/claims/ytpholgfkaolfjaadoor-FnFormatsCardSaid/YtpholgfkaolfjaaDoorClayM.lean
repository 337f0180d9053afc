/-
  A clay as told: the model's word.
-/
import Derived.Test.YtpholgfkaolfjaaDoorClay
namespace Go.Proofs.YtpholgfkaolfjaaDoor
open Go.ChangeShapes Go.WideShapes Go.ChangeAt Go.RowKit Go.Joins

end Go.Proofs.YtpholgfkaolfjaaDoor
