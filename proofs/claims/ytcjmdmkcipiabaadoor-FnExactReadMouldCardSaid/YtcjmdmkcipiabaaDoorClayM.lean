/-
  A clay as told: the model's word.
-/
import Derived.Test.YtcjmdmkcipiabaaDoorClay
namespace Go.Proofs.YtcjmdmkcipiabaaDoor
open Go.ChangeShapes Go.WideShapes Go.ChangeAt Go.RowKit Go.Joins

end Go.Proofs.YtcjmdmkcipiabaaDoor
