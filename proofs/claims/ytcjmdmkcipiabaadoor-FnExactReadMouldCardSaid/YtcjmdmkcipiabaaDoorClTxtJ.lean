/-
  The text of a clay: ClayText of the program.
-/
import Derived.Test.YtcjmdmkcipiabaaDoorClTxtI
namespace Go.Proofs.YtcjmdmkcipiabaaDoor
open Go.ChangeShapes Go.WideShapes Go.ChangeAt Go.RowKit Go.Joins

end Go.Proofs.YtcjmdmkcipiabaaDoor
