/-
  The program's words of a text.
-/
import Derived.Test.YtcjmdmkcipiabaaDoorSplitV
namespace Go.Proofs.YtcjmdmkcipiabaaDoor
open Go.ChangeShapes Go.WideShapes Go.ChangeAt Go.RowKit Go.Joins

end Go.Proofs.YtcjmdmkcipiabaaDoor
