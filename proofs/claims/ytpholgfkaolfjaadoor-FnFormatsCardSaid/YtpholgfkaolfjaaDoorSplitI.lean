/-
  The program's words of a text.
-/
import Derived.Test.YtpholgfkaolfjaaDoorSplitV
namespace Go.Proofs.YtpholgfkaolfjaaDoor
open Go.ChangeShapes Go.WideShapes Go.ChangeAt Go.RowKit Go.Joins

end Go.Proofs.YtpholgfkaolfjaaDoor
