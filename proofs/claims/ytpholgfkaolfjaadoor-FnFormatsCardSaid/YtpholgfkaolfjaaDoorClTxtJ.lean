/-
  The text of a clay: ClayText of the program.
-/
import Derived.Test.YtpholgfkaolfjaaDoorClTxtI
namespace Go.Proofs.YtpholgfkaolfjaaDoor
open Go.ChangeShapes Go.WideShapes Go.ChangeAt Go.RowKit Go.Joins

end Go.Proofs.YtpholgfkaolfjaaDoor
