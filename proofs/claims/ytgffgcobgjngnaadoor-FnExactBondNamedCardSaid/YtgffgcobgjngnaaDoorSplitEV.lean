/-
  What the laws ask of rows of texts: equality, marks.
-/
import Derived.Test.YtgffgcobgjngnaaDoorSplitV
namespace Go.Proofs.YtgffgcobgjngnaaDoor
open Go.ChangeShapes Go.WideShapes Go.ChangeAt Go.RowKit Go.Joins

end Go.Proofs.YtgffgcobgjngnaaDoor
