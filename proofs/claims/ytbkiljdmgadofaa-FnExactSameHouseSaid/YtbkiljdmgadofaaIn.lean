/-
  A number lies within bounds: the program's and the model's word for it.
-/
import Derived.Test.YtbkiljdmgadofaaBase
namespace Go.Proofs.Ytbkiljdmgadofaa
open Go.ChangeShapes Go.WideShapes Go.ChangeAt Go.RowKit Go.Joins

end Go.Proofs.Ytbkiljdmgadofaa
