/-
  Which rods are right: the program (apart, for seats that do not reach it).
-/
import Derived.Test.YtlglijalhacmhabGq
namespace Go.Proofs.Ytlglijalhacmhab
open Go.ChangeShapes Go.WideShapes Go.ChangeAt Go.RowKit Go.Joins

end Go.Proofs.Ytlglijalhacmhab
