/-
  Marks that the laws write into rows of numbers, and look for again.
-/
import Derived.Test.YtlglijalhacmhabInts
import Derived.Test.YtlglijalhacmhabPartsA
namespace Go.Proofs.Ytlglijalhacmhab
open Go.ChangeShapes Go.WideShapes Go.ChangeAt Go.RowKit Go.Joins

end Go.Proofs.Ytlglijalhacmhab
