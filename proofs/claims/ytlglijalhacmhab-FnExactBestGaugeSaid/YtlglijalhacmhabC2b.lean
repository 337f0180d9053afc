/-
  Contracts of chapter 2's small functions: the code of a format and a number, fractions in lowest terms, a format with its joint, volumes.
-/
import Derived.Test.YtlglijalhacmhabC2a
import Derived.Test.YtlglijalhacmhabC2v
import Derived.Test.YtlglijalhacmhabFrac
import Derived.Deep.RegionHeld3
namespace Go.Proofs.Ytlglijalhacmhab
open Go.ChangeShapes Go.WideShapes Go.ChangeAt Go.RowKit Go.Joins

end Go.Proofs.Ytlglijalhacmhab
