/-
  Contracts of chapter 2's small functions: the code of a format and a number, fractions in lowest terms, a format with its joint, volumes.
-/
import Derived.Test.YtdhikdaegmekbacC2a
import Derived.Test.YtdhikdaegmekbacC2v
import Derived.Test.YtdhikdaegmekbacFrac
import Derived.Deep.RegionHeld3
namespace Go.Proofs.Ytdhikdaegmekbac
open Go.ChangeShapes Go.WideShapes Go.ChangeAt Go.RowKit Go.Joins

end Go.Proofs.Ytdhikdaegmekbac
