/-
  impl.ValidFormat: it answers whether a format is valid. Its one drawn region: loads beside a call that makes memory, a guard behind it.
-/
import Derived.Test.YtdhikdaegmekbacC2a
import Derived.Deep.RegionHeld3
namespace Go.Proofs.Ytdhikdaegmekbac
open Go.ChangeShapes Go.WideShapes Go.ChangeAt Go.RowKit Go.Joins

end Go.Proofs.Ytdhikdaegmekbac
