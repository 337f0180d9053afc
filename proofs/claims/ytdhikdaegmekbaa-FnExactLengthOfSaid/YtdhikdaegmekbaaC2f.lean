/-
  Contract of VolumeOf by the program: three calls beside two loads in one drawn region.
-/
import Derived.Test.YtdhikdaegmekbaaC2e
namespace Go.Proofs.Ytdhikdaegmekbaa
open Go.ChangeShapes Go.WideShapes Go.ChangeAt Go.RowKit Go.Joins

end Go.Proofs.Ytdhikdaegmekbaa
