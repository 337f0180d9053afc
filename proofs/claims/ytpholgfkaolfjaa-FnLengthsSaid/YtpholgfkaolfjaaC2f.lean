/-
  Contract of VolumeOf by the program: three calls beside two loads in one drawn region.
-/
import Derived.Test.YtpholgfkaolfjaaC2e
namespace Go.Proofs.Ytpholgfkaolfjaa
open Go.ChangeShapes Go.WideShapes Go.ChangeAt Go.RowKit Go.Joins

end Go.Proofs.Ytpholgfkaolfjaa
