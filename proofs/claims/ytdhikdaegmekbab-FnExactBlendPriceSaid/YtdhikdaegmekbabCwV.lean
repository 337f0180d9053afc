/-
  The walk of the law on ValidClays.
-/
import Derived.Test.YtdhikdaegmekbabClayA
import Derived.Test.YtdhikdaegmekbabClayB
import Derived.Test.YtdhikdaegmekbabClayC
import Derived.Test.YtdhikdaegmekbabClayE
import Derived.Test.YtdhikdaegmekbabClayV
namespace Go.Proofs.Ytdhikdaegmekbab
open Go.ChangeShapes Go.WideShapes Go.ChangeAt Go.RowKit Go.Joins


theorem ClOwn.arg {B : Nat} {L : List Cl} {g : Nat} {w : World} (h : ClOwn B L g w) : ClArg w (some ⟨g, 0, none⟩) L := .inr ⟨g, 0, rfl, h.2.1⟩
end Go.Proofs.Ytdhikdaegmekbab
