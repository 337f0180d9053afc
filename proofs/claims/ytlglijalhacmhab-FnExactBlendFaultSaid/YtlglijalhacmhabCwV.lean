/-
  The walk of the law on ValidClays.
-/
import Derived.Test.YtlglijalhacmhabClayA
import Derived.Test.YtlglijalhacmhabClayB
import Derived.Test.YtlglijalhacmhabClayC
import Derived.Test.YtlglijalhacmhabClayE
import Derived.Test.YtlglijalhacmhabClayV
namespace Go.Proofs.Ytlglijalhacmhab
open Go.ChangeShapes Go.WideShapes Go.ChangeAt Go.RowKit Go.Joins


theorem ClOwn.arg {B : Nat} {L : List Cl} {g : Nat} {w : World} (h : ClOwn B L g w) : ClArg w (some ⟨g, 0, none⟩) L := .inr ⟨g, 0, rfl, h.2.1⟩
end Go.Proofs.Ytlglijalhacmhab
