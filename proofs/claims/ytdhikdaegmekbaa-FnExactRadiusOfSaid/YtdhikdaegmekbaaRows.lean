/-
  No cell of these rows narrows 'for every input' (looked for: loops, veiled, ifaces, maps, wideKeys, modest, calm, conditions, laid).
  DERIVED. THE GIVEN ROWS OF THIS SEAT. 12 by the template 'for every input the law returns true; each argument reads behind the call as it read before'; 0 by the template 'total and deterministic' (their statements: YtdhikdaegmekbaaTotals.lean).
  GIVEN WITH THE SEED: the statements are not yours to turn. If you find one false, say at which input.
  Laid BY PROGRAM, IN A SANDBOX (cutbox-rows.mjs): the forced cells as the released guide's own fill.sh prints them over the translation bf17ab83919411a5… (all of the seat's roots in one cut). By AI agents, Wed Nov 11 2026. No macro, syntax, notation, axiom, sorry.
-/
import Derived.Test.YtdhikdaegmekbaaChecked
import GoSem.Claim
import GoSem.ClaimJoined
import GoSem.ClaimMapViews
import Derived.JoinedTies
import Derived.KernelRfl
namespace Go.Proofs.Ytdhikdaegmekbaa
/- THE CELL 'sum', in the pinned program and in every row, IS THE sha256 OF THE DUMP (.gsa) THAT YtdhikdaegmekbaaProg.lean LOADS. Nothing in Lean hashes anything: it is a label: what it is worth is what the hold of that sum in a sandbox is worth. -/
noncomputable def Try.pinned : Pinned := { name := "ytdhikdaegmekbaa", sum := "bf17ab83919411a5eb865bdaf18e32d30556f7a4e0814200bd0039d5386ee0d7", checked := Try.checked }
namespace Rows
def none {H : Type} : Left H := { results := [], args := [] }

/-- 'laws.FnExactValidRing': WHATEVER THE INPUT: true; the input reads as it did. -/
def fnExactValidRingSpec : ChangeSpec := { name := "fnExactValidRing", fn := fun _ => fun
  | [d] => { results := [.lit (.bool true)], args := [d] }
  | _ => none }
def fnExactValidRingRow : OpenClaim := { program := "ytdhikdaegmekbaa", sum := "bf17ab83919411a5eb865bdaf18e32d30556f7a4e0814200bd0039d5386ee0d7", func := "loop.example/g01042/laws.FnExactValidRing", spec := "fnExactValidRing", apart := false }
def FnExactValidRingSaid : Prop := fnExactValidRingRow.holds Try.pinned (OpenSpec.ofChange fnExactValidRingSpec)

/-- ITS FALSE NEIGHBOUR: 'it returns false'. Refute it at one input. -/
def fnExactValidRingWrong : ChangeSpec := { name := "fnExactValidRing", fn := fun _ => fun
  | [d] => { results := [.lit (.bool false)], args := [d] }
  | _ => none }
def FnExactValidRingWrongFalsely : Prop := fnExactValidRingRow.holds Try.pinned (OpenSpec.ofChange fnExactValidRingWrong)

/-- 'laws.FnExactInnerLength': WHATEVER THE INPUT: true; the input reads as it did. -/
def fnExactInnerLengthSpec : ChangeSpec := { name := "fnExactInnerLength", fn := fun _ => fun
  | [d] => { results := [.lit (.bool true)], args := [d] }
  | _ => none }
def fnExactInnerLengthRow : OpenClaim := { program := "ytdhikdaegmekbaa", sum := "bf17ab83919411a5eb865bdaf18e32d30556f7a4e0814200bd0039d5386ee0d7", func := "loop.example/g01042/laws.FnExactInnerLength", spec := "fnExactInnerLength", apart := false }
def FnExactInnerLengthSaid : Prop := fnExactInnerLengthRow.holds Try.pinned (OpenSpec.ofChange fnExactInnerLengthSpec)

/-- ITS FALSE NEIGHBOUR: 'it returns false'. Refute it at one input. -/
def fnExactInnerLengthWrong : ChangeSpec := { name := "fnExactInnerLength", fn := fun _ => fun
  | [d] => { results := [.lit (.bool false)], args := [d] }
  | _ => none }
def FnExactInnerLengthWrongFalsely : Prop := fnExactInnerLengthRow.holds Try.pinned (OpenSpec.ofChange fnExactInnerLengthWrong)

/-- 'laws.FnExactBricksIn': WHATEVER THE INPUT: true; the input reads as it did. -/
def fnExactBricksInSpec : ChangeSpec := { name := "fnExactBricksIn", fn := fun _ => fun
  | [d] => { results := [.lit (.bool true)], args := [d] }
  | _ => none }
def fnExactBricksInRow : OpenClaim := { program := "ytdhikdaegmekbaa", sum := "bf17ab83919411a5eb865bdaf18e32d30556f7a4e0814200bd0039d5386ee0d7", func := "loop.example/g01042/laws.FnExactBricksIn", spec := "fnExactBricksIn", unfollowed := true, recurses := true, apart := false }
def FnExactBricksInSaid : Prop := fnExactBricksInRow.holds Try.pinned (OpenSpec.ofChange fnExactBricksInSpec)

/-- ITS FALSE NEIGHBOUR: 'it returns false'. Refute it at one input. -/
def fnExactBricksInWrong : ChangeSpec := { name := "fnExactBricksIn", fn := fun _ => fun
  | [d] => { results := [.lit (.bool false)], args := [d] }
  | _ => none }
def FnExactBricksInWrongFalsely : Prop := fnExactBricksInRow.holds Try.pinned (OpenSpec.ofChange fnExactBricksInWrong)

/-- 'laws.FnExactJointsOf': WHATEVER THE INPUT: true; the input reads as it did. -/
def fnExactJointsOfSpec : ChangeSpec := { name := "fnExactJointsOf", fn := fun _ => fun
  | [d] => { results := [.lit (.bool true)], args := [d] }
  | _ => none }
def fnExactJointsOfRow : OpenClaim := { program := "ytdhikdaegmekbaa", sum := "bf17ab83919411a5eb865bdaf18e32d30556f7a4e0814200bd0039d5386ee0d7", func := "loop.example/g01042/laws.FnExactJointsOf", spec := "fnExactJointsOf", unfollowed := true, recurses := true, apart := false }
def FnExactJointsOfSaid : Prop := fnExactJointsOfRow.holds Try.pinned (OpenSpec.ofChange fnExactJointsOfSpec)

/-- ITS FALSE NEIGHBOUR: 'it returns false'. Refute it at one input. -/
def fnExactJointsOfWrong : ChangeSpec := { name := "fnExactJointsOf", fn := fun _ => fun
  | [d] => { results := [.lit (.bool false)], args := [d] }
  | _ => none }
def FnExactJointsOfWrongFalsely : Prop := fnExactJointsOfRow.holds Try.pinned (OpenSpec.ofChange fnExactJointsOfWrong)

/-- 'laws.FnExactTaperOf': WHATEVER THE INPUT: true; the input reads as it did. -/
def fnExactTaperOfSpec : ChangeSpec := { name := "fnExactTaperOf", fn := fun _ => fun
  | [d] => { results := [.lit (.bool true)], args := [d] }
  | _ => none }
def fnExactTaperOfRow : OpenClaim := { program := "ytdhikdaegmekbaa", sum := "bf17ab83919411a5eb865bdaf18e32d30556f7a4e0814200bd0039d5386ee0d7", func := "loop.example/g01042/laws.FnExactTaperOf", spec := "fnExactTaperOf", unfollowed := true, recurses := true, apart := false }
def FnExactTaperOfSaid : Prop := fnExactTaperOfRow.holds Try.pinned (OpenSpec.ofChange fnExactTaperOfSpec)

/-- ITS FALSE NEIGHBOUR: 'it returns false'. Refute it at one input. -/
def fnExactTaperOfWrong : ChangeSpec := { name := "fnExactTaperOf", fn := fun _ => fun
  | [d] => { results := [.lit (.bool false)], args := [d] }
  | _ => none }
def FnExactTaperOfWrongFalsely : Prop := fnExactTaperOfRow.holds Try.pinned (OpenSpec.ofChange fnExactTaperOfWrong)

/-- 'laws.FnExactMustTaper': WHATEVER THE INPUT: true; the input reads as it did. -/
def fnExactMustTaperSpec : ChangeSpec := { name := "fnExactMustTaper", fn := fun _ => fun
  | [d1, d2] => { results := [.lit (.bool true)], args := [d1, d2] }
  | _ => none }
def fnExactMustTaperRow : OpenClaim := { program := "ytdhikdaegmekbaa", sum := "bf17ab83919411a5eb865bdaf18e32d30556f7a4e0814200bd0039d5386ee0d7", func := "loop.example/g01042/laws.FnExactMustTaper", spec := "fnExactMustTaper", unfollowed := true, recurses := true, apart := false }
def FnExactMustTaperSaid : Prop := fnExactMustTaperRow.holds Try.pinned (OpenSpec.ofChange fnExactMustTaperSpec)

/-- ITS FALSE NEIGHBOUR: 'it returns false'. Refute it at one input. -/
def fnExactMustTaperWrong : ChangeSpec := { name := "fnExactMustTaper", fn := fun _ => fun
  | [d1, d2] => { results := [.lit (.bool false)], args := [d1, d2] }
  | _ => none }
def FnExactMustTaperWrongFalsely : Prop := fnExactMustTaperRow.holds Try.pinned (OpenSpec.ofChange fnExactMustTaperWrong)

/-- 'laws.FnExactRadiusOf': WHATEVER THE INPUT: true; the input reads as it did. -/
def fnExactRadiusOfSpec : ChangeSpec := { name := "fnExactRadiusOf", fn := fun _ => fun
  | [d1, d2] => { results := [.lit (.bool true)], args := [d1, d2] }
  | _ => none }
def fnExactRadiusOfRow : OpenClaim := { program := "ytdhikdaegmekbaa", sum := "bf17ab83919411a5eb865bdaf18e32d30556f7a4e0814200bd0039d5386ee0d7", func := "loop.example/g01042/laws.FnExactRadiusOf", spec := "fnExactRadiusOf", apart := false }
def FnExactRadiusOfSaid : Prop := fnExactRadiusOfRow.holds Try.pinned (OpenSpec.ofChange fnExactRadiusOfSpec)

/-- ITS FALSE NEIGHBOUR: 'it returns false'. Refute it at one input. -/
def fnExactRadiusOfWrong : ChangeSpec := { name := "fnExactRadiusOf", fn := fun _ => fun
  | [d1, d2] => { results := [.lit (.bool false)], args := [d1, d2] }
  | _ => none }
def FnExactRadiusOfWrongFalsely : Prop := fnExactRadiusOfRow.holds Try.pinned (OpenSpec.ofChange fnExactRadiusOfWrong)

/-- 'laws.FnExactArcPoint': WHATEVER THE INPUT: true; the input reads as it did. -/
def fnExactArcPointSpec : ChangeSpec := { name := "fnExactArcPoint", fn := fun _ => fun
  | [d1, d2, d3] => { results := [.lit (.bool true)], args := [d1, d2, d3] }
  | _ => none }
def fnExactArcPointRow : OpenClaim := { program := "ytdhikdaegmekbaa", sum := "bf17ab83919411a5eb865bdaf18e32d30556f7a4e0814200bd0039d5386ee0d7", func := "loop.example/g01042/laws.FnExactArcPoint", spec := "fnExactArcPoint", apart := false }
def FnExactArcPointSaid : Prop := fnExactArcPointRow.holds Try.pinned (OpenSpec.ofChange fnExactArcPointSpec)

/-- ITS FALSE NEIGHBOUR: 'it returns false'. Refute it at one input. -/
def fnExactArcPointWrong : ChangeSpec := { name := "fnExactArcPoint", fn := fun _ => fun
  | [d1, d2, d3] => { results := [.lit (.bool false)], args := [d1, d2, d3] }
  | _ => none }
def FnExactArcPointWrongFalsely : Prop := fnExactArcPointRow.holds Try.pinned (OpenSpec.ofChange fnExactArcPointWrong)

/-- 'laws.FnExactFlatWidths': WHATEVER THE INPUT: true; the input reads as it did. -/
def fnExactFlatWidthsSpec : ChangeSpec := { name := "fnExactFlatWidths", fn := fun _ => fun
  | [d1, d2, d3, d4] => { results := [.lit (.bool true)], args := [d1, d2, d3, d4] }
  | _ => none }
def fnExactFlatWidthsRow : OpenClaim := { program := "ytdhikdaegmekbaa", sum := "bf17ab83919411a5eb865bdaf18e32d30556f7a4e0814200bd0039d5386ee0d7", func := "loop.example/g01042/laws.FnExactFlatWidths", spec := "fnExactFlatWidths", apart := false }
def FnExactFlatWidthsSaid : Prop := fnExactFlatWidthsRow.holds Try.pinned (OpenSpec.ofChange fnExactFlatWidthsSpec)

/-- ITS FALSE NEIGHBOUR: 'it returns false'. Refute it at one input. -/
def fnExactFlatWidthsWrong : ChangeSpec := { name := "fnExactFlatWidths", fn := fun _ => fun
  | [d1, d2, d3, d4] => { results := [.lit (.bool false)], args := [d1, d2, d3, d4] }
  | _ => none }
def FnExactFlatWidthsWrongFalsely : Prop := fnExactFlatWidthsRow.holds Try.pinned (OpenSpec.ofChange fnExactFlatWidthsWrong)

/-- 'laws.FnExactFlatBricks': WHATEVER THE INPUT: true; the input reads as it did. -/
def fnExactFlatBricksSpec : ChangeSpec := { name := "fnExactFlatBricks", fn := fun _ => fun
  | [d1, d2, d3, d4] => { results := [.lit (.bool true)], args := [d1, d2, d3, d4] }
  | _ => none }
def fnExactFlatBricksRow : OpenClaim := { program := "ytdhikdaegmekbaa", sum := "bf17ab83919411a5eb865bdaf18e32d30556f7a4e0814200bd0039d5386ee0d7", func := "loop.example/g01042/laws.FnExactFlatBricks", spec := "fnExactFlatBricks", unfollowed := true, recurses := true, apart := false }
def FnExactFlatBricksSaid : Prop := fnExactFlatBricksRow.holds Try.pinned (OpenSpec.ofChange fnExactFlatBricksSpec)

/-- ITS FALSE NEIGHBOUR: 'it returns false'. Refute it at one input. -/
def fnExactFlatBricksWrong : ChangeSpec := { name := "fnExactFlatBricks", fn := fun _ => fun
  | [d1, d2, d3, d4] => { results := [.lit (.bool false)], args := [d1, d2, d3, d4] }
  | _ => none }
def FnExactFlatBricksWrongFalsely : Prop := fnExactFlatBricksRow.holds Try.pinned (OpenSpec.ofChange fnExactFlatBricksWrong)

/-- 'laws.FnExactLeanOf': WHATEVER THE INPUT: true; the input reads as it did. -/
def fnExactLeanOfSpec : ChangeSpec := { name := "fnExactLeanOf", fn := fun _ => fun
  | [d1, d2, d3] => { results := [.lit (.bool true)], args := [d1, d2, d3] }
  | _ => none }
def fnExactLeanOfRow : OpenClaim := { program := "ytdhikdaegmekbaa", sum := "bf17ab83919411a5eb865bdaf18e32d30556f7a4e0814200bd0039d5386ee0d7", func := "loop.example/g01042/laws.FnExactLeanOf", spec := "fnExactLeanOf", apart := false }
def FnExactLeanOfSaid : Prop := fnExactLeanOfRow.holds Try.pinned (OpenSpec.ofChange fnExactLeanOfSpec)

/-- ITS FALSE NEIGHBOUR: 'it returns false'. Refute it at one input. -/
def fnExactLeanOfWrong : ChangeSpec := { name := "fnExactLeanOf", fn := fun _ => fun
  | [d1, d2, d3] => { results := [.lit (.bool false)], args := [d1, d2, d3] }
  | _ => none }
def FnExactLeanOfWrongFalsely : Prop := fnExactLeanOfRow.holds Try.pinned (OpenSpec.ofChange fnExactLeanOfWrong)

/-- 'laws.FnExactLengthOf': WHATEVER THE INPUT: true; the input reads as it did. -/
def fnExactLengthOfSpec : ChangeSpec := { name := "fnExactLengthOf", fn := fun _ => fun
  | [d1, d2] => { results := [.lit (.bool true)], args := [d1, d2] }
  | _ => none }
def fnExactLengthOfRow : OpenClaim := { program := "ytdhikdaegmekbaa", sum := "bf17ab83919411a5eb865bdaf18e32d30556f7a4e0814200bd0039d5386ee0d7", func := "loop.example/g01042/laws.FnExactLengthOf", spec := "fnExactLengthOf", apart := false }
def FnExactLengthOfSaid : Prop := fnExactLengthOfRow.holds Try.pinned (OpenSpec.ofChange fnExactLengthOfSpec)

/-- ITS FALSE NEIGHBOUR: 'it returns false'. Refute it at one input. -/
def fnExactLengthOfWrong : ChangeSpec := { name := "fnExactLengthOf", fn := fun _ => fun
  | [d1, d2] => { results := [.lit (.bool false)], args := [d1, d2] }
  | _ => none }
def FnExactLengthOfWrongFalsely : Prop := fnExactLengthOfRow.holds Try.pinned (OpenSpec.ofChange fnExactLengthOfWrong)

/- THE SECOND FORM. 'bulk': how many values and letters a reading holds, each counted each time it is reached (what is shared counts as often as it is met; a slice's spare places count too). A statement '..UptoSaid' is the law's where the arguments, and the package variables that the reading takes, are together of bulk at most 1048576: NARROWER than '..Said'. Prove '..Said' where nothing that the law and all that it calls make is longer than what came in: it says more and counts as full. Else prove '..UptoSaid'. A law counts once. -/
mutual
def uptoBulk {H : Type} : DataW H → Nat
  | .lit (.string bytes) => bytes.length + 1
  | .lit _ => 1
  | .nil => 1
  | .ptr d => uptoBulk d + 1
  | .slice elems spare => uptoBulkAll elems + uptoBulkAll spare + 1
  | .agg parts => uptoBulkAll parts + 1
  | .iface _ d => uptoBulk d + 1
  | .map entries => uptoBulkEntries entries + 1
  | .held _ => 1
def uptoBulkAll {H : Type} : List (DataW H) → Nat
  | [] => 0
  | d :: r => uptoBulk d + uptoBulkAll r
def uptoBulkEntries {H : Type} : List (Lit × DataW H) → Nat
  | [] => 0
  | x :: r => uptoBulkEntry x + uptoBulkEntries r
def uptoBulkEntry {H : Type} : Lit × DataW H → Nat
  | (.string bytes, d) => bytes.length + uptoBulk d + 1
  | (_, d) => uptoBulk d + 1
 end
def uptoSmall : (H : Type) → List (DataW H) → Bool := fun _ ds => decide (uptoBulkAll ds ≤ 1048576)
def OpenSpec.upto (s : _root_.Go.ChangeSpec) : _root_.Go.OpenSpec := { _root_.Go.OpenSpec.ofChange s with cond := some uptoSmall }

/-- 'laws.FnExactValidRing', WHERE WHAT IT READS IS OF BULK AT MOST 1048576: true; the input reads as it did. -/
def fnExactValidRingUptoRow : OpenClaim := { program := "ytdhikdaegmekbaa", sum := "bf17ab83919411a5eb865bdaf18e32d30556f7a4e0814200bd0039d5386ee0d7", func := "loop.example/g01042/laws.FnExactValidRing", spec := "fnExactValidRing", apart := false, narrowed := true }
def FnExactValidRingUptoSaid : Prop := fnExactValidRingUptoRow.holds Try.pinned (OpenSpec.upto fnExactValidRingSpec)

/-- 'laws.FnExactInnerLength', WHERE WHAT IT READS IS OF BULK AT MOST 1048576: true; the input reads as it did. -/
def fnExactInnerLengthUptoRow : OpenClaim := { program := "ytdhikdaegmekbaa", sum := "bf17ab83919411a5eb865bdaf18e32d30556f7a4e0814200bd0039d5386ee0d7", func := "loop.example/g01042/laws.FnExactInnerLength", spec := "fnExactInnerLength", apart := false, narrowed := true }
def FnExactInnerLengthUptoSaid : Prop := fnExactInnerLengthUptoRow.holds Try.pinned (OpenSpec.upto fnExactInnerLengthSpec)

/-- 'laws.FnExactBricksIn', WHERE WHAT IT READS IS OF BULK AT MOST 1048576: true; the input reads as it did. -/
def fnExactBricksInUptoRow : OpenClaim := { program := "ytdhikdaegmekbaa", sum := "bf17ab83919411a5eb865bdaf18e32d30556f7a4e0814200bd0039d5386ee0d7", func := "loop.example/g01042/laws.FnExactBricksIn", spec := "fnExactBricksIn", unfollowed := true, recurses := true, apart := false, narrowed := true }
def FnExactBricksInUptoSaid : Prop := fnExactBricksInUptoRow.holds Try.pinned (OpenSpec.upto fnExactBricksInSpec)

/-- 'laws.FnExactJointsOf', WHERE WHAT IT READS IS OF BULK AT MOST 1048576: true; the input reads as it did. -/
def fnExactJointsOfUptoRow : OpenClaim := { program := "ytdhikdaegmekbaa", sum := "bf17ab83919411a5eb865bdaf18e32d30556f7a4e0814200bd0039d5386ee0d7", func := "loop.example/g01042/laws.FnExactJointsOf", spec := "fnExactJointsOf", unfollowed := true, recurses := true, apart := false, narrowed := true }
def FnExactJointsOfUptoSaid : Prop := fnExactJointsOfUptoRow.holds Try.pinned (OpenSpec.upto fnExactJointsOfSpec)

/-- 'laws.FnExactTaperOf', WHERE WHAT IT READS IS OF BULK AT MOST 1048576: true; the input reads as it did. -/
def fnExactTaperOfUptoRow : OpenClaim := { program := "ytdhikdaegmekbaa", sum := "bf17ab83919411a5eb865bdaf18e32d30556f7a4e0814200bd0039d5386ee0d7", func := "loop.example/g01042/laws.FnExactTaperOf", spec := "fnExactTaperOf", unfollowed := true, recurses := true, apart := false, narrowed := true }
def FnExactTaperOfUptoSaid : Prop := fnExactTaperOfUptoRow.holds Try.pinned (OpenSpec.upto fnExactTaperOfSpec)

/-- 'laws.FnExactMustTaper', WHERE WHAT IT READS IS OF BULK AT MOST 1048576: true; the input reads as it did. -/
def fnExactMustTaperUptoRow : OpenClaim := { program := "ytdhikdaegmekbaa", sum := "bf17ab83919411a5eb865bdaf18e32d30556f7a4e0814200bd0039d5386ee0d7", func := "loop.example/g01042/laws.FnExactMustTaper", spec := "fnExactMustTaper", unfollowed := true, recurses := true, apart := false, narrowed := true }
def FnExactMustTaperUptoSaid : Prop := fnExactMustTaperUptoRow.holds Try.pinned (OpenSpec.upto fnExactMustTaperSpec)

/-- 'laws.FnExactRadiusOf', WHERE WHAT IT READS IS OF BULK AT MOST 1048576: true; the input reads as it did. -/
def fnExactRadiusOfUptoRow : OpenClaim := { program := "ytdhikdaegmekbaa", sum := "bf17ab83919411a5eb865bdaf18e32d30556f7a4e0814200bd0039d5386ee0d7", func := "loop.example/g01042/laws.FnExactRadiusOf", spec := "fnExactRadiusOf", apart := false, narrowed := true }
def FnExactRadiusOfUptoSaid : Prop := fnExactRadiusOfUptoRow.holds Try.pinned (OpenSpec.upto fnExactRadiusOfSpec)

/-- 'laws.FnExactArcPoint', WHERE WHAT IT READS IS OF BULK AT MOST 1048576: true; the input reads as it did. -/
def fnExactArcPointUptoRow : OpenClaim := { program := "ytdhikdaegmekbaa", sum := "bf17ab83919411a5eb865bdaf18e32d30556f7a4e0814200bd0039d5386ee0d7", func := "loop.example/g01042/laws.FnExactArcPoint", spec := "fnExactArcPoint", apart := false, narrowed := true }
def FnExactArcPointUptoSaid : Prop := fnExactArcPointUptoRow.holds Try.pinned (OpenSpec.upto fnExactArcPointSpec)

/-- 'laws.FnExactFlatWidths', WHERE WHAT IT READS IS OF BULK AT MOST 1048576: true; the input reads as it did. -/
def fnExactFlatWidthsUptoRow : OpenClaim := { program := "ytdhikdaegmekbaa", sum := "bf17ab83919411a5eb865bdaf18e32d30556f7a4e0814200bd0039d5386ee0d7", func := "loop.example/g01042/laws.FnExactFlatWidths", spec := "fnExactFlatWidths", apart := false, narrowed := true }
def FnExactFlatWidthsUptoSaid : Prop := fnExactFlatWidthsUptoRow.holds Try.pinned (OpenSpec.upto fnExactFlatWidthsSpec)

/-- 'laws.FnExactFlatBricks', WHERE WHAT IT READS IS OF BULK AT MOST 1048576: true; the input reads as it did. -/
def fnExactFlatBricksUptoRow : OpenClaim := { program := "ytdhikdaegmekbaa", sum := "bf17ab83919411a5eb865bdaf18e32d30556f7a4e0814200bd0039d5386ee0d7", func := "loop.example/g01042/laws.FnExactFlatBricks", spec := "fnExactFlatBricks", unfollowed := true, recurses := true, apart := false, narrowed := true }
def FnExactFlatBricksUptoSaid : Prop := fnExactFlatBricksUptoRow.holds Try.pinned (OpenSpec.upto fnExactFlatBricksSpec)

/-- 'laws.FnExactLeanOf', WHERE WHAT IT READS IS OF BULK AT MOST 1048576: true; the input reads as it did. -/
def fnExactLeanOfUptoRow : OpenClaim := { program := "ytdhikdaegmekbaa", sum := "bf17ab83919411a5eb865bdaf18e32d30556f7a4e0814200bd0039d5386ee0d7", func := "loop.example/g01042/laws.FnExactLeanOf", spec := "fnExactLeanOf", apart := false, narrowed := true }
def FnExactLeanOfUptoSaid : Prop := fnExactLeanOfUptoRow.holds Try.pinned (OpenSpec.upto fnExactLeanOfSpec)

/-- 'laws.FnExactLengthOf', WHERE WHAT IT READS IS OF BULK AT MOST 1048576: true; the input reads as it did. -/
def fnExactLengthOfUptoRow : OpenClaim := { program := "ytdhikdaegmekbaa", sum := "bf17ab83919411a5eb865bdaf18e32d30556f7a4e0814200bd0039d5386ee0d7", func := "loop.example/g01042/laws.FnExactLengthOf", spec := "fnExactLengthOf", apart := false, narrowed := true }
def FnExactLengthOfUptoSaid : Prop := fnExactLengthOfUptoRow.holds Try.pinned (OpenSpec.upto fnExactLengthOfSpec)

end Rows
end Go.Proofs.Ytdhikdaegmekbaa
