/-
  No cell of these rows narrows 'for every input' (looked for: loops, veiled, ifaces, maps, wideKeys, modest, calm, conditions, laid).
  DERIVED. THE GIVEN ROWS OF THIS SEAT. 10 by the template 'for every input the law returns true; each argument reads behind the call as it read before'; 0 by the template 'total and deterministic' (their statements: YtplggghhhgmebaaTotals.lean).
  GIVEN WITH THE SEED: the statements are not yours to turn. If you find one false, say at which input.
  Laid BY PROGRAM, IN A SANDBOX (cutbox-rows.mjs): the forced cells as the released guide's own fill.sh prints them over the translation 98cb1fa80942bb4a… (all of the seat's roots in one cut). By AI agents, Wed Nov 11 2026. No macro, syntax, notation, axiom, sorry.
-/
import Derived.Test.YtplggghhhgmebaaChecked
import GoSem.Claim
import GoSem.ClaimJoined
import GoSem.ClaimMapViews
import Derived.JoinedTies
import Derived.KernelRfl
namespace Go.Proofs.Ytplggghhhgmebaa
/- THE CELL 'sum', in the pinned program and in every row, IS THE sha256 OF THE DUMP (.gsa) THAT YtplggghhhgmebaaProg.lean LOADS. Nothing in Lean hashes anything: it is a label: what it is worth is what the hold of that sum in a sandbox is worth. -/
noncomputable def Try.pinned : Pinned := { name := "ytplggghhhgmebaa", sum := "98cb1fa80942bb4a83ee9024157a59fe1d71dc733ab4cd29314cdbf14abf3a67", checked := Try.checked }
namespace Rows
def none {H : Type} : Left H := { results := [], args := [] }

/-- 'laws.FnExactValidFront': WHATEVER THE INPUT: true; the input reads as it did. -/
def fnExactValidFrontSpec : ChangeSpec := { name := "fnExactValidFront", fn := fun _ => fun
  | [d] => { results := [.lit (.bool true)], args := [d] }
  | _ => none }
def fnExactValidFrontRow : OpenClaim := { program := "ytplggghhhgmebaa", sum := "98cb1fa80942bb4a83ee9024157a59fe1d71dc733ab4cd29314cdbf14abf3a67", func := "loop.example/g01042/laws.FnExactValidFront", spec := "fnExactValidFront", unfollowed := true, recurses := true, apart := false }
def FnExactValidFrontSaid : Prop := fnExactValidFrontRow.holds Try.pinned (OpenSpec.ofChange fnExactValidFrontSpec)

/-- ITS FALSE NEIGHBOUR: 'it returns false'. Refute it at one input. -/
def fnExactValidFrontWrong : ChangeSpec := { name := "fnExactValidFront", fn := fun _ => fun
  | [d] => { results := [.lit (.bool false)], args := [d] }
  | _ => none }
def FnExactValidFrontWrongFalsely : Prop := fnExactValidFrontRow.holds Try.pinned (OpenSpec.ofChange fnExactValidFrontWrong)

/-- 'laws.FnExactSameFront': WHATEVER THE INPUT: true; the input reads as it did. -/
def fnExactSameFrontSpec : ChangeSpec := { name := "fnExactSameFront", fn := fun _ => fun
  | [d1, d2] => { results := [.lit (.bool true)], args := [d1, d2] }
  | _ => none }
def fnExactSameFrontRow : OpenClaim := { program := "ytplggghhhgmebaa", sum := "98cb1fa80942bb4a83ee9024157a59fe1d71dc733ab4cd29314cdbf14abf3a67", func := "loop.example/g01042/laws.FnExactSameFront", spec := "fnExactSameFront", apart := false }
def FnExactSameFrontSaid : Prop := fnExactSameFrontRow.holds Try.pinned (OpenSpec.ofChange fnExactSameFrontSpec)

/-- ITS FALSE NEIGHBOUR: 'it returns false'. Refute it at one input. -/
def fnExactSameFrontWrong : ChangeSpec := { name := "fnExactSameFront", fn := fun _ => fun
  | [d1, d2] => { results := [.lit (.bool false)], args := [d1, d2] }
  | _ => none }
def FnExactSameFrontWrongFalsely : Prop := fnExactSameFrontRow.holds Try.pinned (OpenSpec.ofChange fnExactSameFrontWrong)

/-- 'laws.FnExactAddOpening': WHATEVER THE INPUT: true; the input reads as it did. -/
def fnExactAddOpeningSpec : ChangeSpec := { name := "fnExactAddOpening", fn := fun _ => fun
  | [d1, d2] => { results := [.lit (.bool true)], args := [d1, d2] }
  | _ => none }
def fnExactAddOpeningRow : OpenClaim := { program := "ytplggghhhgmebaa", sum := "98cb1fa80942bb4a83ee9024157a59fe1d71dc733ab4cd29314cdbf14abf3a67", func := "loop.example/g01042/laws.FnExactAddOpening", spec := "fnExactAddOpening", unfollowed := true, recurses := true, apart := false }
def FnExactAddOpeningSaid : Prop := fnExactAddOpeningRow.holds Try.pinned (OpenSpec.ofChange fnExactAddOpeningSpec)

/-- ITS FALSE NEIGHBOUR: 'it returns false'. Refute it at one input. -/
def fnExactAddOpeningWrong : ChangeSpec := { name := "fnExactAddOpening", fn := fun _ => fun
  | [d1, d2] => { results := [.lit (.bool false)], args := [d1, d2] }
  | _ => none }
def FnExactAddOpeningWrongFalsely : Prop := fnExactAddOpeningRow.holds Try.pinned (OpenSpec.ofChange fnExactAddOpeningWrong)

/-- 'laws.FnExactPartsOf': WHATEVER THE INPUT: true; the input reads as it did. -/
def fnExactPartsOfSpec : ChangeSpec := { name := "fnExactPartsOf", fn := fun _ => fun
  | [d1, d2] => { results := [.lit (.bool true)], args := [d1, d2] }
  | _ => none }
def fnExactPartsOfRow : OpenClaim := { program := "ytplggghhhgmebaa", sum := "98cb1fa80942bb4a83ee9024157a59fe1d71dc733ab4cd29314cdbf14abf3a67", func := "loop.example/g01042/laws.FnExactPartsOf", spec := "fnExactPartsOf", unfollowed := true, recurses := true, apart := false }
def FnExactPartsOfSaid : Prop := fnExactPartsOfRow.holds Try.pinned (OpenSpec.ofChange fnExactPartsOfSpec)

/-- ITS FALSE NEIGHBOUR: 'it returns false'. Refute it at one input. -/
def fnExactPartsOfWrong : ChangeSpec := { name := "fnExactPartsOf", fn := fun _ => fun
  | [d1, d2] => { results := [.lit (.bool false)], args := [d1, d2] }
  | _ => none }
def FnExactPartsOfWrongFalsely : Prop := fnExactPartsOfRow.holds Try.pinned (OpenSpec.ofChange fnExactPartsOfWrong)

/-- 'laws.FnExactNarrowestPier': WHATEVER THE INPUT: true; the input reads as it did. -/
def fnExactNarrowestPierSpec : ChangeSpec := { name := "fnExactNarrowestPier", fn := fun _ => fun
  | [d] => { results := [.lit (.bool true)], args := [d] }
  | _ => none }
def fnExactNarrowestPierRow : OpenClaim := { program := "ytplggghhhgmebaa", sum := "98cb1fa80942bb4a83ee9024157a59fe1d71dc733ab4cd29314cdbf14abf3a67", func := "loop.example/g01042/laws.FnExactNarrowestPier", spec := "fnExactNarrowestPier", unfollowed := true, recurses := true, apart := false }
def FnExactNarrowestPierSaid : Prop := fnExactNarrowestPierRow.holds Try.pinned (OpenSpec.ofChange fnExactNarrowestPierSpec)

/-- ITS FALSE NEIGHBOUR: 'it returns false'. Refute it at one input. -/
def fnExactNarrowestPierWrong : ChangeSpec := { name := "fnExactNarrowestPier", fn := fun _ => fun
  | [d] => { results := [.lit (.bool false)], args := [d] }
  | _ => none }
def FnExactNarrowestPierWrongFalsely : Prop := fnExactNarrowestPierRow.holds Try.pinned (OpenSpec.ofChange fnExactNarrowestPierWrong)

/-- 'laws.FnExactSolidQuarters': WHATEVER THE INPUT: true; the input reads as it did. -/
def fnExactSolidQuartersSpec : ChangeSpec := { name := "fnExactSolidQuarters", fn := fun _ => fun
  | [d] => { results := [.lit (.bool true)], args := [d] }
  | _ => none }
def fnExactSolidQuartersRow : OpenClaim := { program := "ytplggghhhgmebaa", sum := "98cb1fa80942bb4a83ee9024157a59fe1d71dc733ab4cd29314cdbf14abf3a67", func := "loop.example/g01042/laws.FnExactSolidQuarters", spec := "fnExactSolidQuarters", unfollowed := true, recurses := true, apart := false }
def FnExactSolidQuartersSaid : Prop := fnExactSolidQuartersRow.holds Try.pinned (OpenSpec.ofChange fnExactSolidQuartersSpec)

/-- ITS FALSE NEIGHBOUR: 'it returns false'. Refute it at one input. -/
def fnExactSolidQuartersWrong : ChangeSpec := { name := "fnExactSolidQuarters", fn := fun _ => fun
  | [d] => { results := [.lit (.bool false)], args := [d] }
  | _ => none }
def FnExactSolidQuartersWrongFalsely : Prop := fnExactSolidQuartersRow.holds Try.pinned (OpenSpec.ofChange fnExactSolidQuartersWrong)

/-- 'laws.FnExactLintelOf': WHATEVER THE INPUT: true; the input reads as it did. -/
def fnExactLintelOfSpec : ChangeSpec := { name := "fnExactLintelOf", fn := fun _ => fun
  | [d1, d2, d3] => { results := [.lit (.bool true)], args := [d1, d2, d3] }
  | _ => none }
def fnExactLintelOfRow : OpenClaim := { program := "ytplggghhhgmebaa", sum := "98cb1fa80942bb4a83ee9024157a59fe1d71dc733ab4cd29314cdbf14abf3a67", func := "loop.example/g01042/laws.FnExactLintelOf", spec := "fnExactLintelOf", unfollowed := true, recurses := true, apart := false }
def FnExactLintelOfSaid : Prop := fnExactLintelOfRow.holds Try.pinned (OpenSpec.ofChange fnExactLintelOfSpec)

/-- ITS FALSE NEIGHBOUR: 'it returns false'. Refute it at one input. -/
def fnExactLintelOfWrong : ChangeSpec := { name := "fnExactLintelOf", fn := fun _ => fun
  | [d1, d2, d3] => { results := [.lit (.bool false)], args := [d1, d2, d3] }
  | _ => none }
def FnExactLintelOfWrongFalsely : Prop := fnExactLintelOfRow.holds Try.pinned (OpenSpec.ofChange fnExactLintelOfWrong)

/-- 'laws.FnExactLintelClash': WHATEVER THE INPUT: true; the input reads as it did. -/
def fnExactLintelClashSpec : ChangeSpec := { name := "fnExactLintelClash", fn := fun _ => fun
  | [d1, d2] => { results := [.lit (.bool true)], args := [d1, d2] }
  | _ => none }
def fnExactLintelClashRow : OpenClaim := { program := "ytplggghhhgmebaa", sum := "98cb1fa80942bb4a83ee9024157a59fe1d71dc733ab4cd29314cdbf14abf3a67", func := "loop.example/g01042/laws.FnExactLintelClash", spec := "fnExactLintelClash", unfollowed := true, recurses := true, apart := false }
def FnExactLintelClashSaid : Prop := fnExactLintelClashRow.holds Try.pinned (OpenSpec.ofChange fnExactLintelClashSpec)

/-- ITS FALSE NEIGHBOUR: 'it returns false'. Refute it at one input. -/
def fnExactLintelClashWrong : ChangeSpec := { name := "fnExactLintelClash", fn := fun _ => fun
  | [d1, d2] => { results := [.lit (.bool false)], args := [d1, d2] }
  | _ => none }
def FnExactLintelClashWrongFalsely : Prop := fnExactLintelClashRow.holds Try.pinned (OpenSpec.ofChange fnExactLintelClashWrong)

/-- 'laws.FnExactMirrorFront': WHATEVER THE INPUT: true; the input reads as it did. -/
def fnExactMirrorFrontSpec : ChangeSpec := { name := "fnExactMirrorFront", fn := fun _ => fun
  | [d] => { results := [.lit (.bool true)], args := [d] }
  | _ => none }
def fnExactMirrorFrontRow : OpenClaim := { program := "ytplggghhhgmebaa", sum := "98cb1fa80942bb4a83ee9024157a59fe1d71dc733ab4cd29314cdbf14abf3a67", func := "loop.example/g01042/laws.FnExactMirrorFront", spec := "fnExactMirrorFront", unfollowed := true, recurses := true, apart := false }
def FnExactMirrorFrontSaid : Prop := fnExactMirrorFrontRow.holds Try.pinned (OpenSpec.ofChange fnExactMirrorFrontSpec)

/-- ITS FALSE NEIGHBOUR: 'it returns false'. Refute it at one input. -/
def fnExactMirrorFrontWrong : ChangeSpec := { name := "fnExactMirrorFront", fn := fun _ => fun
  | [d] => { results := [.lit (.bool false)], args := [d] }
  | _ => none }
def FnExactMirrorFrontWrongFalsely : Prop := fnExactMirrorFrontRow.holds Try.pinned (OpenSpec.ofChange fnExactMirrorFrontWrong)

/-- 'laws.FnExactFrontLines': WHATEVER THE INPUT: true; the input reads as it did. -/
def fnExactFrontLinesSpec : ChangeSpec := { name := "fnExactFrontLines", fn := fun _ => fun
  | [d] => { results := [.lit (.bool true)], args := [d] }
  | _ => none }
def fnExactFrontLinesRow : OpenClaim := { program := "ytplggghhhgmebaa", sum := "98cb1fa80942bb4a83ee9024157a59fe1d71dc733ab4cd29314cdbf14abf3a67", func := "loop.example/g01042/laws.FnExactFrontLines", spec := "fnExactFrontLines", inPlace := ["internal/abi.NoEscape", "internal/bytealg.MakeNoZero"], unfollowed := true, recurses := true, apart := false }
def FnExactFrontLinesSaid : Prop := fnExactFrontLinesRow.holds Try.pinned (OpenSpec.ofChange fnExactFrontLinesSpec)

/-- ITS FALSE NEIGHBOUR: 'it returns false'. Refute it at one input. -/
def fnExactFrontLinesWrong : ChangeSpec := { name := "fnExactFrontLines", fn := fun _ => fun
  | [d] => { results := [.lit (.bool false)], args := [d] }
  | _ => none }
def FnExactFrontLinesWrongFalsely : Prop := fnExactFrontLinesRow.holds Try.pinned (OpenSpec.ofChange fnExactFrontLinesWrong)

/- THE SECOND FORM. 'bulk': how many values and letters a reading holds, each counted each time it is reached (what is shared counts as often as it is met; a slice's spare places count too). A statement '..UptoSaid' is the law's where the arguments, and the package variables that the reading takes, are together of bulk at most 1048576: NARROWER than '..Said'. Prove '..Said' where nothing that the law and all that it calls make is longer than what came in: it says more and counts as full. Else prove '..UptoSaid'. A law counts once. -/
mutual
def uptoBulk {H : Type} : DataW H → Nat
  | .lit (.string bytes) => bytes.length + 1
  | .lit _ => 1
  | .nil => 1
  | .ptr d => uptoBulk d + 1
  | .slice elems spare => uptoBulkAll elems + uptoBulkAll spare + 1
  | .agg parts => uptoBulkAll parts + 1
  | .iface _ d => uptoBulk d + 1
  | .map entries => uptoBulkEntries entries + 1
  | .held _ => 1
def uptoBulkAll {H : Type} : List (DataW H) → Nat
  | [] => 0
  | d :: r => uptoBulk d + uptoBulkAll r
def uptoBulkEntries {H : Type} : List (Lit × DataW H) → Nat
  | [] => 0
  | x :: r => uptoBulkEntry x + uptoBulkEntries r
def uptoBulkEntry {H : Type} : Lit × DataW H → Nat
  | (.string bytes, d) => bytes.length + uptoBulk d + 1
  | (_, d) => uptoBulk d + 1
 end
def uptoSmall : (H : Type) → List (DataW H) → Bool := fun _ ds => decide (uptoBulkAll ds ≤ 1048576)
def OpenSpec.upto (s : _root_.Go.ChangeSpec) : _root_.Go.OpenSpec := { _root_.Go.OpenSpec.ofChange s with cond := some uptoSmall }

/-- 'laws.FnExactValidFront', WHERE WHAT IT READS IS OF BULK AT MOST 1048576: true; the input reads as it did. -/
def fnExactValidFrontUptoRow : OpenClaim := { program := "ytplggghhhgmebaa", sum := "98cb1fa80942bb4a83ee9024157a59fe1d71dc733ab4cd29314cdbf14abf3a67", func := "loop.example/g01042/laws.FnExactValidFront", spec := "fnExactValidFront", unfollowed := true, recurses := true, apart := false, narrowed := true }
def FnExactValidFrontUptoSaid : Prop := fnExactValidFrontUptoRow.holds Try.pinned (OpenSpec.upto fnExactValidFrontSpec)

/-- 'laws.FnExactSameFront', WHERE WHAT IT READS IS OF BULK AT MOST 1048576: true; the input reads as it did. -/
def fnExactSameFrontUptoRow : OpenClaim := { program := "ytplggghhhgmebaa", sum := "98cb1fa80942bb4a83ee9024157a59fe1d71dc733ab4cd29314cdbf14abf3a67", func := "loop.example/g01042/laws.FnExactSameFront", spec := "fnExactSameFront", apart := false, narrowed := true }
def FnExactSameFrontUptoSaid : Prop := fnExactSameFrontUptoRow.holds Try.pinned (OpenSpec.upto fnExactSameFrontSpec)

/-- 'laws.FnExactAddOpening', WHERE WHAT IT READS IS OF BULK AT MOST 1048576: true; the input reads as it did. -/
def fnExactAddOpeningUptoRow : OpenClaim := { program := "ytplggghhhgmebaa", sum := "98cb1fa80942bb4a83ee9024157a59fe1d71dc733ab4cd29314cdbf14abf3a67", func := "loop.example/g01042/laws.FnExactAddOpening", spec := "fnExactAddOpening", unfollowed := true, recurses := true, apart := false, narrowed := true }
def FnExactAddOpeningUptoSaid : Prop := fnExactAddOpeningUptoRow.holds Try.pinned (OpenSpec.upto fnExactAddOpeningSpec)

/-- 'laws.FnExactPartsOf', WHERE WHAT IT READS IS OF BULK AT MOST 1048576: true; the input reads as it did. -/
def fnExactPartsOfUptoRow : OpenClaim := { program := "ytplggghhhgmebaa", sum := "98cb1fa80942bb4a83ee9024157a59fe1d71dc733ab4cd29314cdbf14abf3a67", func := "loop.example/g01042/laws.FnExactPartsOf", spec := "fnExactPartsOf", unfollowed := true, recurses := true, apart := false, narrowed := true }
def FnExactPartsOfUptoSaid : Prop := fnExactPartsOfUptoRow.holds Try.pinned (OpenSpec.upto fnExactPartsOfSpec)

/-- 'laws.FnExactNarrowestPier', WHERE WHAT IT READS IS OF BULK AT MOST 1048576: true; the input reads as it did. -/
def fnExactNarrowestPierUptoRow : OpenClaim := { program := "ytplggghhhgmebaa", sum := "98cb1fa80942bb4a83ee9024157a59fe1d71dc733ab4cd29314cdbf14abf3a67", func := "loop.example/g01042/laws.FnExactNarrowestPier", spec := "fnExactNarrowestPier", unfollowed := true, recurses := true, apart := false, narrowed := true }
def FnExactNarrowestPierUptoSaid : Prop := fnExactNarrowestPierUptoRow.holds Try.pinned (OpenSpec.upto fnExactNarrowestPierSpec)

/-- 'laws.FnExactSolidQuarters', WHERE WHAT IT READS IS OF BULK AT MOST 1048576: true; the input reads as it did. -/
def fnExactSolidQuartersUptoRow : OpenClaim := { program := "ytplggghhhgmebaa", sum := "98cb1fa80942bb4a83ee9024157a59fe1d71dc733ab4cd29314cdbf14abf3a67", func := "loop.example/g01042/laws.FnExactSolidQuarters", spec := "fnExactSolidQuarters", unfollowed := true, recurses := true, apart := false, narrowed := true }
def FnExactSolidQuartersUptoSaid : Prop := fnExactSolidQuartersUptoRow.holds Try.pinned (OpenSpec.upto fnExactSolidQuartersSpec)

/-- 'laws.FnExactLintelOf', WHERE WHAT IT READS IS OF BULK AT MOST 1048576: true; the input reads as it did. -/
def fnExactLintelOfUptoRow : OpenClaim := { program := "ytplggghhhgmebaa", sum := "98cb1fa80942bb4a83ee9024157a59fe1d71dc733ab4cd29314cdbf14abf3a67", func := "loop.example/g01042/laws.FnExactLintelOf", spec := "fnExactLintelOf", unfollowed := true, recurses := true, apart := false, narrowed := true }
def FnExactLintelOfUptoSaid : Prop := fnExactLintelOfUptoRow.holds Try.pinned (OpenSpec.upto fnExactLintelOfSpec)

/-- 'laws.FnExactLintelClash', WHERE WHAT IT READS IS OF BULK AT MOST 1048576: true; the input reads as it did. -/
def fnExactLintelClashUptoRow : OpenClaim := { program := "ytplggghhhgmebaa", sum := "98cb1fa80942bb4a83ee9024157a59fe1d71dc733ab4cd29314cdbf14abf3a67", func := "loop.example/g01042/laws.FnExactLintelClash", spec := "fnExactLintelClash", unfollowed := true, recurses := true, apart := false, narrowed := true }
def FnExactLintelClashUptoSaid : Prop := fnExactLintelClashUptoRow.holds Try.pinned (OpenSpec.upto fnExactLintelClashSpec)

/-- 'laws.FnExactMirrorFront', WHERE WHAT IT READS IS OF BULK AT MOST 1048576: true; the input reads as it did. -/
def fnExactMirrorFrontUptoRow : OpenClaim := { program := "ytplggghhhgmebaa", sum := "98cb1fa80942bb4a83ee9024157a59fe1d71dc733ab4cd29314cdbf14abf3a67", func := "loop.example/g01042/laws.FnExactMirrorFront", spec := "fnExactMirrorFront", unfollowed := true, recurses := true, apart := false, narrowed := true }
def FnExactMirrorFrontUptoSaid : Prop := fnExactMirrorFrontUptoRow.holds Try.pinned (OpenSpec.upto fnExactMirrorFrontSpec)

/-- 'laws.FnExactFrontLines', WHERE WHAT IT READS IS OF BULK AT MOST 1048576: true; the input reads as it did. -/
def fnExactFrontLinesUptoRow : OpenClaim := { program := "ytplggghhhgmebaa", sum := "98cb1fa80942bb4a83ee9024157a59fe1d71dc733ab4cd29314cdbf14abf3a67", func := "loop.example/g01042/laws.FnExactFrontLines", spec := "fnExactFrontLines", inPlace := ["internal/abi.NoEscape", "internal/bytealg.MakeNoZero"], unfollowed := true, recurses := true, apart := false, narrowed := true }
def FnExactFrontLinesUptoSaid : Prop := fnExactFrontLinesUptoRow.holds Try.pinned (OpenSpec.upto fnExactFrontLinesSpec)

end Rows
end Go.Proofs.Ytplggghhhgmebaa
