/-
  NARROWER THAN 'FOR EVERY INPUT', by the rows' own cells (each row's printed sentence says how): FnExactValidBond: laid · FnExactPerpendsOf: laid · FnExactLapBetween: laid · FnExactLapOfBond: laid · FnExactHeadersIn: laid · FnExactBondNamed: laid · FnExactBondNames: laid · FnExactBondText: laid · FnExactReadBond: laid · FnExactCheckBond: laid · FnExactProblemName: laid.
  DERIVED. THE GIVEN ROWS OF THIS SEAT. 11 by the template 'for every input the law returns true; each argument reads behind the call as it read before'; 0 by the template 'total and deterministic' (their statements: YtnkaafpdlmmdfaaDoorTotals.lean).
  GIVEN WITH THE SEED: the statements are not yours to turn. If you find one false, say at which input.
  Laid BY PROGRAM, IN A SANDBOX (cutbox-rows.mjs): the forced cells as the released guide's own fill.sh prints them over the translation aaee316f1308f04b… (all of the seat's roots in one cut). By AI agents, Wed Nov 11 2026. No macro, syntax, notation, axiom, sorry.
-/
import Derived.Test.YtnkaafpdlmmdfaaDoorChecked
import GoSem.PinnedTables
import GoSem.Claim
import GoSem.ClaimJoined
import GoSem.ClaimMapViews
import Derived.JoinedTies
import Derived.KernelRfl
namespace Go.Proofs.YtnkaafpdlmmdfaaDoor
/- THE CELL 'sum', in the pinned program and in every row, IS THE sha256 OF THE DUMP (.gsa) THAT YtnkaafpdlmmdfaaDoorProg.lean LOADS. Nothing in Lean hashes anything: it is a label: what it is worth is what the hold of that sum in a sandbox is worth. -/
noncomputable def Tryd.pinned : Pinned := { name := "ytnkaafpdlmmdfaadoor", sum := "aaee316f1308f04be961e61d954370b0ca5759ea32b5a77ae8095f656e21cceb", checked := Tryd.checked }
namespace Rows
def none {H : Type} : Left H := { results := [], args := [] }

/- WHAT THE LISTED PACKAGE-LEVEL VARIABLES READ AS WHEN THE CALL BEGINS. Each datum BY PROGRAM (the guide's laid-datum.mjs) off the statement by which the dump's own 'gosem.cut.vars' lays the variable. In a bare row this is a premise. The card (YtnkaafpdlmmdfaaDoorCards.lean) ties it to the program's text. -/
def laid_unicode_utf8_acceptRanges {H : Type} : DataW H := .agg [.agg [.lit (.int .u8 128), .lit (.int .u8 191)], .agg [.lit (.int .u8 160), .lit (.int .u8 191)], .agg [.lit (.int .u8 128), .lit (.int .u8 159)], .agg [.lit (.int .u8 144), .lit (.int .u8 191)], .agg [.lit (.int .u8 128), .lit (.int .u8 143)], .agg [.lit (.int .u8 0), .lit (.int .u8 0)], .agg [.lit (.int .u8 0), .lit (.int .u8 0)], .agg [.lit (.int .u8 0), .lit (.int .u8 0)], .agg [.lit (.int .u8 0), .lit (.int .u8 0)], .agg [.lit (.int .u8 0), .lit (.int .u8 0)], .agg [.lit (.int .u8 0), .lit (.int .u8 0)], .agg [.lit (.int .u8 0), .lit (.int .u8 0)], .agg [.lit (.int .u8 0), .lit (.int .u8 0)], .agg [.lit (.int .u8 0), .lit (.int .u8 0)], .agg [.lit (.int .u8 0), .lit (.int .u8 0)], .agg [.lit (.int .u8 0), .lit (.int .u8 0)]]
/-- One of Go's own tables, pinned by name: the form's constant. -/
def laid_unicode_utf8_first : DataW Unit := Go.Pinned.utf8First
def laid_loop_example_g01042_impl_library {H : Type} : DataW H := .agg [.lit (.string [115, 116, 114, 101, 116, 99, 104, 101, 114, 32, 83, 32, 66, 43, 83]), .lit (.string [104, 101, 97, 100, 101, 114, 32, 72, 32, 67, 43, 72]), .lit (.string [101, 110, 103, 108, 105, 115, 104, 32, 83, 32, 72, 67, 43, 72]), .lit (.string [102, 108, 101, 109, 105, 115, 104, 32, 83, 72, 32, 72, 67, 43, 83, 72]), .lit (.string [103, 97, 114, 100, 101, 110, 32, 83, 32, 66, 43, 83, 32, 83, 32, 72, 67, 43, 72])]
def laid_loop_example_g01042_impl_problemNames {H : Type} : DataW H := .agg [.lit (.string [119, 111, 114, 100, 115]), .lit (.string [110, 97, 109, 101]), .lit (.string [108, 101, 116, 116, 101, 114]), .lit (.string [101, 109, 112, 116, 121]), .lit (.string [108, 111, 110, 103]), .lit (.string [109, 97, 110, 121])]

/-- 'laws.FnExactValidBond': WHATEVER THE INPUT: true; the input reads as it did. -/
def fnExactValidBondSpec : ChangeSpec := { name := "fnExactValidBond", fn := fun _ => fun
  | [d] => { results := [.lit (.bool true)], args := [d] }
  | _ => none }
def fnExactValidBondRow : OpenClaim := { program := "ytnkaafpdlmmdfaadoor", sum := "aaee316f1308f04be961e61d954370b0ca5759ea32b5a77ae8095f656e21cceb", func := "loop.example/g01042/laws.FnExactValidBond", spec := "fnExactValidBond", inPlace := ["internal/bytealg.IndexByteString", "internal/bytealg.IndexString"], named := ["unicode/utf8.first", "unicode/utf8.acceptRanges", "internal/bytealg.MaxLen"], apart := false, laid := [("unicode/utf8.acceptRanges", laid_unicode_utf8_acceptRanges), ("unicode/utf8.first", laid_unicode_utf8_first)] }
def FnExactValidBondSaid : Prop := fnExactValidBondRow.holds Tryd.pinned (OpenSpec.ofChange fnExactValidBondSpec)

/-- ITS FALSE NEIGHBOUR: 'it returns false'. Refute it at one input. -/
def fnExactValidBondWrong : ChangeSpec := { name := "fnExactValidBond", fn := fun _ => fun
  | [d] => { results := [.lit (.bool false)], args := [d] }
  | _ => none }
def FnExactValidBondWrongFalsely : Prop := fnExactValidBondRow.holds Tryd.pinned (OpenSpec.ofChange fnExactValidBondWrong)

/-- 'laws.FnExactPerpendsOf': WHATEVER THE INPUT: true; the input reads as it did. -/
def fnExactPerpendsOfSpec : ChangeSpec := { name := "fnExactPerpendsOf", fn := fun _ => fun
  | [d1, d2, d3] => { results := [.lit (.bool true)], args := [d1, d2, d3] }
  | _ => none }
def fnExactPerpendsOfRow : OpenClaim := { program := "ytnkaafpdlmmdfaadoor", sum := "aaee316f1308f04be961e61d954370b0ca5759ea32b5a77ae8095f656e21cceb", func := "loop.example/g01042/laws.FnExactPerpendsOf", spec := "fnExactPerpendsOf", inPlace := ["internal/bytealg.IndexByteString", "internal/bytealg.IndexString", "internal/abi.NoEscape"], named := ["unicode/utf8.first", "unicode/utf8.acceptRanges", "internal/bytealg.MaxLen"], apart := false, laid := [("unicode/utf8.acceptRanges", laid_unicode_utf8_acceptRanges), ("unicode/utf8.first", laid_unicode_utf8_first)] }
def FnExactPerpendsOfSaid : Prop := fnExactPerpendsOfRow.holds Tryd.pinned (OpenSpec.ofChange fnExactPerpendsOfSpec)

/-- ITS FALSE NEIGHBOUR: 'it returns false'. Refute it at one input. -/
def fnExactPerpendsOfWrong : ChangeSpec := { name := "fnExactPerpendsOf", fn := fun _ => fun
  | [d1, d2, d3] => { results := [.lit (.bool false)], args := [d1, d2, d3] }
  | _ => none }
def FnExactPerpendsOfWrongFalsely : Prop := fnExactPerpendsOfRow.holds Tryd.pinned (OpenSpec.ofChange fnExactPerpendsOfWrong)

/-- 'laws.FnExactLapBetween': WHATEVER THE INPUT: true; the input reads as it did. -/
def fnExactLapBetweenSpec : ChangeSpec := { name := "fnExactLapBetween", fn := fun _ => fun
  | [d1, d2, d3, d4] => { results := [.lit (.bool true)], args := [d1, d2, d3, d4] }
  | _ => none }
def fnExactLapBetweenRow : OpenClaim := { program := "ytnkaafpdlmmdfaadoor", sum := "aaee316f1308f04be961e61d954370b0ca5759ea32b5a77ae8095f656e21cceb", func := "loop.example/g01042/laws.FnExactLapBetween", spec := "fnExactLapBetween", inPlace := ["internal/bytealg.IndexByteString", "internal/bytealg.IndexString", "internal/abi.NoEscape"], named := ["unicode/utf8.first", "unicode/utf8.acceptRanges", "internal/bytealg.MaxLen"], apart := false, laid := [("unicode/utf8.acceptRanges", laid_unicode_utf8_acceptRanges), ("unicode/utf8.first", laid_unicode_utf8_first)] }
def FnExactLapBetweenSaid : Prop := fnExactLapBetweenRow.holds Tryd.pinned (OpenSpec.ofChange fnExactLapBetweenSpec)

/-- ITS FALSE NEIGHBOUR: 'it returns false'. Refute it at one input. -/
def fnExactLapBetweenWrong : ChangeSpec := { name := "fnExactLapBetween", fn := fun _ => fun
  | [d1, d2, d3, d4] => { results := [.lit (.bool false)], args := [d1, d2, d3, d4] }
  | _ => none }
def FnExactLapBetweenWrongFalsely : Prop := fnExactLapBetweenRow.holds Tryd.pinned (OpenSpec.ofChange fnExactLapBetweenWrong)

/-- 'laws.FnExactLapOfBond': WHATEVER THE INPUT: true; the input reads as it did. -/
def fnExactLapOfBondSpec : ChangeSpec := { name := "fnExactLapOfBond", fn := fun _ => fun
  | [d1, d2] => { results := [.lit (.bool true)], args := [d1, d2] }
  | _ => none }
def fnExactLapOfBondRow : OpenClaim := { program := "ytnkaafpdlmmdfaadoor", sum := "aaee316f1308f04be961e61d954370b0ca5759ea32b5a77ae8095f656e21cceb", func := "loop.example/g01042/laws.FnExactLapOfBond", spec := "fnExactLapOfBond", inPlace := ["internal/bytealg.IndexByteString", "internal/bytealg.IndexString", "internal/abi.NoEscape"], named := ["unicode/utf8.first", "unicode/utf8.acceptRanges", "internal/bytealg.MaxLen"], apart := false, laid := [("unicode/utf8.acceptRanges", laid_unicode_utf8_acceptRanges), ("unicode/utf8.first", laid_unicode_utf8_first)] }
def FnExactLapOfBondSaid : Prop := fnExactLapOfBondRow.holds Tryd.pinned (OpenSpec.ofChange fnExactLapOfBondSpec)

/-- ITS FALSE NEIGHBOUR: 'it returns false'. Refute it at one input. -/
def fnExactLapOfBondWrong : ChangeSpec := { name := "fnExactLapOfBond", fn := fun _ => fun
  | [d1, d2] => { results := [.lit (.bool false)], args := [d1, d2] }
  | _ => none }
def FnExactLapOfBondWrongFalsely : Prop := fnExactLapOfBondRow.holds Tryd.pinned (OpenSpec.ofChange fnExactLapOfBondWrong)

/-- 'laws.FnExactHeadersIn': WHATEVER THE INPUT: true; the input reads as it did. -/
def fnExactHeadersInSpec : ChangeSpec := { name := "fnExactHeadersIn", fn := fun _ => fun
  | [d1, d2, d3] => { results := [.lit (.bool true)], args := [d1, d2, d3] }
  | _ => none }
def fnExactHeadersInRow : OpenClaim := { program := "ytnkaafpdlmmdfaadoor", sum := "aaee316f1308f04be961e61d954370b0ca5759ea32b5a77ae8095f656e21cceb", func := "loop.example/g01042/laws.FnExactHeadersIn", spec := "fnExactHeadersIn", inPlace := ["internal/bytealg.IndexByteString", "internal/bytealg.IndexString", "internal/abi.NoEscape", "internal/bytealg.CountString"], named := ["unicode/utf8.first", "unicode/utf8.acceptRanges", "internal/bytealg.MaxLen"], apart := false, laid := [("unicode/utf8.acceptRanges", laid_unicode_utf8_acceptRanges), ("unicode/utf8.first", laid_unicode_utf8_first)] }
def FnExactHeadersInSaid : Prop := fnExactHeadersInRow.holds Tryd.pinned (OpenSpec.ofChange fnExactHeadersInSpec)

/-- ITS FALSE NEIGHBOUR: 'it returns false'. Refute it at one input. -/
def fnExactHeadersInWrong : ChangeSpec := { name := "fnExactHeadersIn", fn := fun _ => fun
  | [d1, d2, d3] => { results := [.lit (.bool false)], args := [d1, d2, d3] }
  | _ => none }
def FnExactHeadersInWrongFalsely : Prop := fnExactHeadersInRow.holds Tryd.pinned (OpenSpec.ofChange fnExactHeadersInWrong)

/-- 'laws.FnExactBondNamed': WHATEVER THE INPUT: true; the input reads as it did. -/
def fnExactBondNamedSpec : ChangeSpec := { name := "fnExactBondNamed", vars := ["loop.example/g01042/impl.library"], fn := fun _ => fun
  | [d, g1] => { results := [.lit (.bool true)], args := [d], vars := [g1] }
  | _ => none }
def fnExactBondNamedRow : OpenClaim := { program := "ytnkaafpdlmmdfaadoor", sum := "aaee316f1308f04be961e61d954370b0ca5759ea32b5a77ae8095f656e21cceb", func := "loop.example/g01042/laws.FnExactBondNamed", spec := "fnExactBondNamed", inPlace := ["internal/bytealg.CountString", "internal/bytealg.IndexByteString", "internal/bytealg.IndexString", "internal/reflectlite.TypeOf"], unfollowed := true, recurses := true, named := ["loop.example/g01042/impl.library", "unicode/utf8.first", "unicode/utf8.acceptRanges", "internal/bytealg.MaxLen"], apart := false, laid := [("unicode/utf8.acceptRanges", laid_unicode_utf8_acceptRanges), ("loop.example/g01042/impl.library", laid_loop_example_g01042_impl_library), ("unicode/utf8.first", laid_unicode_utf8_first)] }
def FnExactBondNamedSaid : Prop := fnExactBondNamedRow.holds Tryd.pinned (OpenSpec.ofChange fnExactBondNamedSpec)

/-- ITS FALSE NEIGHBOUR: 'it returns false'. Refute it at one input. -/
def fnExactBondNamedWrong : ChangeSpec := { name := "fnExactBondNamed", vars := ["loop.example/g01042/impl.library"], fn := fun _ => fun
  | [d, g1] => { results := [.lit (.bool false)], args := [d], vars := [g1] }
  | _ => none }
def FnExactBondNamedWrongFalsely : Prop := fnExactBondNamedRow.holds Tryd.pinned (OpenSpec.ofChange fnExactBondNamedWrong)

/-- 'laws.FnExactBondNames': WHATEVER THE INPUT: true; the input reads as it did. -/
def fnExactBondNamesSpec : ChangeSpec := { name := "fnExactBondNames", vars := ["loop.example/g01042/impl.library"], fn := fun _ => fun
  | [g1] => { results := [.lit (.bool true)], args := [], vars := [g1] }
  | _ => none }
def fnExactBondNamesRow : OpenClaim := { program := "ytnkaafpdlmmdfaadoor", sum := "aaee316f1308f04be961e61d954370b0ca5759ea32b5a77ae8095f656e21cceb", func := "loop.example/g01042/laws.FnExactBondNames", spec := "fnExactBondNames", inPlace := ["internal/bytealg.IndexByteString", "internal/bytealg.IndexString"], named := ["loop.example/g01042/impl.library", "internal/bytealg.MaxLen"], apart := false, laid := [("loop.example/g01042/impl.library", laid_loop_example_g01042_impl_library)] }
def FnExactBondNamesSaid : Prop := fnExactBondNamesRow.holds Tryd.pinned (OpenSpec.ofChange fnExactBondNamesSpec)

/-- ITS FALSE NEIGHBOUR: 'it returns false'. Refute it at one input. -/
def fnExactBondNamesWrong : ChangeSpec := { name := "fnExactBondNames", vars := ["loop.example/g01042/impl.library"], fn := fun _ => fun
  | [g1] => { results := [.lit (.bool false)], args := [], vars := [g1] }
  | _ => none }
def FnExactBondNamesWrongFalsely : Prop := fnExactBondNamesRow.holds Tryd.pinned (OpenSpec.ofChange fnExactBondNamesWrong)

/-- 'laws.FnExactBondText': WHATEVER THE INPUT: true; the input reads as it did. -/
def fnExactBondTextSpec : ChangeSpec := { name := "fnExactBondText", fn := fun _ => fun
  | [d] => { results := [.lit (.bool true)], args := [d] }
  | _ => none }
def fnExactBondTextRow : OpenClaim := { program := "ytnkaafpdlmmdfaadoor", sum := "aaee316f1308f04be961e61d954370b0ca5759ea32b5a77ae8095f656e21cceb", func := "loop.example/g01042/laws.FnExactBondText", spec := "fnExactBondText", inPlace := ["internal/bytealg.IndexByteString", "internal/bytealg.IndexString", "internal/abi.NoEscape", "internal/bytealg.MakeNoZero"], named := ["unicode/utf8.first", "unicode/utf8.acceptRanges", "internal/bytealg.MaxLen"], apart := false, laid := [("unicode/utf8.acceptRanges", laid_unicode_utf8_acceptRanges), ("unicode/utf8.first", laid_unicode_utf8_first)] }
def FnExactBondTextSaid : Prop := fnExactBondTextRow.holds Tryd.pinned (OpenSpec.ofChange fnExactBondTextSpec)

/-- ITS FALSE NEIGHBOUR: 'it returns false'. Refute it at one input. -/
def fnExactBondTextWrong : ChangeSpec := { name := "fnExactBondText", fn := fun _ => fun
  | [d] => { results := [.lit (.bool false)], args := [d] }
  | _ => none }
def FnExactBondTextWrongFalsely : Prop := fnExactBondTextRow.holds Tryd.pinned (OpenSpec.ofChange fnExactBondTextWrong)

/-- 'laws.FnExactReadBond': WHATEVER THE INPUT: true; the input reads as it did. -/
def fnExactReadBondSpec : ChangeSpec := { name := "fnExactReadBond", fn := fun _ => fun
  | [d] => { results := [.lit (.bool true)], args := [d] }
  | _ => none }
def fnExactReadBondRow : OpenClaim := { program := "ytnkaafpdlmmdfaadoor", sum := "aaee316f1308f04be961e61d954370b0ca5759ea32b5a77ae8095f656e21cceb", func := "loop.example/g01042/laws.FnExactReadBond", spec := "fnExactReadBond", inPlace := ["internal/bytealg.CountString", "internal/bytealg.IndexByteString", "internal/bytealg.IndexString", "internal/reflectlite.TypeOf"], unfollowed := true, recurses := true, named := ["unicode/utf8.first", "unicode/utf8.acceptRanges", "internal/bytealg.MaxLen"], apart := false, laid := [("unicode/utf8.acceptRanges", laid_unicode_utf8_acceptRanges), ("unicode/utf8.first", laid_unicode_utf8_first)] }
def FnExactReadBondSaid : Prop := fnExactReadBondRow.holds Tryd.pinned (OpenSpec.ofChange fnExactReadBondSpec)

/-- ITS FALSE NEIGHBOUR: 'it returns false'. Refute it at one input. -/
def fnExactReadBondWrong : ChangeSpec := { name := "fnExactReadBond", fn := fun _ => fun
  | [d] => { results := [.lit (.bool false)], args := [d] }
  | _ => none }
def FnExactReadBondWrongFalsely : Prop := fnExactReadBondRow.holds Tryd.pinned (OpenSpec.ofChange fnExactReadBondWrong)

/-- 'laws.FnExactCheckBond': WHATEVER THE INPUT: true; the input reads as it did. -/
def fnExactCheckBondSpec : ChangeSpec := { name := "fnExactCheckBond", fn := fun _ => fun
  | [d] => { results := [.lit (.bool true)], args := [d] }
  | _ => none }
def fnExactCheckBondRow : OpenClaim := { program := "ytnkaafpdlmmdfaadoor", sum := "aaee316f1308f04be961e61d954370b0ca5759ea32b5a77ae8095f656e21cceb", func := "loop.example/g01042/laws.FnExactCheckBond", spec := "fnExactCheckBond", inPlace := ["internal/bytealg.CountString", "internal/bytealg.IndexByteString", "internal/bytealg.IndexString", "internal/reflectlite.TypeOf"], unfollowed := true, recurses := true, named := ["unicode/utf8.first", "unicode/utf8.acceptRanges", "internal/bytealg.MaxLen"], apart := false, laid := [("unicode/utf8.acceptRanges", laid_unicode_utf8_acceptRanges), ("unicode/utf8.first", laid_unicode_utf8_first)] }
def FnExactCheckBondSaid : Prop := fnExactCheckBondRow.holds Tryd.pinned (OpenSpec.ofChange fnExactCheckBondSpec)

/-- ITS FALSE NEIGHBOUR: 'it returns false'. Refute it at one input. -/
def fnExactCheckBondWrong : ChangeSpec := { name := "fnExactCheckBond", fn := fun _ => fun
  | [d] => { results := [.lit (.bool false)], args := [d] }
  | _ => none }
def FnExactCheckBondWrongFalsely : Prop := fnExactCheckBondRow.holds Tryd.pinned (OpenSpec.ofChange fnExactCheckBondWrong)

/-- 'laws.FnExactProblemName': WHATEVER THE INPUT: true; the input reads as it did. -/
def fnExactProblemNameSpec : ChangeSpec := { name := "fnExactProblemName", vars := ["loop.example/g01042/impl.problemNames"], fn := fun _ => fun
  | [d, g1] => { results := [.lit (.bool true)], args := [d], vars := [g1] }
  | _ => none }
def fnExactProblemNameRow : OpenClaim := { program := "ytnkaafpdlmmdfaadoor", sum := "aaee316f1308f04be961e61d954370b0ca5759ea32b5a77ae8095f656e21cceb", func := "loop.example/g01042/laws.FnExactProblemName", spec := "fnExactProblemName", named := ["loop.example/g01042/impl.problemNames"], apart := false, laid := [("loop.example/g01042/impl.problemNames", laid_loop_example_g01042_impl_problemNames)] }
def FnExactProblemNameSaid : Prop := fnExactProblemNameRow.holds Tryd.pinned (OpenSpec.ofChange fnExactProblemNameSpec)

/-- ITS FALSE NEIGHBOUR: 'it returns false'. Refute it at one input. -/
def fnExactProblemNameWrong : ChangeSpec := { name := "fnExactProblemName", vars := ["loop.example/g01042/impl.problemNames"], fn := fun _ => fun
  | [d, g1] => { results := [.lit (.bool false)], args := [d], vars := [g1] }
  | _ => none }
def FnExactProblemNameWrongFalsely : Prop := fnExactProblemNameRow.holds Tryd.pinned (OpenSpec.ofChange fnExactProblemNameWrong)

/- THE SECOND FORM. 'bulk': how many values and letters a reading holds, each counted each time it is reached (what is shared counts as often as it is met; a slice's spare places count too). A statement '..UptoSaid' is the law's where the arguments, and the package variables that the reading takes, are together of bulk at most 1048576: NARROWER than '..Said'. Prove '..Said' where nothing that the law and all that it calls make is longer than what came in: it says more and counts as full. Else prove '..UptoSaid'. A law counts once. -/
mutual
def uptoBulk {H : Type} : DataW H → Nat
  | .lit (.string bytes) => bytes.length + 1
  | .lit _ => 1
  | .nil => 1
  | .ptr d => uptoBulk d + 1
  | .slice elems spare => uptoBulkAll elems + uptoBulkAll spare + 1
  | .agg parts => uptoBulkAll parts + 1
  | .iface _ d => uptoBulk d + 1
  | .map entries => uptoBulkEntries entries + 1
  | .held _ => 1
def uptoBulkAll {H : Type} : List (DataW H) → Nat
  | [] => 0
  | d :: r => uptoBulk d + uptoBulkAll r
def uptoBulkEntries {H : Type} : List (Lit × DataW H) → Nat
  | [] => 0
  | x :: r => uptoBulkEntry x + uptoBulkEntries r
def uptoBulkEntry {H : Type} : Lit × DataW H → Nat
  | (.string bytes, d) => bytes.length + uptoBulk d + 1
  | (_, d) => uptoBulk d + 1
 end
def uptoSmall : (H : Type) → List (DataW H) → Bool := fun _ ds => decide (uptoBulkAll ds ≤ 1048576)
def OpenSpec.upto (s : _root_.Go.ChangeSpec) : _root_.Go.OpenSpec := { _root_.Go.OpenSpec.ofChange s with cond := some uptoSmall }

/-- 'laws.FnExactValidBond', WHERE WHAT IT READS IS OF BULK AT MOST 1048576: true; the input reads as it did. -/
def fnExactValidBondUptoRow : OpenClaim := { program := "ytnkaafpdlmmdfaadoor", sum := "aaee316f1308f04be961e61d954370b0ca5759ea32b5a77ae8095f656e21cceb", func := "loop.example/g01042/laws.FnExactValidBond", spec := "fnExactValidBond", inPlace := ["internal/bytealg.IndexByteString", "internal/bytealg.IndexString"], named := ["unicode/utf8.first", "unicode/utf8.acceptRanges", "internal/bytealg.MaxLen"], apart := false, laid := [("unicode/utf8.acceptRanges", laid_unicode_utf8_acceptRanges), ("unicode/utf8.first", laid_unicode_utf8_first)], narrowed := true }
def FnExactValidBondUptoSaid : Prop := fnExactValidBondUptoRow.holds Tryd.pinned (OpenSpec.upto fnExactValidBondSpec)

/-- 'laws.FnExactPerpendsOf', WHERE WHAT IT READS IS OF BULK AT MOST 1048576: true; the input reads as it did. -/
def fnExactPerpendsOfUptoRow : OpenClaim := { program := "ytnkaafpdlmmdfaadoor", sum := "aaee316f1308f04be961e61d954370b0ca5759ea32b5a77ae8095f656e21cceb", func := "loop.example/g01042/laws.FnExactPerpendsOf", spec := "fnExactPerpendsOf", inPlace := ["internal/bytealg.IndexByteString", "internal/bytealg.IndexString", "internal/abi.NoEscape"], named := ["unicode/utf8.first", "unicode/utf8.acceptRanges", "internal/bytealg.MaxLen"], apart := false, laid := [("unicode/utf8.acceptRanges", laid_unicode_utf8_acceptRanges), ("unicode/utf8.first", laid_unicode_utf8_first)], narrowed := true }
def FnExactPerpendsOfUptoSaid : Prop := fnExactPerpendsOfUptoRow.holds Tryd.pinned (OpenSpec.upto fnExactPerpendsOfSpec)

/-- 'laws.FnExactLapBetween', WHERE WHAT IT READS IS OF BULK AT MOST 1048576: true; the input reads as it did. -/
def fnExactLapBetweenUptoRow : OpenClaim := { program := "ytnkaafpdlmmdfaadoor", sum := "aaee316f1308f04be961e61d954370b0ca5759ea32b5a77ae8095f656e21cceb", func := "loop.example/g01042/laws.FnExactLapBetween", spec := "fnExactLapBetween", inPlace := ["internal/bytealg.IndexByteString", "internal/bytealg.IndexString", "internal/abi.NoEscape"], named := ["unicode/utf8.first", "unicode/utf8.acceptRanges", "internal/bytealg.MaxLen"], apart := false, laid := [("unicode/utf8.acceptRanges", laid_unicode_utf8_acceptRanges), ("unicode/utf8.first", laid_unicode_utf8_first)], narrowed := true }
def FnExactLapBetweenUptoSaid : Prop := fnExactLapBetweenUptoRow.holds Tryd.pinned (OpenSpec.upto fnExactLapBetweenSpec)

/-- 'laws.FnExactLapOfBond', WHERE WHAT IT READS IS OF BULK AT MOST 1048576: true; the input reads as it did. -/
def fnExactLapOfBondUptoRow : OpenClaim := { program := "ytnkaafpdlmmdfaadoor", sum := "aaee316f1308f04be961e61d954370b0ca5759ea32b5a77ae8095f656e21cceb", func := "loop.example/g01042/laws.FnExactLapOfBond", spec := "fnExactLapOfBond", inPlace := ["internal/bytealg.IndexByteString", "internal/bytealg.IndexString", "internal/abi.NoEscape"], named := ["unicode/utf8.first", "unicode/utf8.acceptRanges", "internal/bytealg.MaxLen"], apart := false, laid := [("unicode/utf8.acceptRanges", laid_unicode_utf8_acceptRanges), ("unicode/utf8.first", laid_unicode_utf8_first)], narrowed := true }
def FnExactLapOfBondUptoSaid : Prop := fnExactLapOfBondUptoRow.holds Tryd.pinned (OpenSpec.upto fnExactLapOfBondSpec)

/-- 'laws.FnExactHeadersIn', WHERE WHAT IT READS IS OF BULK AT MOST 1048576: true; the input reads as it did. -/
def fnExactHeadersInUptoRow : OpenClaim := { program := "ytnkaafpdlmmdfaadoor", sum := "aaee316f1308f04be961e61d954370b0ca5759ea32b5a77ae8095f656e21cceb", func := "loop.example/g01042/laws.FnExactHeadersIn", spec := "fnExactHeadersIn", inPlace := ["internal/bytealg.IndexByteString", "internal/bytealg.IndexString", "internal/abi.NoEscape", "internal/bytealg.CountString"], named := ["unicode/utf8.first", "unicode/utf8.acceptRanges", "internal/bytealg.MaxLen"], apart := false, laid := [("unicode/utf8.acceptRanges", laid_unicode_utf8_acceptRanges), ("unicode/utf8.first", laid_unicode_utf8_first)], narrowed := true }
def FnExactHeadersInUptoSaid : Prop := fnExactHeadersInUptoRow.holds Tryd.pinned (OpenSpec.upto fnExactHeadersInSpec)

/-- 'laws.FnExactBondNamed', WHERE WHAT IT READS IS OF BULK AT MOST 1048576: true; the input reads as it did. -/
def fnExactBondNamedUptoRow : OpenClaim := { program := "ytnkaafpdlmmdfaadoor", sum := "aaee316f1308f04be961e61d954370b0ca5759ea32b5a77ae8095f656e21cceb", func := "loop.example/g01042/laws.FnExactBondNamed", spec := "fnExactBondNamed", inPlace := ["internal/bytealg.CountString", "internal/bytealg.IndexByteString", "internal/bytealg.IndexString", "internal/reflectlite.TypeOf"], unfollowed := true, recurses := true, named := ["loop.example/g01042/impl.library", "unicode/utf8.first", "unicode/utf8.acceptRanges", "internal/bytealg.MaxLen"], apart := false, laid := [("unicode/utf8.acceptRanges", laid_unicode_utf8_acceptRanges), ("loop.example/g01042/impl.library", laid_loop_example_g01042_impl_library), ("unicode/utf8.first", laid_unicode_utf8_first)], narrowed := true }
def FnExactBondNamedUptoSaid : Prop := fnExactBondNamedUptoRow.holds Tryd.pinned (OpenSpec.upto fnExactBondNamedSpec)

/-- 'laws.FnExactBondNames', WHERE WHAT IT READS IS OF BULK AT MOST 1048576: true; the input reads as it did. -/
def fnExactBondNamesUptoRow : OpenClaim := { program := "ytnkaafpdlmmdfaadoor", sum := "aaee316f1308f04be961e61d954370b0ca5759ea32b5a77ae8095f656e21cceb", func := "loop.example/g01042/laws.FnExactBondNames", spec := "fnExactBondNames", inPlace := ["internal/bytealg.IndexByteString", "internal/bytealg.IndexString"], named := ["loop.example/g01042/impl.library", "internal/bytealg.MaxLen"], apart := false, laid := [("loop.example/g01042/impl.library", laid_loop_example_g01042_impl_library)], narrowed := true }
def FnExactBondNamesUptoSaid : Prop := fnExactBondNamesUptoRow.holds Tryd.pinned (OpenSpec.upto fnExactBondNamesSpec)

/-- 'laws.FnExactBondText', WHERE WHAT IT READS IS OF BULK AT MOST 1048576: true; the input reads as it did. -/
def fnExactBondTextUptoRow : OpenClaim := { program := "ytnkaafpdlmmdfaadoor", sum := "aaee316f1308f04be961e61d954370b0ca5759ea32b5a77ae8095f656e21cceb", func := "loop.example/g01042/laws.FnExactBondText", spec := "fnExactBondText", inPlace := ["internal/bytealg.IndexByteString", "internal/bytealg.IndexString", "internal/abi.NoEscape", "internal/bytealg.MakeNoZero"], named := ["unicode/utf8.first", "unicode/utf8.acceptRanges", "internal/bytealg.MaxLen"], apart := false, laid := [("unicode/utf8.acceptRanges", laid_unicode_utf8_acceptRanges), ("unicode/utf8.first", laid_unicode_utf8_first)], narrowed := true }
def FnExactBondTextUptoSaid : Prop := fnExactBondTextUptoRow.holds Tryd.pinned (OpenSpec.upto fnExactBondTextSpec)

/-- 'laws.FnExactReadBond', WHERE WHAT IT READS IS OF BULK AT MOST 1048576: true; the input reads as it did. -/
def fnExactReadBondUptoRow : OpenClaim := { program := "ytnkaafpdlmmdfaadoor", sum := "aaee316f1308f04be961e61d954370b0ca5759ea32b5a77ae8095f656e21cceb", func := "loop.example/g01042/laws.FnExactReadBond", spec := "fnExactReadBond", inPlace := ["internal/bytealg.CountString", "internal/bytealg.IndexByteString", "internal/bytealg.IndexString", "internal/reflectlite.TypeOf"], unfollowed := true, recurses := true, named := ["unicode/utf8.first", "unicode/utf8.acceptRanges", "internal/bytealg.MaxLen"], apart := false, laid := [("unicode/utf8.acceptRanges", laid_unicode_utf8_acceptRanges), ("unicode/utf8.first", laid_unicode_utf8_first)], narrowed := true }
def FnExactReadBondUptoSaid : Prop := fnExactReadBondUptoRow.holds Tryd.pinned (OpenSpec.upto fnExactReadBondSpec)

/-- 'laws.FnExactCheckBond', WHERE WHAT IT READS IS OF BULK AT MOST 1048576: true; the input reads as it did. -/
def fnExactCheckBondUptoRow : OpenClaim := { program := "ytnkaafpdlmmdfaadoor", sum := "aaee316f1308f04be961e61d954370b0ca5759ea32b5a77ae8095f656e21cceb", func := "loop.example/g01042/laws.FnExactCheckBond", spec := "fnExactCheckBond", inPlace := ["internal/bytealg.CountString", "internal/bytealg.IndexByteString", "internal/bytealg.IndexString", "internal/reflectlite.TypeOf"], unfollowed := true, recurses := true, named := ["unicode/utf8.first", "unicode/utf8.acceptRanges", "internal/bytealg.MaxLen"], apart := false, laid := [("unicode/utf8.acceptRanges", laid_unicode_utf8_acceptRanges), ("unicode/utf8.first", laid_unicode_utf8_first)], narrowed := true }
def FnExactCheckBondUptoSaid : Prop := fnExactCheckBondUptoRow.holds Tryd.pinned (OpenSpec.upto fnExactCheckBondSpec)

/-- 'laws.FnExactProblemName', WHERE WHAT IT READS IS OF BULK AT MOST 1048576: true; the input reads as it did. -/
def fnExactProblemNameUptoRow : OpenClaim := { program := "ytnkaafpdlmmdfaadoor", sum := "aaee316f1308f04be961e61d954370b0ca5759ea32b5a77ae8095f656e21cceb", func := "loop.example/g01042/laws.FnExactProblemName", spec := "fnExactProblemName", named := ["loop.example/g01042/impl.problemNames"], apart := false, laid := [("loop.example/g01042/impl.problemNames", laid_loop_example_g01042_impl_problemNames)], narrowed := true }
def FnExactProblemNameUptoSaid : Prop := fnExactProblemNameUptoRow.holds Tryd.pinned (OpenSpec.upto fnExactProblemNameSpec)

end Rows
end Go.Proofs.YtnkaafpdlmmdfaaDoor
