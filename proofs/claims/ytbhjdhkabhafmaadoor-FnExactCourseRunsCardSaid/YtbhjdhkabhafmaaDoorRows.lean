/-
  NARROWER THAN 'FOR EVERY INPUT', by the rows' own cells (each row's printed sentence says how): FnExactValidCourse: laid · FnExactCourseLength: laid · FnExactCoursePerpends: laid · FnExactCutsIn: laid · FnExactMirrorCourse: laid · FnExactLayCourse: laid · FnExactLayWall: laid · FnExactValidWall: laid · FnExactFirstClash: laid · FnExactIsBonded: laid · FnExactCountPieces: laid · FnExactCourseRuns: laid.
  DERIVED. THE GIVEN ROWS OF THIS SEAT. 12 by the template 'for every input the law returns true; each argument reads behind the call as it read before'; 0 by the template 'total and deterministic' (their statements: YtbhjdhkabhafmaaDoorTotals.lean).
  GIVEN WITH THE SEED: the statements are not yours to turn. If you find one false, say at which input.
  Laid BY PROGRAM, IN A SANDBOX (cutbox-rows.mjs): the forced cells as the released guide's own fill.sh prints them over the translation 4190213c52f18c03… (all of the seat's roots in one cut). By AI agents, Wed Nov 11 2026. No macro, syntax, notation, axiom, sorry.
-/
import Derived.Test.YtbhjdhkabhafmaaDoorChecked
import GoSem.PinnedTables
import GoSem.Claim
import GoSem.ClaimJoined
import GoSem.ClaimMapViews
import Derived.JoinedTies
import Derived.KernelRfl
namespace Go.Proofs.YtbhjdhkabhafmaaDoor
/- THE CELL 'sum', in the pinned program and in every row, IS THE sha256 OF THE DUMP (.gsa) THAT YtbhjdhkabhafmaaDoorProg.lean LOADS. Nothing in Lean hashes anything: it is a label: what it is worth is what the hold of that sum in a sandbox is worth. -/
noncomputable def Tryd.pinned : Pinned := { name := "ytbhjdhkabhafmaadoor", sum := "4190213c52f18c0341c3a62297c90a07ec7f2cf1ec4f3827ebf46a2bd408e7a2", checked := Tryd.checked }
namespace Rows
def none {H : Type} : Left H := { results := [], args := [] }

/- WHAT THE LISTED PACKAGE-LEVEL VARIABLES READ AS WHEN THE CALL BEGINS. Each datum BY PROGRAM (the guide's laid-datum.mjs) off the statement by which the dump's own 'gosem.cut.vars' lays the variable. In a bare row this is a premise. The card (YtbhjdhkabhafmaaDoorCards.lean) ties it to the program's text. -/
def laid_unicode_utf8_acceptRanges {H : Type} : DataW H := .agg [.agg [.lit (.int .u8 128), .lit (.int .u8 191)], .agg [.lit (.int .u8 160), .lit (.int .u8 191)], .agg [.lit (.int .u8 128), .lit (.int .u8 159)], .agg [.lit (.int .u8 144), .lit (.int .u8 191)], .agg [.lit (.int .u8 128), .lit (.int .u8 143)], .agg [.lit (.int .u8 0), .lit (.int .u8 0)], .agg [.lit (.int .u8 0), .lit (.int .u8 0)], .agg [.lit (.int .u8 0), .lit (.int .u8 0)], .agg [.lit (.int .u8 0), .lit (.int .u8 0)], .agg [.lit (.int .u8 0), .lit (.int .u8 0)], .agg [.lit (.int .u8 0), .lit (.int .u8 0)], .agg [.lit (.int .u8 0), .lit (.int .u8 0)], .agg [.lit (.int .u8 0), .lit (.int .u8 0)], .agg [.lit (.int .u8 0), .lit (.int .u8 0)], .agg [.lit (.int .u8 0), .lit (.int .u8 0)], .agg [.lit (.int .u8 0), .lit (.int .u8 0)]]
/-- One of Go's own tables, pinned by name: the form's constant. -/
def laid_unicode_utf8_first : DataW Unit := Go.Pinned.utf8First
def laid_loop_example_g01042_impl_fillers {H : Type} : DataW H := .agg [.lit (.string []), .lit (.string [67]), .lit (.string [66]), .lit (.string [84])]
def laid_math_bits_deBruijn32tab {H : Type} : DataW H := .agg [.lit (.int .u8 0), .lit (.int .u8 1), .lit (.int .u8 28), .lit (.int .u8 2), .lit (.int .u8 29), .lit (.int .u8 14), .lit (.int .u8 24), .lit (.int .u8 3), .lit (.int .u8 30), .lit (.int .u8 22), .lit (.int .u8 20), .lit (.int .u8 15), .lit (.int .u8 25), .lit (.int .u8 17), .lit (.int .u8 4), .lit (.int .u8 8), .lit (.int .u8 31), .lit (.int .u8 27), .lit (.int .u8 13), .lit (.int .u8 23), .lit (.int .u8 21), .lit (.int .u8 19), .lit (.int .u8 16), .lit (.int .u8 7), .lit (.int .u8 26), .lit (.int .u8 12), .lit (.int .u8 18), .lit (.int .u8 6), .lit (.int .u8 11), .lit (.int .u8 5), .lit (.int .u8 10), .lit (.int .u8 9)]
def laid_math_bits_deBruijn64tab {H : Type} : DataW H := .agg [.lit (.int .u8 0), .lit (.int .u8 1), .lit (.int .u8 56), .lit (.int .u8 2), .lit (.int .u8 57), .lit (.int .u8 49), .lit (.int .u8 28), .lit (.int .u8 3), .lit (.int .u8 61), .lit (.int .u8 58), .lit (.int .u8 42), .lit (.int .u8 50), .lit (.int .u8 38), .lit (.int .u8 29), .lit (.int .u8 17), .lit (.int .u8 4), .lit (.int .u8 62), .lit (.int .u8 47), .lit (.int .u8 59), .lit (.int .u8 36), .lit (.int .u8 45), .lit (.int .u8 43), .lit (.int .u8 51), .lit (.int .u8 22), .lit (.int .u8 53), .lit (.int .u8 39), .lit (.int .u8 33), .lit (.int .u8 30), .lit (.int .u8 24), .lit (.int .u8 18), .lit (.int .u8 12), .lit (.int .u8 5), .lit (.int .u8 63), .lit (.int .u8 55), .lit (.int .u8 48), .lit (.int .u8 27), .lit (.int .u8 60), .lit (.int .u8 41), .lit (.int .u8 37), .lit (.int .u8 16), .lit (.int .u8 46), .lit (.int .u8 35), .lit (.int .u8 44), .lit (.int .u8 21), .lit (.int .u8 52), .lit (.int .u8 32), .lit (.int .u8 23), .lit (.int .u8 11), .lit (.int .u8 54), .lit (.int .u8 26), .lit (.int .u8 40), .lit (.int .u8 15), .lit (.int .u8 34), .lit (.int .u8 20), .lit (.int .u8 31), .lit (.int .u8 10), .lit (.int .u8 25), .lit (.int .u8 14), .lit (.int .u8 19), .lit (.int .u8 9), .lit (.int .u8 13), .lit (.int .u8 8), .lit (.int .u8 7), .lit (.int .u8 6)]
def laid_internal_strconv_uint64pow10 {H : Type} : DataW H := .agg [.lit (.int .u64 1), .lit (.int .u64 10), .lit (.int .u64 100), .lit (.int .u64 1000), .lit (.int .u64 10000), .lit (.int .u64 100000), .lit (.int .u64 1000000), .lit (.int .u64 10000000), .lit (.int .u64 100000000), .lit (.int .u64 1000000000), .lit (.int .u64 10000000000), .lit (.int .u64 100000000000), .lit (.int .u64 1000000000000), .lit (.int .u64 10000000000000), .lit (.int .u64 100000000000000), .lit (.int .u64 1000000000000000), .lit (.int .u64 10000000000000000), .lit (.int .u64 100000000000000000), .lit (.int .u64 1000000000000000000), .lit (.int .u64 10000000000000000000)]

/-- 'laws.FnExactValidCourse': WHATEVER THE INPUT: true; the input reads as it did. -/
def fnExactValidCourseSpec : ChangeSpec := { name := "fnExactValidCourse", fn := fun _ => fun
  | [d] => { results := [.lit (.bool true)], args := [d] }
  | _ => none }
def fnExactValidCourseRow : OpenClaim := { program := "ytbhjdhkabhafmaadoor", sum := "4190213c52f18c0341c3a62297c90a07ec7f2cf1ec4f3827ebf46a2bd408e7a2", func := "loop.example/g01042/laws.FnExactValidCourse", spec := "fnExactValidCourse", inPlace := ["internal/bytealg.IndexByteString", "internal/bytealg.IndexString"], unfollowed := true, recurses := true, named := ["unicode/utf8.first", "unicode/utf8.acceptRanges", "internal/bytealg.MaxLen"], apart := false, laid := [("unicode/utf8.acceptRanges", laid_unicode_utf8_acceptRanges), ("unicode/utf8.first", laid_unicode_utf8_first)] }
def FnExactValidCourseSaid : Prop := fnExactValidCourseRow.holds Tryd.pinned (OpenSpec.ofChange fnExactValidCourseSpec)

/-- ITS FALSE NEIGHBOUR: 'it returns false'. Refute it at one input. -/
def fnExactValidCourseWrong : ChangeSpec := { name := "fnExactValidCourse", fn := fun _ => fun
  | [d] => { results := [.lit (.bool false)], args := [d] }
  | _ => none }
def FnExactValidCourseWrongFalsely : Prop := fnExactValidCourseRow.holds Tryd.pinned (OpenSpec.ofChange fnExactValidCourseWrong)

/-- 'laws.FnExactCourseLength': WHATEVER THE INPUT: true; the input reads as it did. -/
def fnExactCourseLengthSpec : ChangeSpec := { name := "fnExactCourseLength", fn := fun _ => fun
  | [d] => { results := [.lit (.bool true)], args := [d] }
  | _ => none }
def fnExactCourseLengthRow : OpenClaim := { program := "ytbhjdhkabhafmaadoor", sum := "4190213c52f18c0341c3a62297c90a07ec7f2cf1ec4f3827ebf46a2bd408e7a2", func := "loop.example/g01042/laws.FnExactCourseLength", spec := "fnExactCourseLength", inPlace := ["internal/bytealg.IndexByteString", "internal/bytealg.IndexString"], unfollowed := true, recurses := true, named := ["unicode/utf8.first", "unicode/utf8.acceptRanges", "internal/bytealg.MaxLen"], apart := false, laid := [("unicode/utf8.acceptRanges", laid_unicode_utf8_acceptRanges), ("unicode/utf8.first", laid_unicode_utf8_first)] }
def FnExactCourseLengthSaid : Prop := fnExactCourseLengthRow.holds Tryd.pinned (OpenSpec.ofChange fnExactCourseLengthSpec)

/-- ITS FALSE NEIGHBOUR: 'it returns false'. Refute it at one input. -/
def fnExactCourseLengthWrong : ChangeSpec := { name := "fnExactCourseLength", fn := fun _ => fun
  | [d] => { results := [.lit (.bool false)], args := [d] }
  | _ => none }
def FnExactCourseLengthWrongFalsely : Prop := fnExactCourseLengthRow.holds Tryd.pinned (OpenSpec.ofChange fnExactCourseLengthWrong)

/-- 'laws.FnExactCoursePerpends': WHATEVER THE INPUT: true; the input reads as it did. -/
def fnExactCoursePerpendsSpec : ChangeSpec := { name := "fnExactCoursePerpends", fn := fun _ => fun
  | [d] => { results := [.lit (.bool true)], args := [d] }
  | _ => none }
def fnExactCoursePerpendsRow : OpenClaim := { program := "ytbhjdhkabhafmaadoor", sum := "4190213c52f18c0341c3a62297c90a07ec7f2cf1ec4f3827ebf46a2bd408e7a2", func := "loop.example/g01042/laws.FnExactCoursePerpends", spec := "fnExactCoursePerpends", inPlace := ["internal/bytealg.IndexByteString", "internal/bytealg.IndexString"], unfollowed := true, recurses := true, named := ["unicode/utf8.first", "unicode/utf8.acceptRanges", "internal/bytealg.MaxLen"], apart := false, laid := [("unicode/utf8.acceptRanges", laid_unicode_utf8_acceptRanges), ("unicode/utf8.first", laid_unicode_utf8_first)] }
def FnExactCoursePerpendsSaid : Prop := fnExactCoursePerpendsRow.holds Tryd.pinned (OpenSpec.ofChange fnExactCoursePerpendsSpec)

/-- ITS FALSE NEIGHBOUR: 'it returns false'. Refute it at one input. -/
def fnExactCoursePerpendsWrong : ChangeSpec := { name := "fnExactCoursePerpends", fn := fun _ => fun
  | [d] => { results := [.lit (.bool false)], args := [d] }
  | _ => none }
def FnExactCoursePerpendsWrongFalsely : Prop := fnExactCoursePerpendsRow.holds Tryd.pinned (OpenSpec.ofChange fnExactCoursePerpendsWrong)

/-- 'laws.FnExactCutsIn': WHATEVER THE INPUT: true; the input reads as it did. -/
def fnExactCutsInSpec : ChangeSpec := { name := "fnExactCutsIn", fn := fun _ => fun
  | [d] => { results := [.lit (.bool true)], args := [d] }
  | _ => none }
def fnExactCutsInRow : OpenClaim := { program := "ytbhjdhkabhafmaadoor", sum := "4190213c52f18c0341c3a62297c90a07ec7f2cf1ec4f3827ebf46a2bd408e7a2", func := "loop.example/g01042/laws.FnExactCutsIn", spec := "fnExactCutsIn", inPlace := ["internal/bytealg.IndexByteString", "internal/bytealg.IndexString", "internal/bytealg.CountString"], unfollowed := true, recurses := true, named := ["unicode/utf8.first", "unicode/utf8.acceptRanges", "internal/bytealg.MaxLen"], apart := false, laid := [("unicode/utf8.acceptRanges", laid_unicode_utf8_acceptRanges), ("unicode/utf8.first", laid_unicode_utf8_first)] }
def FnExactCutsInSaid : Prop := fnExactCutsInRow.holds Tryd.pinned (OpenSpec.ofChange fnExactCutsInSpec)

/-- ITS FALSE NEIGHBOUR: 'it returns false'. Refute it at one input. -/
def fnExactCutsInWrong : ChangeSpec := { name := "fnExactCutsIn", fn := fun _ => fun
  | [d] => { results := [.lit (.bool false)], args := [d] }
  | _ => none }
def FnExactCutsInWrongFalsely : Prop := fnExactCutsInRow.holds Tryd.pinned (OpenSpec.ofChange fnExactCutsInWrong)

/-- 'laws.FnExactMirrorCourse': WHATEVER THE INPUT: true; the input reads as it did. -/
def fnExactMirrorCourseSpec : ChangeSpec := { name := "fnExactMirrorCourse", fn := fun _ => fun
  | [d] => { results := [.lit (.bool true)], args := [d] }
  | _ => none }
def fnExactMirrorCourseRow : OpenClaim := { program := "ytbhjdhkabhafmaadoor", sum := "4190213c52f18c0341c3a62297c90a07ec7f2cf1ec4f3827ebf46a2bd408e7a2", func := "loop.example/g01042/laws.FnExactMirrorCourse", spec := "fnExactMirrorCourse", inPlace := ["internal/bytealg.IndexByteString", "internal/bytealg.IndexString"], unfollowed := true, recurses := true, named := ["unicode/utf8.first", "unicode/utf8.acceptRanges", "internal/bytealg.MaxLen"], apart := false, laid := [("unicode/utf8.acceptRanges", laid_unicode_utf8_acceptRanges), ("unicode/utf8.first", laid_unicode_utf8_first)] }
def FnExactMirrorCourseSaid : Prop := fnExactMirrorCourseRow.holds Tryd.pinned (OpenSpec.ofChange fnExactMirrorCourseSpec)

/-- ITS FALSE NEIGHBOUR: 'it returns false'. Refute it at one input. -/
def fnExactMirrorCourseWrong : ChangeSpec := { name := "fnExactMirrorCourse", fn := fun _ => fun
  | [d] => { results := [.lit (.bool false)], args := [d] }
  | _ => none }
def FnExactMirrorCourseWrongFalsely : Prop := fnExactMirrorCourseRow.holds Tryd.pinned (OpenSpec.ofChange fnExactMirrorCourseWrong)

/-- 'laws.FnExactLayCourse': WHATEVER THE INPUT: true; the input reads as it did. -/
def fnExactLayCourseSpec : ChangeSpec := { name := "fnExactLayCourse", vars := ["loop.example/g01042/impl.fillers"], fn := fun _ => fun
  | [d1, d2, d3, g1] => { results := [.lit (.bool true)], args := [d1, d2, d3], vars := [g1] }
  | _ => none }
def fnExactLayCourseRow : OpenClaim := { program := "ytbhjdhkabhafmaadoor", sum := "4190213c52f18c0341c3a62297c90a07ec7f2cf1ec4f3827ebf46a2bd408e7a2", func := "loop.example/g01042/laws.FnExactLayCourse", spec := "fnExactLayCourse", inPlace := ["internal/bytealg.IndexByteString", "internal/bytealg.IndexString", "internal/abi.NoEscape"], unfollowed := true, recurses := true, named := ["loop.example/g01042/impl.fillers", "unicode/utf8.first", "unicode/utf8.acceptRanges", "internal/bytealg.MaxLen"], apart := false, laid := [("unicode/utf8.acceptRanges", laid_unicode_utf8_acceptRanges), ("loop.example/g01042/impl.fillers", laid_loop_example_g01042_impl_fillers), ("unicode/utf8.first", laid_unicode_utf8_first)] }
def FnExactLayCourseSaid : Prop := fnExactLayCourseRow.holds Tryd.pinned (OpenSpec.ofChange fnExactLayCourseSpec)

/-- ITS FALSE NEIGHBOUR: 'it returns false'. Refute it at one input. -/
def fnExactLayCourseWrong : ChangeSpec := { name := "fnExactLayCourse", vars := ["loop.example/g01042/impl.fillers"], fn := fun _ => fun
  | [d1, d2, d3, g1] => { results := [.lit (.bool false)], args := [d1, d2, d3], vars := [g1] }
  | _ => none }
def FnExactLayCourseWrongFalsely : Prop := fnExactLayCourseRow.holds Tryd.pinned (OpenSpec.ofChange fnExactLayCourseWrong)

/-- 'laws.FnExactLayWall': WHATEVER THE INPUT: true; the input reads as it did. -/
def fnExactLayWallSpec : ChangeSpec := { name := "fnExactLayWall", vars := ["loop.example/g01042/impl.fillers"], fn := fun _ => fun
  | [d1, d2, d3, g1] => { results := [.lit (.bool true)], args := [d1, d2, d3], vars := [g1] }
  | _ => none }
def fnExactLayWallRow : OpenClaim := { program := "ytbhjdhkabhafmaadoor", sum := "4190213c52f18c0341c3a62297c90a07ec7f2cf1ec4f3827ebf46a2bd408e7a2", func := "loop.example/g01042/laws.FnExactLayWall", spec := "fnExactLayWall", inPlace := ["internal/bytealg.IndexByteString", "internal/bytealg.IndexString", "internal/abi.NoEscape"], unfollowed := true, recurses := true, named := ["unicode/utf8.first", "unicode/utf8.acceptRanges", "loop.example/g01042/impl.fillers", "internal/bytealg.MaxLen"], apart := false, laid := [("unicode/utf8.acceptRanges", laid_unicode_utf8_acceptRanges), ("loop.example/g01042/impl.fillers", laid_loop_example_g01042_impl_fillers), ("unicode/utf8.first", laid_unicode_utf8_first)] }
def FnExactLayWallSaid : Prop := fnExactLayWallRow.holds Tryd.pinned (OpenSpec.ofChange fnExactLayWallSpec)

/-- ITS FALSE NEIGHBOUR: 'it returns false'. Refute it at one input. -/
def fnExactLayWallWrong : ChangeSpec := { name := "fnExactLayWall", vars := ["loop.example/g01042/impl.fillers"], fn := fun _ => fun
  | [d1, d2, d3, g1] => { results := [.lit (.bool false)], args := [d1, d2, d3], vars := [g1] }
  | _ => none }
def FnExactLayWallWrongFalsely : Prop := fnExactLayWallRow.holds Tryd.pinned (OpenSpec.ofChange fnExactLayWallWrong)

/-- 'laws.FnExactValidWall': WHATEVER THE INPUT: true; the input reads as it did. -/
def fnExactValidWallSpec : ChangeSpec := { name := "fnExactValidWall", fn := fun _ => fun
  | [d] => { results := [.lit (.bool true)], args := [d] }
  | _ => none }
def fnExactValidWallRow : OpenClaim := { program := "ytbhjdhkabhafmaadoor", sum := "4190213c52f18c0341c3a62297c90a07ec7f2cf1ec4f3827ebf46a2bd408e7a2", func := "loop.example/g01042/laws.FnExactValidWall", spec := "fnExactValidWall", inPlace := ["internal/bytealg.IndexByteString", "internal/bytealg.IndexString"], unfollowed := true, recurses := true, named := ["unicode/utf8.first", "unicode/utf8.acceptRanges", "internal/bytealg.MaxLen"], apart := false, laid := [("unicode/utf8.acceptRanges", laid_unicode_utf8_acceptRanges), ("unicode/utf8.first", laid_unicode_utf8_first)] }
def FnExactValidWallSaid : Prop := fnExactValidWallRow.holds Tryd.pinned (OpenSpec.ofChange fnExactValidWallSpec)

/-- ITS FALSE NEIGHBOUR: 'it returns false'. Refute it at one input. -/
def fnExactValidWallWrong : ChangeSpec := { name := "fnExactValidWall", fn := fun _ => fun
  | [d] => { results := [.lit (.bool false)], args := [d] }
  | _ => none }
def FnExactValidWallWrongFalsely : Prop := fnExactValidWallRow.holds Tryd.pinned (OpenSpec.ofChange fnExactValidWallWrong)

/-- 'laws.FnExactFirstClash': WHATEVER THE INPUT: true; the input reads as it did. -/
def fnExactFirstClashSpec : ChangeSpec := { name := "fnExactFirstClash", fn := fun _ => fun
  | [d1, d2] => { results := [.lit (.bool true)], args := [d1, d2] }
  | _ => none }
def fnExactFirstClashRow : OpenClaim := { program := "ytbhjdhkabhafmaadoor", sum := "4190213c52f18c0341c3a62297c90a07ec7f2cf1ec4f3827ebf46a2bd408e7a2", func := "loop.example/g01042/laws.FnExactFirstClash", spec := "fnExactFirstClash", inPlace := ["internal/bytealg.IndexByteString", "internal/bytealg.IndexString"], unfollowed := true, recurses := true, named := ["unicode/utf8.first", "unicode/utf8.acceptRanges", "internal/bytealg.MaxLen"], apart := false, laid := [("unicode/utf8.acceptRanges", laid_unicode_utf8_acceptRanges), ("unicode/utf8.first", laid_unicode_utf8_first)] }
def FnExactFirstClashSaid : Prop := fnExactFirstClashRow.holds Tryd.pinned (OpenSpec.ofChange fnExactFirstClashSpec)

/-- ITS FALSE NEIGHBOUR: 'it returns false'. Refute it at one input. -/
def fnExactFirstClashWrong : ChangeSpec := { name := "fnExactFirstClash", fn := fun _ => fun
  | [d1, d2] => { results := [.lit (.bool false)], args := [d1, d2] }
  | _ => none }
def FnExactFirstClashWrongFalsely : Prop := fnExactFirstClashRow.holds Tryd.pinned (OpenSpec.ofChange fnExactFirstClashWrong)

/-- 'laws.FnExactIsBonded': WHATEVER THE INPUT: true; the input reads as it did. -/
def fnExactIsBondedSpec : ChangeSpec := { name := "fnExactIsBonded", fn := fun _ => fun
  | [d1, d2] => { results := [.lit (.bool true)], args := [d1, d2] }
  | _ => none }
def fnExactIsBondedRow : OpenClaim := { program := "ytbhjdhkabhafmaadoor", sum := "4190213c52f18c0341c3a62297c90a07ec7f2cf1ec4f3827ebf46a2bd408e7a2", func := "loop.example/g01042/laws.FnExactIsBonded", spec := "fnExactIsBonded", inPlace := ["internal/bytealg.IndexByteString", "internal/bytealg.IndexString"], unfollowed := true, recurses := true, named := ["unicode/utf8.first", "unicode/utf8.acceptRanges", "internal/bytealg.MaxLen"], apart := false, laid := [("unicode/utf8.acceptRanges", laid_unicode_utf8_acceptRanges), ("unicode/utf8.first", laid_unicode_utf8_first)] }
def FnExactIsBondedSaid : Prop := fnExactIsBondedRow.holds Tryd.pinned (OpenSpec.ofChange fnExactIsBondedSpec)

/-- ITS FALSE NEIGHBOUR: 'it returns false'. Refute it at one input. -/
def fnExactIsBondedWrong : ChangeSpec := { name := "fnExactIsBonded", fn := fun _ => fun
  | [d1, d2] => { results := [.lit (.bool false)], args := [d1, d2] }
  | _ => none }
def FnExactIsBondedWrongFalsely : Prop := fnExactIsBondedRow.holds Tryd.pinned (OpenSpec.ofChange fnExactIsBondedWrong)

/-- 'laws.FnExactCountPieces': WHATEVER THE INPUT: true; the input reads as it did. -/
def fnExactCountPiecesSpec : ChangeSpec := { name := "fnExactCountPieces", fn := fun _ => fun
  | [d] => { results := [.lit (.bool true)], args := [d] }
  | _ => none }
def fnExactCountPiecesRow : OpenClaim := { program := "ytbhjdhkabhafmaadoor", sum := "4190213c52f18c0341c3a62297c90a07ec7f2cf1ec4f3827ebf46a2bd408e7a2", func := "loop.example/g01042/laws.FnExactCountPieces", spec := "fnExactCountPieces", inPlace := ["internal/bytealg.IndexByteString", "internal/bytealg.IndexString", "internal/bytealg.CountString"], unfollowed := true, recurses := true, named := ["unicode/utf8.first", "unicode/utf8.acceptRanges", "internal/bytealg.MaxLen"], apart := false, laid := [("unicode/utf8.acceptRanges", laid_unicode_utf8_acceptRanges), ("unicode/utf8.first", laid_unicode_utf8_first)] }
def FnExactCountPiecesSaid : Prop := fnExactCountPiecesRow.holds Tryd.pinned (OpenSpec.ofChange fnExactCountPiecesSpec)

/-- ITS FALSE NEIGHBOUR: 'it returns false'. Refute it at one input. -/
def fnExactCountPiecesWrong : ChangeSpec := { name := "fnExactCountPieces", fn := fun _ => fun
  | [d] => { results := [.lit (.bool false)], args := [d] }
  | _ => none }
def FnExactCountPiecesWrongFalsely : Prop := fnExactCountPiecesRow.holds Tryd.pinned (OpenSpec.ofChange fnExactCountPiecesWrong)

/-- 'laws.FnExactCourseRuns': WHATEVER THE INPUT: true; the input reads as it did. -/
def fnExactCourseRunsSpec : ChangeSpec := { name := "fnExactCourseRuns", fn := fun _ => fun
  | [d] => { results := [.lit (.bool true)], args := [d] }
  | _ => none }
def fnExactCourseRunsRow : OpenClaim := { program := "ytbhjdhkabhafmaadoor", sum := "4190213c52f18c0341c3a62297c90a07ec7f2cf1ec4f3827ebf46a2bd408e7a2", func := "loop.example/g01042/laws.FnExactCourseRuns", spec := "fnExactCourseRuns", inPlace := ["internal/bytealg.IndexByteString", "internal/bytealg.IndexString", "internal/abi.NoEscape", "internal/bytealg.MakeNoZero"], unfollowed := true, recurses := true, named := ["unicode/utf8.first", "unicode/utf8.acceptRanges", "internal/strconv.uint64pow10", "math/bits.deBruijn32tab", "math/bits.deBruijn64tab", "internal/bytealg.MaxLen"], apart := false, laid := [("math/bits.deBruijn32tab", laid_math_bits_deBruijn32tab), ("math/bits.deBruijn64tab", laid_math_bits_deBruijn64tab), ("internal/strconv.uint64pow10", laid_internal_strconv_uint64pow10), ("unicode/utf8.acceptRanges", laid_unicode_utf8_acceptRanges), ("unicode/utf8.first", laid_unicode_utf8_first)] }
def FnExactCourseRunsSaid : Prop := fnExactCourseRunsRow.holds Tryd.pinned (OpenSpec.ofChange fnExactCourseRunsSpec)

/-- ITS FALSE NEIGHBOUR: 'it returns false'. Refute it at one input. -/
def fnExactCourseRunsWrong : ChangeSpec := { name := "fnExactCourseRuns", fn := fun _ => fun
  | [d] => { results := [.lit (.bool false)], args := [d] }
  | _ => none }
def FnExactCourseRunsWrongFalsely : Prop := fnExactCourseRunsRow.holds Tryd.pinned (OpenSpec.ofChange fnExactCourseRunsWrong)

/- THE SECOND FORM. 'bulk': how many values and letters a reading holds, each counted each time it is reached (what is shared counts as often as it is met; a slice's spare places count too). A statement '..UptoSaid' is the law's where the arguments, and the package variables that the reading takes, are together of bulk at most 1048576: NARROWER than '..Said'. Prove '..Said' where nothing that the law and all that it calls make is longer than what came in: it says more and counts as full. Else prove '..UptoSaid'. A law counts once. -/
mutual
def uptoBulk {H : Type} : DataW H → Nat
  | .lit (.string bytes) => bytes.length + 1
  | .lit _ => 1
  | .nil => 1
  | .ptr d => uptoBulk d + 1
  | .slice elems spare => uptoBulkAll elems + uptoBulkAll spare + 1
  | .agg parts => uptoBulkAll parts + 1
  | .iface _ d => uptoBulk d + 1
  | .map entries => uptoBulkEntries entries + 1
  | .held _ => 1
def uptoBulkAll {H : Type} : List (DataW H) → Nat
  | [] => 0
  | d :: r => uptoBulk d + uptoBulkAll r
def uptoBulkEntries {H : Type} : List (Lit × DataW H) → Nat
  | [] => 0
  | x :: r => uptoBulkEntry x + uptoBulkEntries r
def uptoBulkEntry {H : Type} : Lit × DataW H → Nat
  | (.string bytes, d) => bytes.length + uptoBulk d + 1
  | (_, d) => uptoBulk d + 1
 end
def uptoSmall : (H : Type) → List (DataW H) → Bool := fun _ ds => decide (uptoBulkAll ds ≤ 1048576)
def OpenSpec.upto (s : _root_.Go.ChangeSpec) : _root_.Go.OpenSpec := { _root_.Go.OpenSpec.ofChange s with cond := some uptoSmall }

/-- 'laws.FnExactValidCourse', WHERE WHAT IT READS IS OF BULK AT MOST 1048576: true; the input reads as it did. -/
def fnExactValidCourseUptoRow : OpenClaim := { program := "ytbhjdhkabhafmaadoor", sum := "4190213c52f18c0341c3a62297c90a07ec7f2cf1ec4f3827ebf46a2bd408e7a2", func := "loop.example/g01042/laws.FnExactValidCourse", spec := "fnExactValidCourse", inPlace := ["internal/bytealg.IndexByteString", "internal/bytealg.IndexString"], unfollowed := true, recurses := true, named := ["unicode/utf8.first", "unicode/utf8.acceptRanges", "internal/bytealg.MaxLen"], apart := false, laid := [("unicode/utf8.acceptRanges", laid_unicode_utf8_acceptRanges), ("unicode/utf8.first", laid_unicode_utf8_first)], narrowed := true }
def FnExactValidCourseUptoSaid : Prop := fnExactValidCourseUptoRow.holds Tryd.pinned (OpenSpec.upto fnExactValidCourseSpec)

/-- 'laws.FnExactCourseLength', WHERE WHAT IT READS IS OF BULK AT MOST 1048576: true; the input reads as it did. -/
def fnExactCourseLengthUptoRow : OpenClaim := { program := "ytbhjdhkabhafmaadoor", sum := "4190213c52f18c0341c3a62297c90a07ec7f2cf1ec4f3827ebf46a2bd408e7a2", func := "loop.example/g01042/laws.FnExactCourseLength", spec := "fnExactCourseLength", inPlace := ["internal/bytealg.IndexByteString", "internal/bytealg.IndexString"], unfollowed := true, recurses := true, named := ["unicode/utf8.first", "unicode/utf8.acceptRanges", "internal/bytealg.MaxLen"], apart := false, laid := [("unicode/utf8.acceptRanges", laid_unicode_utf8_acceptRanges), ("unicode/utf8.first", laid_unicode_utf8_first)], narrowed := true }
def FnExactCourseLengthUptoSaid : Prop := fnExactCourseLengthUptoRow.holds Tryd.pinned (OpenSpec.upto fnExactCourseLengthSpec)

/-- 'laws.FnExactCoursePerpends', WHERE WHAT IT READS IS OF BULK AT MOST 1048576: true; the input reads as it did. -/
def fnExactCoursePerpendsUptoRow : OpenClaim := { program := "ytbhjdhkabhafmaadoor", sum := "4190213c52f18c0341c3a62297c90a07ec7f2cf1ec4f3827ebf46a2bd408e7a2", func := "loop.example/g01042/laws.FnExactCoursePerpends", spec := "fnExactCoursePerpends", inPlace := ["internal/bytealg.IndexByteString", "internal/bytealg.IndexString"], unfollowed := true, recurses := true, named := ["unicode/utf8.first", "unicode/utf8.acceptRanges", "internal/bytealg.MaxLen"], apart := false, laid := [("unicode/utf8.acceptRanges", laid_unicode_utf8_acceptRanges), ("unicode/utf8.first", laid_unicode_utf8_first)], narrowed := true }
def FnExactCoursePerpendsUptoSaid : Prop := fnExactCoursePerpendsUptoRow.holds Tryd.pinned (OpenSpec.upto fnExactCoursePerpendsSpec)

/-- 'laws.FnExactCutsIn', WHERE WHAT IT READS IS OF BULK AT MOST 1048576: true; the input reads as it did. -/
def fnExactCutsInUptoRow : OpenClaim := { program := "ytbhjdhkabhafmaadoor", sum := "4190213c52f18c0341c3a62297c90a07ec7f2cf1ec4f3827ebf46a2bd408e7a2", func := "loop.example/g01042/laws.FnExactCutsIn", spec := "fnExactCutsIn", inPlace := ["internal/bytealg.IndexByteString", "internal/bytealg.IndexString", "internal/bytealg.CountString"], unfollowed := true, recurses := true, named := ["unicode/utf8.first", "unicode/utf8.acceptRanges", "internal/bytealg.MaxLen"], apart := false, laid := [("unicode/utf8.acceptRanges", laid_unicode_utf8_acceptRanges), ("unicode/utf8.first", laid_unicode_utf8_first)], narrowed := true }
def FnExactCutsInUptoSaid : Prop := fnExactCutsInUptoRow.holds Tryd.pinned (OpenSpec.upto fnExactCutsInSpec)

/-- 'laws.FnExactMirrorCourse', WHERE WHAT IT READS IS OF BULK AT MOST 1048576: true; the input reads as it did. -/
def fnExactMirrorCourseUptoRow : OpenClaim := { program := "ytbhjdhkabhafmaadoor", sum := "4190213c52f18c0341c3a62297c90a07ec7f2cf1ec4f3827ebf46a2bd408e7a2", func := "loop.example/g01042/laws.FnExactMirrorCourse", spec := "fnExactMirrorCourse", inPlace := ["internal/bytealg.IndexByteString", "internal/bytealg.IndexString"], unfollowed := true, recurses := true, named := ["unicode/utf8.first", "unicode/utf8.acceptRanges", "internal/bytealg.MaxLen"], apart := false, laid := [("unicode/utf8.acceptRanges", laid_unicode_utf8_acceptRanges), ("unicode/utf8.first", laid_unicode_utf8_first)], narrowed := true }
def FnExactMirrorCourseUptoSaid : Prop := fnExactMirrorCourseUptoRow.holds Tryd.pinned (OpenSpec.upto fnExactMirrorCourseSpec)

/-- 'laws.FnExactLayCourse', WHERE WHAT IT READS IS OF BULK AT MOST 1048576: true; the input reads as it did. -/
def fnExactLayCourseUptoRow : OpenClaim := { program := "ytbhjdhkabhafmaadoor", sum := "4190213c52f18c0341c3a62297c90a07ec7f2cf1ec4f3827ebf46a2bd408e7a2", func := "loop.example/g01042/laws.FnExactLayCourse", spec := "fnExactLayCourse", inPlace := ["internal/bytealg.IndexByteString", "internal/bytealg.IndexString", "internal/abi.NoEscape"], unfollowed := true, recurses := true, named := ["loop.example/g01042/impl.fillers", "unicode/utf8.first", "unicode/utf8.acceptRanges", "internal/bytealg.MaxLen"], apart := false, laid := [("unicode/utf8.acceptRanges", laid_unicode_utf8_acceptRanges), ("loop.example/g01042/impl.fillers", laid_loop_example_g01042_impl_fillers), ("unicode/utf8.first", laid_unicode_utf8_first)], narrowed := true }
def FnExactLayCourseUptoSaid : Prop := fnExactLayCourseUptoRow.holds Tryd.pinned (OpenSpec.upto fnExactLayCourseSpec)

/-- 'laws.FnExactLayWall', WHERE WHAT IT READS IS OF BULK AT MOST 1048576: true; the input reads as it did. -/
def fnExactLayWallUptoRow : OpenClaim := { program := "ytbhjdhkabhafmaadoor", sum := "4190213c52f18c0341c3a62297c90a07ec7f2cf1ec4f3827ebf46a2bd408e7a2", func := "loop.example/g01042/laws.FnExactLayWall", spec := "fnExactLayWall", inPlace := ["internal/bytealg.IndexByteString", "internal/bytealg.IndexString", "internal/abi.NoEscape"], unfollowed := true, recurses := true, named := ["unicode/utf8.first", "unicode/utf8.acceptRanges", "loop.example/g01042/impl.fillers", "internal/bytealg.MaxLen"], apart := false, laid := [("unicode/utf8.acceptRanges", laid_unicode_utf8_acceptRanges), ("loop.example/g01042/impl.fillers", laid_loop_example_g01042_impl_fillers), ("unicode/utf8.first", laid_unicode_utf8_first)], narrowed := true }
def FnExactLayWallUptoSaid : Prop := fnExactLayWallUptoRow.holds Tryd.pinned (OpenSpec.upto fnExactLayWallSpec)

/-- 'laws.FnExactValidWall', WHERE WHAT IT READS IS OF BULK AT MOST 1048576: true; the input reads as it did. -/
def fnExactValidWallUptoRow : OpenClaim := { program := "ytbhjdhkabhafmaadoor", sum := "4190213c52f18c0341c3a62297c90a07ec7f2cf1ec4f3827ebf46a2bd408e7a2", func := "loop.example/g01042/laws.FnExactValidWall", spec := "fnExactValidWall", inPlace := ["internal/bytealg.IndexByteString", "internal/bytealg.IndexString"], unfollowed := true, recurses := true, named := ["unicode/utf8.first", "unicode/utf8.acceptRanges", "internal/bytealg.MaxLen"], apart := false, laid := [("unicode/utf8.acceptRanges", laid_unicode_utf8_acceptRanges), ("unicode/utf8.first", laid_unicode_utf8_first)], narrowed := true }
def FnExactValidWallUptoSaid : Prop := fnExactValidWallUptoRow.holds Tryd.pinned (OpenSpec.upto fnExactValidWallSpec)

/-- 'laws.FnExactFirstClash', WHERE WHAT IT READS IS OF BULK AT MOST 1048576: true; the input reads as it did. -/
def fnExactFirstClashUptoRow : OpenClaim := { program := "ytbhjdhkabhafmaadoor", sum := "4190213c52f18c0341c3a62297c90a07ec7f2cf1ec4f3827ebf46a2bd408e7a2", func := "loop.example/g01042/laws.FnExactFirstClash", spec := "fnExactFirstClash", inPlace := ["internal/bytealg.IndexByteString", "internal/bytealg.IndexString"], unfollowed := true, recurses := true, named := ["unicode/utf8.first", "unicode/utf8.acceptRanges", "internal/bytealg.MaxLen"], apart := false, laid := [("unicode/utf8.acceptRanges", laid_unicode_utf8_acceptRanges), ("unicode/utf8.first", laid_unicode_utf8_first)], narrowed := true }
def FnExactFirstClashUptoSaid : Prop := fnExactFirstClashUptoRow.holds Tryd.pinned (OpenSpec.upto fnExactFirstClashSpec)

/-- 'laws.FnExactIsBonded', WHERE WHAT IT READS IS OF BULK AT MOST 1048576: true; the input reads as it did. -/
def fnExactIsBondedUptoRow : OpenClaim := { program := "ytbhjdhkabhafmaadoor", sum := "4190213c52f18c0341c3a62297c90a07ec7f2cf1ec4f3827ebf46a2bd408e7a2", func := "loop.example/g01042/laws.FnExactIsBonded", spec := "fnExactIsBonded", inPlace := ["internal/bytealg.IndexByteString", "internal/bytealg.IndexString"], unfollowed := true, recurses := true, named := ["unicode/utf8.first", "unicode/utf8.acceptRanges", "internal/bytealg.MaxLen"], apart := false, laid := [("unicode/utf8.acceptRanges", laid_unicode_utf8_acceptRanges), ("unicode/utf8.first", laid_unicode_utf8_first)], narrowed := true }
def FnExactIsBondedUptoSaid : Prop := fnExactIsBondedUptoRow.holds Tryd.pinned (OpenSpec.upto fnExactIsBondedSpec)

/-- 'laws.FnExactCountPieces', WHERE WHAT IT READS IS OF BULK AT MOST 1048576: true; the input reads as it did. -/
def fnExactCountPiecesUptoRow : OpenClaim := { program := "ytbhjdhkabhafmaadoor", sum := "4190213c52f18c0341c3a62297c90a07ec7f2cf1ec4f3827ebf46a2bd408e7a2", func := "loop.example/g01042/laws.FnExactCountPieces", spec := "fnExactCountPieces", inPlace := ["internal/bytealg.IndexByteString", "internal/bytealg.IndexString", "internal/bytealg.CountString"], unfollowed := true, recurses := true, named := ["unicode/utf8.first", "unicode/utf8.acceptRanges", "internal/bytealg.MaxLen"], apart := false, laid := [("unicode/utf8.acceptRanges", laid_unicode_utf8_acceptRanges), ("unicode/utf8.first", laid_unicode_utf8_first)], narrowed := true }
def FnExactCountPiecesUptoSaid : Prop := fnExactCountPiecesUptoRow.holds Tryd.pinned (OpenSpec.upto fnExactCountPiecesSpec)

/-- 'laws.FnExactCourseRuns', WHERE WHAT IT READS IS OF BULK AT MOST 1048576: true; the input reads as it did. -/
def fnExactCourseRunsUptoRow : OpenClaim := { program := "ytbhjdhkabhafmaadoor", sum := "4190213c52f18c0341c3a62297c90a07ec7f2cf1ec4f3827ebf46a2bd408e7a2", func := "loop.example/g01042/laws.FnExactCourseRuns", spec := "fnExactCourseRuns", inPlace := ["internal/bytealg.IndexByteString", "internal/bytealg.IndexString", "internal/abi.NoEscape", "internal/bytealg.MakeNoZero"], unfollowed := true, recurses := true, named := ["unicode/utf8.first", "unicode/utf8.acceptRanges", "internal/strconv.uint64pow10", "math/bits.deBruijn32tab", "math/bits.deBruijn64tab", "internal/bytealg.MaxLen"], apart := false, laid := [("math/bits.deBruijn32tab", laid_math_bits_deBruijn32tab), ("math/bits.deBruijn64tab", laid_math_bits_deBruijn64tab), ("internal/strconv.uint64pow10", laid_internal_strconv_uint64pow10), ("unicode/utf8.acceptRanges", laid_unicode_utf8_acceptRanges), ("unicode/utf8.first", laid_unicode_utf8_first)], narrowed := true }
def FnExactCourseRunsUptoSaid : Prop := fnExactCourseRunsUptoRow.holds Tryd.pinned (OpenSpec.upto fnExactCourseRunsSpec)

end Rows
end Go.Proofs.YtbhjdhkabhafmaaDoor
