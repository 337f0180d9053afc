/-
  NARROWER THAN 'FOR EVERY INPUT', by the rows' own cells (each row's printed sentence says how): FnExactValidHouse: laid · FnExactRoundHouse: laid · FnExactRunsThrough: laid · FnExactSideInCourse: laid · FnExactCourseAround: laid · FnExactCornerPoints: laid · FnExactQuoinLap: laid · FnExactAreaInside: laid · FnExactTurnHouse: laid · FnExactHouseText: laid · FnExactReadHouse: laid · FnExactIsSimple: laid.
  DERIVED. THE GIVEN ROWS OF THIS SEAT. 12 by the template 'for every input the law returns true; each argument reads behind the call as it read before'; 0 by the template 'total and deterministic' (their statements: YtikjielgnlgnjaaDoorTotals.lean).
  GIVEN WITH THE SEED: the statements are not yours to turn. If you find one false, say at which input.
  Laid BY PROGRAM, IN A SANDBOX (cutbox-rows.mjs): the forced cells as the released guide's own fill.sh prints them over the translation af0eb5db9557d173… (all of the seat's roots in one cut). By AI agents, Wed Nov 11 2026. No macro, syntax, notation, axiom, sorry.
-/
import Derived.Test.YtikjielgnlgnjaaDoorChecked
import GoSem.PinnedTables
import GoSem.Claim
import GoSem.ClaimJoined
import GoSem.ClaimMapViews
import Derived.JoinedTies
import Derived.KernelRfl
namespace Go.Proofs.YtikjielgnlgnjaaDoor
/- THE CELL 'sum', in the pinned program and in every row, IS THE sha256 OF THE DUMP (.gsa) THAT YtikjielgnlgnjaaDoorProg.lean LOADS. Nothing in Lean hashes anything: it is a label: what it is worth is what the hold of that sum in a sandbox is worth. -/
noncomputable def Tryd.pinned : Pinned := { name := "ytikjielgnlgnjaadoor", sum := "af0eb5db9557d17334f9b3eaee546bfff5050c4c37ce6b2dde2721b0ebfb2422", checked := Tryd.checked }
namespace Rows
def none {H : Type} : Left H := { results := [], args := [] }

/- WHAT THE LISTED PACKAGE-LEVEL VARIABLES READ AS WHEN THE CALL BEGINS. Each datum BY PROGRAM (the guide's laid-datum.mjs) off the statement by which the dump's own 'gosem.cut.vars' lays the variable. In a bare row this is a premise. The card (YtikjielgnlgnjaaDoorCards.lean) ties it to the program's text. -/
def laid_unicode_utf8_acceptRanges {H : Type} : DataW H := .agg [.agg [.lit (.int .u8 128), .lit (.int .u8 191)], .agg [.lit (.int .u8 160), .lit (.int .u8 191)], .agg [.lit (.int .u8 128), .lit (.int .u8 159)], .agg [.lit (.int .u8 144), .lit (.int .u8 191)], .agg [.lit (.int .u8 128), .lit (.int .u8 143)], .agg [.lit (.int .u8 0), .lit (.int .u8 0)], .agg [.lit (.int .u8 0), .lit (.int .u8 0)], .agg [.lit (.int .u8 0), .lit (.int .u8 0)], .agg [.lit (.int .u8 0), .lit (.int .u8 0)], .agg [.lit (.int .u8 0), .lit (.int .u8 0)], .agg [.lit (.int .u8 0), .lit (.int .u8 0)], .agg [.lit (.int .u8 0), .lit (.int .u8 0)], .agg [.lit (.int .u8 0), .lit (.int .u8 0)], .agg [.lit (.int .u8 0), .lit (.int .u8 0)], .agg [.lit (.int .u8 0), .lit (.int .u8 0)], .agg [.lit (.int .u8 0), .lit (.int .u8 0)]]
def laid_loop_example_g01042_impl_directions {H : Type} : DataW H := .agg [.agg [.lit (.int .i64 1), .lit (.int .i64 0)], .agg [.lit (.int .i64 0), .lit (.int .i64 1)], .agg [.lit (.int .i64 (-1)), .lit (.int .i64 0)], .agg [.lit (.int .i64 0), .lit (.int .i64 (-1))]]
/-- One of Go's own tables, pinned by name: the form's constant. -/
def laid_unicode_utf8_first : DataW Unit := Go.Pinned.utf8First
def laid_math_bits_deBruijn32tab {H : Type} : DataW H := .agg [.lit (.int .u8 0), .lit (.int .u8 1), .lit (.int .u8 28), .lit (.int .u8 2), .lit (.int .u8 29), .lit (.int .u8 14), .lit (.int .u8 24), .lit (.int .u8 3), .lit (.int .u8 30), .lit (.int .u8 22), .lit (.int .u8 20), .lit (.int .u8 15), .lit (.int .u8 25), .lit (.int .u8 17), .lit (.int .u8 4), .lit (.int .u8 8), .lit (.int .u8 31), .lit (.int .u8 27), .lit (.int .u8 13), .lit (.int .u8 23), .lit (.int .u8 21), .lit (.int .u8 19), .lit (.int .u8 16), .lit (.int .u8 7), .lit (.int .u8 26), .lit (.int .u8 12), .lit (.int .u8 18), .lit (.int .u8 6), .lit (.int .u8 11), .lit (.int .u8 5), .lit (.int .u8 10), .lit (.int .u8 9)]
def laid_math_bits_deBruijn64tab {H : Type} : DataW H := .agg [.lit (.int .u8 0), .lit (.int .u8 1), .lit (.int .u8 56), .lit (.int .u8 2), .lit (.int .u8 57), .lit (.int .u8 49), .lit (.int .u8 28), .lit (.int .u8 3), .lit (.int .u8 61), .lit (.int .u8 58), .lit (.int .u8 42), .lit (.int .u8 50), .lit (.int .u8 38), .lit (.int .u8 29), .lit (.int .u8 17), .lit (.int .u8 4), .lit (.int .u8 62), .lit (.int .u8 47), .lit (.int .u8 59), .lit (.int .u8 36), .lit (.int .u8 45), .lit (.int .u8 43), .lit (.int .u8 51), .lit (.int .u8 22), .lit (.int .u8 53), .lit (.int .u8 39), .lit (.int .u8 33), .lit (.int .u8 30), .lit (.int .u8 24), .lit (.int .u8 18), .lit (.int .u8 12), .lit (.int .u8 5), .lit (.int .u8 63), .lit (.int .u8 55), .lit (.int .u8 48), .lit (.int .u8 27), .lit (.int .u8 60), .lit (.int .u8 41), .lit (.int .u8 37), .lit (.int .u8 16), .lit (.int .u8 46), .lit (.int .u8 35), .lit (.int .u8 44), .lit (.int .u8 21), .lit (.int .u8 52), .lit (.int .u8 32), .lit (.int .u8 23), .lit (.int .u8 11), .lit (.int .u8 54), .lit (.int .u8 26), .lit (.int .u8 40), .lit (.int .u8 15), .lit (.int .u8 34), .lit (.int .u8 20), .lit (.int .u8 31), .lit (.int .u8 10), .lit (.int .u8 25), .lit (.int .u8 14), .lit (.int .u8 19), .lit (.int .u8 9), .lit (.int .u8 13), .lit (.int .u8 8), .lit (.int .u8 7), .lit (.int .u8 6)]
def laid_internal_strconv_uint64pow10 {H : Type} : DataW H := .agg [.lit (.int .u64 1), .lit (.int .u64 10), .lit (.int .u64 100), .lit (.int .u64 1000), .lit (.int .u64 10000), .lit (.int .u64 100000), .lit (.int .u64 1000000), .lit (.int .u64 10000000), .lit (.int .u64 100000000), .lit (.int .u64 1000000000), .lit (.int .u64 10000000000), .lit (.int .u64 100000000000), .lit (.int .u64 1000000000000), .lit (.int .u64 10000000000000), .lit (.int .u64 100000000000000), .lit (.int .u64 1000000000000000), .lit (.int .u64 10000000000000000), .lit (.int .u64 100000000000000000), .lit (.int .u64 1000000000000000000), .lit (.int .u64 10000000000000000000)]
def laid_strconv_ErrRange {H : Type} : DataW H := .iface "*errors.errorString" (.ptr (.agg [.lit (.string [118, 97, 108, 117, 101, 32, 111, 117, 116, 32, 111, 102, 32, 114, 97, 110, 103, 101])]))
def laid_strconv_ErrSyntax {H : Type} : DataW H := .iface "*errors.errorString" (.ptr (.agg [.lit (.string [105, 110, 118, 97, 108, 105, 100, 32, 115, 121, 110, 116, 97, 120])]))

/-- 'laws.FnExactValidHouse': WHATEVER THE INPUT: true; the input reads as it did. -/
def fnExactValidHouseSpec : ChangeSpec := { name := "fnExactValidHouse", vars := ["loop.example/g01042/impl.directions"], fn := fun _ => fun
  | [d, g1] => { results := [.lit (.bool true)], args := [d], vars := [g1] }
  | _ => none }
def fnExactValidHouseRow : OpenClaim := { program := "ytikjielgnlgnjaadoor", sum := "af0eb5db9557d17334f9b3eaee546bfff5050c4c37ce6b2dde2721b0ebfb2422", func := "loop.example/g01042/laws.FnExactValidHouse", spec := "fnExactValidHouse", inPlace := ["internal/bytealg.IndexByteString", "internal/bytealg.IndexString", "internal/bytealg.CountString"], unfollowed := true, recurses := true, named := ["unicode/utf8.first", "unicode/utf8.acceptRanges", "internal/bytealg.MaxLen", "loop.example/g01042/impl.directions"], apart := false, laid := [("unicode/utf8.acceptRanges", laid_unicode_utf8_acceptRanges), ("loop.example/g01042/impl.directions", laid_loop_example_g01042_impl_directions), ("unicode/utf8.first", laid_unicode_utf8_first)] }
def FnExactValidHouseSaid : Prop := fnExactValidHouseRow.holds Tryd.pinned (OpenSpec.ofChange fnExactValidHouseSpec)

/-- ITS FALSE NEIGHBOUR: 'it returns false'. Refute it at one input. -/
def fnExactValidHouseWrong : ChangeSpec := { name := "fnExactValidHouse", vars := ["loop.example/g01042/impl.directions"], fn := fun _ => fun
  | [d, g1] => { results := [.lit (.bool false)], args := [d], vars := [g1] }
  | _ => none }
def FnExactValidHouseWrongFalsely : Prop := fnExactValidHouseRow.holds Tryd.pinned (OpenSpec.ofChange fnExactValidHouseWrong)

/-- 'laws.FnExactRoundHouse': WHATEVER THE INPUT: true; the input reads as it did. -/
def fnExactRoundHouseSpec : ChangeSpec := { name := "fnExactRoundHouse", vars := ["loop.example/g01042/impl.directions"], fn := fun _ => fun
  | [d, g1] => { results := [.lit (.bool true)], args := [d], vars := [g1] }
  | _ => none }
def fnExactRoundHouseRow : OpenClaim := { program := "ytikjielgnlgnjaadoor", sum := "af0eb5db9557d17334f9b3eaee546bfff5050c4c37ce6b2dde2721b0ebfb2422", func := "loop.example/g01042/laws.FnExactRoundHouse", spec := "fnExactRoundHouse", inPlace := ["internal/bytealg.IndexByteString", "internal/bytealg.IndexString", "internal/bytealg.CountString"], unfollowed := true, recurses := true, named := ["unicode/utf8.first", "unicode/utf8.acceptRanges", "internal/bytealg.MaxLen", "loop.example/g01042/impl.directions"], apart := false, laid := [("unicode/utf8.acceptRanges", laid_unicode_utf8_acceptRanges), ("loop.example/g01042/impl.directions", laid_loop_example_g01042_impl_directions), ("unicode/utf8.first", laid_unicode_utf8_first)] }
def FnExactRoundHouseSaid : Prop := fnExactRoundHouseRow.holds Tryd.pinned (OpenSpec.ofChange fnExactRoundHouseSpec)

/-- ITS FALSE NEIGHBOUR: 'it returns false'. Refute it at one input. -/
def fnExactRoundHouseWrong : ChangeSpec := { name := "fnExactRoundHouse", vars := ["loop.example/g01042/impl.directions"], fn := fun _ => fun
  | [d, g1] => { results := [.lit (.bool false)], args := [d], vars := [g1] }
  | _ => none }
def FnExactRoundHouseWrongFalsely : Prop := fnExactRoundHouseRow.holds Tryd.pinned (OpenSpec.ofChange fnExactRoundHouseWrong)

/-- 'laws.FnExactRunsThrough': WHATEVER THE INPUT: true; the input reads as it did. -/
def fnExactRunsThroughSpec : ChangeSpec := { name := "fnExactRunsThrough", vars := ["loop.example/g01042/impl.directions"], fn := fun _ => fun
  | [d1, d2, d3, g1] => { results := [.lit (.bool true)], args := [d1, d2, d3], vars := [g1] }
  | _ => none }
def fnExactRunsThroughRow : OpenClaim := { program := "ytikjielgnlgnjaadoor", sum := "af0eb5db9557d17334f9b3eaee546bfff5050c4c37ce6b2dde2721b0ebfb2422", func := "loop.example/g01042/laws.FnExactRunsThrough", spec := "fnExactRunsThrough", inPlace := ["internal/bytealg.IndexByteString", "internal/bytealg.IndexString", "internal/bytealg.CountString"], unfollowed := true, recurses := true, named := ["unicode/utf8.first", "unicode/utf8.acceptRanges", "internal/bytealg.MaxLen", "loop.example/g01042/impl.directions"], apart := false, laid := [("unicode/utf8.acceptRanges", laid_unicode_utf8_acceptRanges), ("loop.example/g01042/impl.directions", laid_loop_example_g01042_impl_directions), ("unicode/utf8.first", laid_unicode_utf8_first)] }
def FnExactRunsThroughSaid : Prop := fnExactRunsThroughRow.holds Tryd.pinned (OpenSpec.ofChange fnExactRunsThroughSpec)

/-- ITS FALSE NEIGHBOUR: 'it returns false'. Refute it at one input. -/
def fnExactRunsThroughWrong : ChangeSpec := { name := "fnExactRunsThrough", vars := ["loop.example/g01042/impl.directions"], fn := fun _ => fun
  | [d1, d2, d3, g1] => { results := [.lit (.bool false)], args := [d1, d2, d3], vars := [g1] }
  | _ => none }
def FnExactRunsThroughWrongFalsely : Prop := fnExactRunsThroughRow.holds Tryd.pinned (OpenSpec.ofChange fnExactRunsThroughWrong)

/-- 'laws.FnExactSideInCourse': WHATEVER THE INPUT: true; the input reads as it did. -/
def fnExactSideInCourseSpec : ChangeSpec := { name := "fnExactSideInCourse", vars := ["loop.example/g01042/impl.directions"], fn := fun _ => fun
  | [d1, d2, d3, g1] => { results := [.lit (.bool true)], args := [d1, d2, d3], vars := [g1] }
  | _ => none }
def fnExactSideInCourseRow : OpenClaim := { program := "ytikjielgnlgnjaadoor", sum := "af0eb5db9557d17334f9b3eaee546bfff5050c4c37ce6b2dde2721b0ebfb2422", func := "loop.example/g01042/laws.FnExactSideInCourse", spec := "fnExactSideInCourse", inPlace := ["internal/bytealg.IndexByteString", "internal/bytealg.IndexString", "internal/bytealg.CountString"], unfollowed := true, recurses := true, named := ["unicode/utf8.first", "unicode/utf8.acceptRanges", "internal/bytealg.MaxLen", "loop.example/g01042/impl.directions"], apart := false, laid := [("unicode/utf8.acceptRanges", laid_unicode_utf8_acceptRanges), ("loop.example/g01042/impl.directions", laid_loop_example_g01042_impl_directions), ("unicode/utf8.first", laid_unicode_utf8_first)] }
def FnExactSideInCourseSaid : Prop := fnExactSideInCourseRow.holds Tryd.pinned (OpenSpec.ofChange fnExactSideInCourseSpec)

/-- ITS FALSE NEIGHBOUR: 'it returns false'. Refute it at one input. -/
def fnExactSideInCourseWrong : ChangeSpec := { name := "fnExactSideInCourse", vars := ["loop.example/g01042/impl.directions"], fn := fun _ => fun
  | [d1, d2, d3, g1] => { results := [.lit (.bool false)], args := [d1, d2, d3], vars := [g1] }
  | _ => none }
def FnExactSideInCourseWrongFalsely : Prop := fnExactSideInCourseRow.holds Tryd.pinned (OpenSpec.ofChange fnExactSideInCourseWrong)

/-- 'laws.FnExactCourseAround': WHATEVER THE INPUT: true; the input reads as it did. -/
def fnExactCourseAroundSpec : ChangeSpec := { name := "fnExactCourseAround", vars := ["loop.example/g01042/impl.directions"], fn := fun _ => fun
  | [d1, d2, g1] => { results := [.lit (.bool true)], args := [d1, d2], vars := [g1] }
  | _ => none }
def fnExactCourseAroundRow : OpenClaim := { program := "ytikjielgnlgnjaadoor", sum := "af0eb5db9557d17334f9b3eaee546bfff5050c4c37ce6b2dde2721b0ebfb2422", func := "loop.example/g01042/laws.FnExactCourseAround", spec := "fnExactCourseAround", inPlace := ["internal/bytealg.IndexByteString", "internal/bytealg.IndexString", "internal/bytealg.CountString"], unfollowed := true, recurses := true, named := ["unicode/utf8.first", "unicode/utf8.acceptRanges", "internal/bytealg.MaxLen", "loop.example/g01042/impl.directions"], apart := false, laid := [("unicode/utf8.acceptRanges", laid_unicode_utf8_acceptRanges), ("loop.example/g01042/impl.directions", laid_loop_example_g01042_impl_directions), ("unicode/utf8.first", laid_unicode_utf8_first)] }
def FnExactCourseAroundSaid : Prop := fnExactCourseAroundRow.holds Tryd.pinned (OpenSpec.ofChange fnExactCourseAroundSpec)

/-- ITS FALSE NEIGHBOUR: 'it returns false'. Refute it at one input. -/
def fnExactCourseAroundWrong : ChangeSpec := { name := "fnExactCourseAround", vars := ["loop.example/g01042/impl.directions"], fn := fun _ => fun
  | [d1, d2, g1] => { results := [.lit (.bool false)], args := [d1, d2], vars := [g1] }
  | _ => none }
def FnExactCourseAroundWrongFalsely : Prop := fnExactCourseAroundRow.holds Tryd.pinned (OpenSpec.ofChange fnExactCourseAroundWrong)

/-- 'laws.FnExactCornerPoints': WHATEVER THE INPUT: true; the input reads as it did. -/
def fnExactCornerPointsSpec : ChangeSpec := { name := "fnExactCornerPoints", vars := ["loop.example/g01042/impl.directions"], fn := fun _ => fun
  | [d, g1] => { results := [.lit (.bool true)], args := [d], vars := [g1] }
  | _ => none }
def fnExactCornerPointsRow : OpenClaim := { program := "ytikjielgnlgnjaadoor", sum := "af0eb5db9557d17334f9b3eaee546bfff5050c4c37ce6b2dde2721b0ebfb2422", func := "loop.example/g01042/laws.FnExactCornerPoints", spec := "fnExactCornerPoints", inPlace := ["internal/bytealg.IndexByteString", "internal/bytealg.IndexString", "internal/bytealg.CountString"], unfollowed := true, recurses := true, named := ["unicode/utf8.first", "unicode/utf8.acceptRanges", "internal/bytealg.MaxLen", "loop.example/g01042/impl.directions"], apart := false, laid := [("unicode/utf8.acceptRanges", laid_unicode_utf8_acceptRanges), ("loop.example/g01042/impl.directions", laid_loop_example_g01042_impl_directions), ("unicode/utf8.first", laid_unicode_utf8_first)] }
def FnExactCornerPointsSaid : Prop := fnExactCornerPointsRow.holds Tryd.pinned (OpenSpec.ofChange fnExactCornerPointsSpec)

/-- ITS FALSE NEIGHBOUR: 'it returns false'. Refute it at one input. -/
def fnExactCornerPointsWrong : ChangeSpec := { name := "fnExactCornerPoints", vars := ["loop.example/g01042/impl.directions"], fn := fun _ => fun
  | [d, g1] => { results := [.lit (.bool false)], args := [d], vars := [g1] }
  | _ => none }
def FnExactCornerPointsWrongFalsely : Prop := fnExactCornerPointsRow.holds Tryd.pinned (OpenSpec.ofChange fnExactCornerPointsWrong)

/-- 'laws.FnExactQuoinLap': WHATEVER THE INPUT: true; the input reads as it did. -/
def fnExactQuoinLapSpec : ChangeSpec := { name := "fnExactQuoinLap", vars := ["loop.example/g01042/impl.directions"], fn := fun _ => fun
  | [d1, d2, d3, g1] => { results := [.lit (.bool true)], args := [d1, d2, d3], vars := [g1] }
  | _ => none }
def fnExactQuoinLapRow : OpenClaim := { program := "ytikjielgnlgnjaadoor", sum := "af0eb5db9557d17334f9b3eaee546bfff5050c4c37ce6b2dde2721b0ebfb2422", func := "loop.example/g01042/laws.FnExactQuoinLap", spec := "fnExactQuoinLap", inPlace := ["internal/bytealg.IndexByteString", "internal/bytealg.IndexString", "internal/bytealg.CountString"], unfollowed := true, recurses := true, named := ["unicode/utf8.first", "unicode/utf8.acceptRanges", "internal/bytealg.MaxLen", "loop.example/g01042/impl.directions"], apart := false, laid := [("unicode/utf8.acceptRanges", laid_unicode_utf8_acceptRanges), ("loop.example/g01042/impl.directions", laid_loop_example_g01042_impl_directions), ("unicode/utf8.first", laid_unicode_utf8_first)] }
def FnExactQuoinLapSaid : Prop := fnExactQuoinLapRow.holds Tryd.pinned (OpenSpec.ofChange fnExactQuoinLapSpec)

/-- ITS FALSE NEIGHBOUR: 'it returns false'. Refute it at one input. -/
def fnExactQuoinLapWrong : ChangeSpec := { name := "fnExactQuoinLap", vars := ["loop.example/g01042/impl.directions"], fn := fun _ => fun
  | [d1, d2, d3, g1] => { results := [.lit (.bool false)], args := [d1, d2, d3], vars := [g1] }
  | _ => none }
def FnExactQuoinLapWrongFalsely : Prop := fnExactQuoinLapRow.holds Tryd.pinned (OpenSpec.ofChange fnExactQuoinLapWrong)

/-- 'laws.FnExactAreaInside': WHATEVER THE INPUT: true; the input reads as it did. -/
def fnExactAreaInsideSpec : ChangeSpec := { name := "fnExactAreaInside", vars := ["loop.example/g01042/impl.directions"], fn := fun _ => fun
  | [d, g1] => { results := [.lit (.bool true)], args := [d], vars := [g1] }
  | _ => none }
def fnExactAreaInsideRow : OpenClaim := { program := "ytikjielgnlgnjaadoor", sum := "af0eb5db9557d17334f9b3eaee546bfff5050c4c37ce6b2dde2721b0ebfb2422", func := "loop.example/g01042/laws.FnExactAreaInside", spec := "fnExactAreaInside", inPlace := ["internal/bytealg.IndexByteString", "internal/bytealg.IndexString", "internal/bytealg.CountString"], unfollowed := true, recurses := true, named := ["unicode/utf8.first", "unicode/utf8.acceptRanges", "internal/bytealg.MaxLen", "loop.example/g01042/impl.directions"], apart := false, laid := [("unicode/utf8.acceptRanges", laid_unicode_utf8_acceptRanges), ("loop.example/g01042/impl.directions", laid_loop_example_g01042_impl_directions), ("unicode/utf8.first", laid_unicode_utf8_first)] }
def FnExactAreaInsideSaid : Prop := fnExactAreaInsideRow.holds Tryd.pinned (OpenSpec.ofChange fnExactAreaInsideSpec)

/-- ITS FALSE NEIGHBOUR: 'it returns false'. Refute it at one input. -/
def fnExactAreaInsideWrong : ChangeSpec := { name := "fnExactAreaInside", vars := ["loop.example/g01042/impl.directions"], fn := fun _ => fun
  | [d, g1] => { results := [.lit (.bool false)], args := [d], vars := [g1] }
  | _ => none }
def FnExactAreaInsideWrongFalsely : Prop := fnExactAreaInsideRow.holds Tryd.pinned (OpenSpec.ofChange fnExactAreaInsideWrong)

/-- 'laws.FnExactTurnHouse': WHATEVER THE INPUT: true; the input reads as it did. -/
def fnExactTurnHouseSpec : ChangeSpec := { name := "fnExactTurnHouse", vars := ["loop.example/g01042/impl.directions"], fn := fun _ => fun
  | [d1, d2, g1] => { results := [.lit (.bool true)], args := [d1, d2], vars := [g1] }
  | _ => none }
def fnExactTurnHouseRow : OpenClaim := { program := "ytikjielgnlgnjaadoor", sum := "af0eb5db9557d17334f9b3eaee546bfff5050c4c37ce6b2dde2721b0ebfb2422", func := "loop.example/g01042/laws.FnExactTurnHouse", spec := "fnExactTurnHouse", inPlace := ["internal/bytealg.IndexByteString", "internal/bytealg.IndexString", "internal/bytealg.CountString"], unfollowed := true, recurses := true, named := ["unicode/utf8.first", "unicode/utf8.acceptRanges", "internal/bytealg.MaxLen", "loop.example/g01042/impl.directions"], apart := false, laid := [("unicode/utf8.acceptRanges", laid_unicode_utf8_acceptRanges), ("loop.example/g01042/impl.directions", laid_loop_example_g01042_impl_directions), ("unicode/utf8.first", laid_unicode_utf8_first)] }
def FnExactTurnHouseSaid : Prop := fnExactTurnHouseRow.holds Tryd.pinned (OpenSpec.ofChange fnExactTurnHouseSpec)

/-- ITS FALSE NEIGHBOUR: 'it returns false'. Refute it at one input. -/
def fnExactTurnHouseWrong : ChangeSpec := { name := "fnExactTurnHouse", vars := ["loop.example/g01042/impl.directions"], fn := fun _ => fun
  | [d1, d2, g1] => { results := [.lit (.bool false)], args := [d1, d2], vars := [g1] }
  | _ => none }
def FnExactTurnHouseWrongFalsely : Prop := fnExactTurnHouseRow.holds Tryd.pinned (OpenSpec.ofChange fnExactTurnHouseWrong)

/-- 'laws.FnExactHouseText': WHATEVER THE INPUT: true; the input reads as it did. -/
def fnExactHouseTextSpec : ChangeSpec := { name := "fnExactHouseText", vars := ["loop.example/g01042/impl.directions"], fn := fun _ => fun
  | [d, g1] => { results := [.lit (.bool true)], args := [d], vars := [g1] }
  | _ => none }
def fnExactHouseTextRow : OpenClaim := { program := "ytikjielgnlgnjaadoor", sum := "af0eb5db9557d17334f9b3eaee546bfff5050c4c37ce6b2dde2721b0ebfb2422", func := "loop.example/g01042/laws.FnExactHouseText", spec := "fnExactHouseText", inPlace := ["internal/bytealg.IndexByteString", "internal/bytealg.IndexString", "internal/bytealg.CountString", "internal/abi.NoEscape", "internal/bytealg.MakeNoZero"], unfollowed := true, recurses := true, named := ["unicode/utf8.first", "unicode/utf8.acceptRanges", "internal/bytealg.MaxLen", "loop.example/g01042/impl.directions", "internal/strconv.uint64pow10", "math/bits.deBruijn32tab", "math/bits.deBruijn64tab"], apart := false, laid := [("math/bits.deBruijn32tab", laid_math_bits_deBruijn32tab), ("math/bits.deBruijn64tab", laid_math_bits_deBruijn64tab), ("internal/strconv.uint64pow10", laid_internal_strconv_uint64pow10), ("unicode/utf8.acceptRanges", laid_unicode_utf8_acceptRanges), ("loop.example/g01042/impl.directions", laid_loop_example_g01042_impl_directions), ("unicode/utf8.first", laid_unicode_utf8_first)] }
def FnExactHouseTextSaid : Prop := fnExactHouseTextRow.holds Tryd.pinned (OpenSpec.ofChange fnExactHouseTextSpec)

/-- ITS FALSE NEIGHBOUR: 'it returns false'. Refute it at one input. -/
def fnExactHouseTextWrong : ChangeSpec := { name := "fnExactHouseText", vars := ["loop.example/g01042/impl.directions"], fn := fun _ => fun
  | [d, g1] => { results := [.lit (.bool false)], args := [d], vars := [g1] }
  | _ => none }
def FnExactHouseTextWrongFalsely : Prop := fnExactHouseTextRow.holds Tryd.pinned (OpenSpec.ofChange fnExactHouseTextWrong)

/-- 'laws.FnExactReadHouse': WHATEVER THE INPUT: true; the input reads as it did. -/
def fnExactReadHouseSpec : ChangeSpec := { name := "fnExactReadHouse", vars := ["loop.example/g01042/impl.directions"], fn := fun _ => fun
  | [d, g1] => { results := [.lit (.bool true)], args := [d], vars := [g1] }
  | _ => none }
def fnExactReadHouseRow : OpenClaim := { program := "ytikjielgnlgnjaadoor", sum := "af0eb5db9557d17334f9b3eaee546bfff5050c4c37ce6b2dde2721b0ebfb2422", func := "loop.example/g01042/laws.FnExactReadHouse", spec := "fnExactReadHouse", inPlace := ["internal/bytealg.CountString", "internal/bytealg.IndexByteString", "internal/bytealg.IndexString"], unfollowed := true, recurses := true, named := ["unicode/utf8.first", "unicode/utf8.acceptRanges", "internal/bytealg.MaxLen", "strconv.ErrSyntax", "strconv.ErrRange", "internal/strconv.uint64pow10", "math/bits.deBruijn32tab", "math/bits.deBruijn64tab", "loop.example/g01042/impl.directions"], apart := false, laid := [("math/bits.deBruijn32tab", laid_math_bits_deBruijn32tab), ("math/bits.deBruijn64tab", laid_math_bits_deBruijn64tab), ("internal/strconv.uint64pow10", laid_internal_strconv_uint64pow10), ("unicode/utf8.acceptRanges", laid_unicode_utf8_acceptRanges), ("strconv.ErrRange", laid_strconv_ErrRange), ("strconv.ErrSyntax", laid_strconv_ErrSyntax), ("loop.example/g01042/impl.directions", laid_loop_example_g01042_impl_directions), ("unicode/utf8.first", laid_unicode_utf8_first)] }
def FnExactReadHouseSaid : Prop := fnExactReadHouseRow.holds Tryd.pinned (OpenSpec.ofChange fnExactReadHouseSpec)

/-- ITS FALSE NEIGHBOUR: 'it returns false'. Refute it at one input. -/
def fnExactReadHouseWrong : ChangeSpec := { name := "fnExactReadHouse", vars := ["loop.example/g01042/impl.directions"], fn := fun _ => fun
  | [d, g1] => { results := [.lit (.bool false)], args := [d], vars := [g1] }
  | _ => none }
def FnExactReadHouseWrongFalsely : Prop := fnExactReadHouseRow.holds Tryd.pinned (OpenSpec.ofChange fnExactReadHouseWrong)

/-- 'laws.FnExactIsSimple': WHATEVER THE INPUT: true; the input reads as it did. -/
def fnExactIsSimpleSpec : ChangeSpec := { name := "fnExactIsSimple", vars := ["loop.example/g01042/impl.directions"], fn := fun _ => fun
  | [d, g1] => { results := [.lit (.bool true)], args := [d], vars := [g1] }
  | _ => none }
def fnExactIsSimpleRow : OpenClaim := { program := "ytikjielgnlgnjaadoor", sum := "af0eb5db9557d17334f9b3eaee546bfff5050c4c37ce6b2dde2721b0ebfb2422", func := "loop.example/g01042/laws.FnExactIsSimple", spec := "fnExactIsSimple", inPlace := ["internal/bytealg.IndexByteString", "internal/bytealg.IndexString", "internal/bytealg.CountString"], unfollowed := true, recurses := true, named := ["unicode/utf8.first", "unicode/utf8.acceptRanges", "internal/bytealg.MaxLen", "loop.example/g01042/impl.directions"], apart := false, laid := [("unicode/utf8.acceptRanges", laid_unicode_utf8_acceptRanges), ("loop.example/g01042/impl.directions", laid_loop_example_g01042_impl_directions), ("unicode/utf8.first", laid_unicode_utf8_first)] }
def FnExactIsSimpleSaid : Prop := fnExactIsSimpleRow.holds Tryd.pinned (OpenSpec.ofChange fnExactIsSimpleSpec)

/-- ITS FALSE NEIGHBOUR: 'it returns false'. Refute it at one input. -/
def fnExactIsSimpleWrong : ChangeSpec := { name := "fnExactIsSimple", vars := ["loop.example/g01042/impl.directions"], fn := fun _ => fun
  | [d, g1] => { results := [.lit (.bool false)], args := [d], vars := [g1] }
  | _ => none }
def FnExactIsSimpleWrongFalsely : Prop := fnExactIsSimpleRow.holds Tryd.pinned (OpenSpec.ofChange fnExactIsSimpleWrong)

/- THE SECOND FORM. 'bulk': how many values and letters a reading holds, each counted each time it is reached (what is shared counts as often as it is met; a slice's spare places count too). A statement '..UptoSaid' is the law's where the arguments, and the package variables that the reading takes, are together of bulk at most 1048576: NARROWER than '..Said'. Prove '..Said' where nothing that the law and all that it calls make is longer than what came in: it says more and counts as full. Else prove '..UptoSaid'. A law counts once. -/
mutual
def uptoBulk {H : Type} : DataW H → Nat
  | .lit (.string bytes) => bytes.length + 1
  | .lit _ => 1
  | .nil => 1
  | .ptr d => uptoBulk d + 1
  | .slice elems spare => uptoBulkAll elems + uptoBulkAll spare + 1
  | .agg parts => uptoBulkAll parts + 1
  | .iface _ d => uptoBulk d + 1
  | .map entries => uptoBulkEntries entries + 1
  | .held _ => 1
def uptoBulkAll {H : Type} : List (DataW H) → Nat
  | [] => 0
  | d :: r => uptoBulk d + uptoBulkAll r
def uptoBulkEntries {H : Type} : List (Lit × DataW H) → Nat
  | [] => 0
  | x :: r => uptoBulkEntry x + uptoBulkEntries r
def uptoBulkEntry {H : Type} : Lit × DataW H → Nat
  | (.string bytes, d) => bytes.length + uptoBulk d + 1
  | (_, d) => uptoBulk d + 1
 end
def uptoSmall : (H : Type) → List (DataW H) → Bool := fun _ ds => decide (uptoBulkAll ds ≤ 1048576)
def OpenSpec.upto (s : _root_.Go.ChangeSpec) : _root_.Go.OpenSpec := { _root_.Go.OpenSpec.ofChange s with cond := some uptoSmall }

/-- 'laws.FnExactValidHouse', WHERE WHAT IT READS IS OF BULK AT MOST 1048576: true; the input reads as it did. -/
def fnExactValidHouseUptoRow : OpenClaim := { program := "ytikjielgnlgnjaadoor", sum := "af0eb5db9557d17334f9b3eaee546bfff5050c4c37ce6b2dde2721b0ebfb2422", func := "loop.example/g01042/laws.FnExactValidHouse", spec := "fnExactValidHouse", inPlace := ["internal/bytealg.IndexByteString", "internal/bytealg.IndexString", "internal/bytealg.CountString"], unfollowed := true, recurses := true, named := ["unicode/utf8.first", "unicode/utf8.acceptRanges", "internal/bytealg.MaxLen", "loop.example/g01042/impl.directions"], apart := false, laid := [("unicode/utf8.acceptRanges", laid_unicode_utf8_acceptRanges), ("loop.example/g01042/impl.directions", laid_loop_example_g01042_impl_directions), ("unicode/utf8.first", laid_unicode_utf8_first)], narrowed := true }
def FnExactValidHouseUptoSaid : Prop := fnExactValidHouseUptoRow.holds Tryd.pinned (OpenSpec.upto fnExactValidHouseSpec)

/-- 'laws.FnExactRoundHouse', WHERE WHAT IT READS IS OF BULK AT MOST 1048576: true; the input reads as it did. -/
def fnExactRoundHouseUptoRow : OpenClaim := { program := "ytikjielgnlgnjaadoor", sum := "af0eb5db9557d17334f9b3eaee546bfff5050c4c37ce6b2dde2721b0ebfb2422", func := "loop.example/g01042/laws.FnExactRoundHouse", spec := "fnExactRoundHouse", inPlace := ["internal/bytealg.IndexByteString", "internal/bytealg.IndexString", "internal/bytealg.CountString"], unfollowed := true, recurses := true, named := ["unicode/utf8.first", "unicode/utf8.acceptRanges", "internal/bytealg.MaxLen", "loop.example/g01042/impl.directions"], apart := false, laid := [("unicode/utf8.acceptRanges", laid_unicode_utf8_acceptRanges), ("loop.example/g01042/impl.directions", laid_loop_example_g01042_impl_directions), ("unicode/utf8.first", laid_unicode_utf8_first)], narrowed := true }
def FnExactRoundHouseUptoSaid : Prop := fnExactRoundHouseUptoRow.holds Tryd.pinned (OpenSpec.upto fnExactRoundHouseSpec)

/-- 'laws.FnExactRunsThrough', WHERE WHAT IT READS IS OF BULK AT MOST 1048576: true; the input reads as it did. -/
def fnExactRunsThroughUptoRow : OpenClaim := { program := "ytikjielgnlgnjaadoor", sum := "af0eb5db9557d17334f9b3eaee546bfff5050c4c37ce6b2dde2721b0ebfb2422", func := "loop.example/g01042/laws.FnExactRunsThrough", spec := "fnExactRunsThrough", inPlace := ["internal/bytealg.IndexByteString", "internal/bytealg.IndexString", "internal/bytealg.CountString"], unfollowed := true, recurses := true, named := ["unicode/utf8.first", "unicode/utf8.acceptRanges", "internal/bytealg.MaxLen", "loop.example/g01042/impl.directions"], apart := false, laid := [("unicode/utf8.acceptRanges", laid_unicode_utf8_acceptRanges), ("loop.example/g01042/impl.directions", laid_loop_example_g01042_impl_directions), ("unicode/utf8.first", laid_unicode_utf8_first)], narrowed := true }
def FnExactRunsThroughUptoSaid : Prop := fnExactRunsThroughUptoRow.holds Tryd.pinned (OpenSpec.upto fnExactRunsThroughSpec)

/-- 'laws.FnExactSideInCourse', WHERE WHAT IT READS IS OF BULK AT MOST 1048576: true; the input reads as it did. -/
def fnExactSideInCourseUptoRow : OpenClaim := { program := "ytikjielgnlgnjaadoor", sum := "af0eb5db9557d17334f9b3eaee546bfff5050c4c37ce6b2dde2721b0ebfb2422", func := "loop.example/g01042/laws.FnExactSideInCourse", spec := "fnExactSideInCourse", inPlace := ["internal/bytealg.IndexByteString", "internal/bytealg.IndexString", "internal/bytealg.CountString"], unfollowed := true, recurses := true, named := ["unicode/utf8.first", "unicode/utf8.acceptRanges", "internal/bytealg.MaxLen", "loop.example/g01042/impl.directions"], apart := false, laid := [("unicode/utf8.acceptRanges", laid_unicode_utf8_acceptRanges), ("loop.example/g01042/impl.directions", laid_loop_example_g01042_impl_directions), ("unicode/utf8.first", laid_unicode_utf8_first)], narrowed := true }
def FnExactSideInCourseUptoSaid : Prop := fnExactSideInCourseUptoRow.holds Tryd.pinned (OpenSpec.upto fnExactSideInCourseSpec)

/-- 'laws.FnExactCourseAround', WHERE WHAT IT READS IS OF BULK AT MOST 1048576: true; the input reads as it did. -/
def fnExactCourseAroundUptoRow : OpenClaim := { program := "ytikjielgnlgnjaadoor", sum := "af0eb5db9557d17334f9b3eaee546bfff5050c4c37ce6b2dde2721b0ebfb2422", func := "loop.example/g01042/laws.FnExactCourseAround", spec := "fnExactCourseAround", inPlace := ["internal/bytealg.IndexByteString", "internal/bytealg.IndexString", "internal/bytealg.CountString"], unfollowed := true, recurses := true, named := ["unicode/utf8.first", "unicode/utf8.acceptRanges", "internal/bytealg.MaxLen", "loop.example/g01042/impl.directions"], apart := false, laid := [("unicode/utf8.acceptRanges", laid_unicode_utf8_acceptRanges), ("loop.example/g01042/impl.directions", laid_loop_example_g01042_impl_directions), ("unicode/utf8.first", laid_unicode_utf8_first)], narrowed := true }
def FnExactCourseAroundUptoSaid : Prop := fnExactCourseAroundUptoRow.holds Tryd.pinned (OpenSpec.upto fnExactCourseAroundSpec)

/-- 'laws.FnExactCornerPoints', WHERE WHAT IT READS IS OF BULK AT MOST 1048576: true; the input reads as it did. -/
def fnExactCornerPointsUptoRow : OpenClaim := { program := "ytikjielgnlgnjaadoor", sum := "af0eb5db9557d17334f9b3eaee546bfff5050c4c37ce6b2dde2721b0ebfb2422", func := "loop.example/g01042/laws.FnExactCornerPoints", spec := "fnExactCornerPoints", inPlace := ["internal/bytealg.IndexByteString", "internal/bytealg.IndexString", "internal/bytealg.CountString"], unfollowed := true, recurses := true, named := ["unicode/utf8.first", "unicode/utf8.acceptRanges", "internal/bytealg.MaxLen", "loop.example/g01042/impl.directions"], apart := false, laid := [("unicode/utf8.acceptRanges", laid_unicode_utf8_acceptRanges), ("loop.example/g01042/impl.directions", laid_loop_example_g01042_impl_directions), ("unicode/utf8.first", laid_unicode_utf8_first)], narrowed := true }
def FnExactCornerPointsUptoSaid : Prop := fnExactCornerPointsUptoRow.holds Tryd.pinned (OpenSpec.upto fnExactCornerPointsSpec)

/-- 'laws.FnExactQuoinLap', WHERE WHAT IT READS IS OF BULK AT MOST 1048576: true; the input reads as it did. -/
def fnExactQuoinLapUptoRow : OpenClaim := { program := "ytikjielgnlgnjaadoor", sum := "af0eb5db9557d17334f9b3eaee546bfff5050c4c37ce6b2dde2721b0ebfb2422", func := "loop.example/g01042/laws.FnExactQuoinLap", spec := "fnExactQuoinLap", inPlace := ["internal/bytealg.IndexByteString", "internal/bytealg.IndexString", "internal/bytealg.CountString"], unfollowed := true, recurses := true, named := ["unicode/utf8.first", "unicode/utf8.acceptRanges", "internal/bytealg.MaxLen", "loop.example/g01042/impl.directions"], apart := false, laid := [("unicode/utf8.acceptRanges", laid_unicode_utf8_acceptRanges), ("loop.example/g01042/impl.directions", laid_loop_example_g01042_impl_directions), ("unicode/utf8.first", laid_unicode_utf8_first)], narrowed := true }
def FnExactQuoinLapUptoSaid : Prop := fnExactQuoinLapUptoRow.holds Tryd.pinned (OpenSpec.upto fnExactQuoinLapSpec)

/-- 'laws.FnExactAreaInside', WHERE WHAT IT READS IS OF BULK AT MOST 1048576: true; the input reads as it did. -/
def fnExactAreaInsideUptoRow : OpenClaim := { program := "ytikjielgnlgnjaadoor", sum := "af0eb5db9557d17334f9b3eaee546bfff5050c4c37ce6b2dde2721b0ebfb2422", func := "loop.example/g01042/laws.FnExactAreaInside", spec := "fnExactAreaInside", inPlace := ["internal/bytealg.IndexByteString", "internal/bytealg.IndexString", "internal/bytealg.CountString"], unfollowed := true, recurses := true, named := ["unicode/utf8.first", "unicode/utf8.acceptRanges", "internal/bytealg.MaxLen", "loop.example/g01042/impl.directions"], apart := false, laid := [("unicode/utf8.acceptRanges", laid_unicode_utf8_acceptRanges), ("loop.example/g01042/impl.directions", laid_loop_example_g01042_impl_directions), ("unicode/utf8.first", laid_unicode_utf8_first)], narrowed := true }
def FnExactAreaInsideUptoSaid : Prop := fnExactAreaInsideUptoRow.holds Tryd.pinned (OpenSpec.upto fnExactAreaInsideSpec)

/-- 'laws.FnExactTurnHouse', WHERE WHAT IT READS IS OF BULK AT MOST 1048576: true; the input reads as it did. -/
def fnExactTurnHouseUptoRow : OpenClaim := { program := "ytikjielgnlgnjaadoor", sum := "af0eb5db9557d17334f9b3eaee546bfff5050c4c37ce6b2dde2721b0ebfb2422", func := "loop.example/g01042/laws.FnExactTurnHouse", spec := "fnExactTurnHouse", inPlace := ["internal/bytealg.IndexByteString", "internal/bytealg.IndexString", "internal/bytealg.CountString"], unfollowed := true, recurses := true, named := ["unicode/utf8.first", "unicode/utf8.acceptRanges", "internal/bytealg.MaxLen", "loop.example/g01042/impl.directions"], apart := false, laid := [("unicode/utf8.acceptRanges", laid_unicode_utf8_acceptRanges), ("loop.example/g01042/impl.directions", laid_loop_example_g01042_impl_directions), ("unicode/utf8.first", laid_unicode_utf8_first)], narrowed := true }
def FnExactTurnHouseUptoSaid : Prop := fnExactTurnHouseUptoRow.holds Tryd.pinned (OpenSpec.upto fnExactTurnHouseSpec)

/-- 'laws.FnExactHouseText', WHERE WHAT IT READS IS OF BULK AT MOST 1048576: true; the input reads as it did. -/
def fnExactHouseTextUptoRow : OpenClaim := { program := "ytikjielgnlgnjaadoor", sum := "af0eb5db9557d17334f9b3eaee546bfff5050c4c37ce6b2dde2721b0ebfb2422", func := "loop.example/g01042/laws.FnExactHouseText", spec := "fnExactHouseText", inPlace := ["internal/bytealg.IndexByteString", "internal/bytealg.IndexString", "internal/bytealg.CountString", "internal/abi.NoEscape", "internal/bytealg.MakeNoZero"], unfollowed := true, recurses := true, named := ["unicode/utf8.first", "unicode/utf8.acceptRanges", "internal/bytealg.MaxLen", "loop.example/g01042/impl.directions", "internal/strconv.uint64pow10", "math/bits.deBruijn32tab", "math/bits.deBruijn64tab"], apart := false, laid := [("math/bits.deBruijn32tab", laid_math_bits_deBruijn32tab), ("math/bits.deBruijn64tab", laid_math_bits_deBruijn64tab), ("internal/strconv.uint64pow10", laid_internal_strconv_uint64pow10), ("unicode/utf8.acceptRanges", laid_unicode_utf8_acceptRanges), ("loop.example/g01042/impl.directions", laid_loop_example_g01042_impl_directions), ("unicode/utf8.first", laid_unicode_utf8_first)], narrowed := true }
def FnExactHouseTextUptoSaid : Prop := fnExactHouseTextUptoRow.holds Tryd.pinned (OpenSpec.upto fnExactHouseTextSpec)

/-- 'laws.FnExactReadHouse', WHERE WHAT IT READS IS OF BULK AT MOST 1048576: true; the input reads as it did. -/
def fnExactReadHouseUptoRow : OpenClaim := { program := "ytikjielgnlgnjaadoor", sum := "af0eb5db9557d17334f9b3eaee546bfff5050c4c37ce6b2dde2721b0ebfb2422", func := "loop.example/g01042/laws.FnExactReadHouse", spec := "fnExactReadHouse", inPlace := ["internal/bytealg.CountString", "internal/bytealg.IndexByteString", "internal/bytealg.IndexString"], unfollowed := true, recurses := true, named := ["unicode/utf8.first", "unicode/utf8.acceptRanges", "internal/bytealg.MaxLen", "strconv.ErrSyntax", "strconv.ErrRange", "internal/strconv.uint64pow10", "math/bits.deBruijn32tab", "math/bits.deBruijn64tab", "loop.example/g01042/impl.directions"], apart := false, laid := [("math/bits.deBruijn32tab", laid_math_bits_deBruijn32tab), ("math/bits.deBruijn64tab", laid_math_bits_deBruijn64tab), ("internal/strconv.uint64pow10", laid_internal_strconv_uint64pow10), ("unicode/utf8.acceptRanges", laid_unicode_utf8_acceptRanges), ("strconv.ErrRange", laid_strconv_ErrRange), ("strconv.ErrSyntax", laid_strconv_ErrSyntax), ("loop.example/g01042/impl.directions", laid_loop_example_g01042_impl_directions), ("unicode/utf8.first", laid_unicode_utf8_first)], narrowed := true }
def FnExactReadHouseUptoSaid : Prop := fnExactReadHouseUptoRow.holds Tryd.pinned (OpenSpec.upto fnExactReadHouseSpec)

/-- 'laws.FnExactIsSimple', WHERE WHAT IT READS IS OF BULK AT MOST 1048576: true; the input reads as it did. -/
def fnExactIsSimpleUptoRow : OpenClaim := { program := "ytikjielgnlgnjaadoor", sum := "af0eb5db9557d17334f9b3eaee546bfff5050c4c37ce6b2dde2721b0ebfb2422", func := "loop.example/g01042/laws.FnExactIsSimple", spec := "fnExactIsSimple", inPlace := ["internal/bytealg.IndexByteString", "internal/bytealg.IndexString", "internal/bytealg.CountString"], unfollowed := true, recurses := true, named := ["unicode/utf8.first", "unicode/utf8.acceptRanges", "internal/bytealg.MaxLen", "loop.example/g01042/impl.directions"], apart := false, laid := [("unicode/utf8.acceptRanges", laid_unicode_utf8_acceptRanges), ("loop.example/g01042/impl.directions", laid_loop_example_g01042_impl_directions), ("unicode/utf8.first", laid_unicode_utf8_first)], narrowed := true }
def FnExactIsSimpleUptoSaid : Prop := fnExactIsSimpleUptoRow.holds Tryd.pinned (OpenSpec.upto fnExactIsSimpleSpec)

end Rows
end Go.Proofs.YtikjielgnlgnjaaDoor
