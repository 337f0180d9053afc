/-
  NARROWER THAN 'FOR EVERY INPUT', by the rows' own cells (each row's printed sentence says how): FnExactBondNamed: laid · FnExactCheckBond: laid · FnExactMouldText: laid · FnExactReadMould: laid · FnExactSizeFault: laid · FnExactFormatText: laid.
  DERIVED. THE GIVEN ROWS OF THIS SEAT. 6 by the template 'for every input the law returns true; each argument reads behind the call as it read before'; 0 by the template 'total and deterministic' (their statements: YtgffgcobgjngnaaDoorTotals.lean).
  GIVEN WITH THE SEED: the statements are not yours to turn. If you find one false, say at which input.
  Laid BY PROGRAM, IN A SANDBOX (cutbox-rows.mjs): the forced cells as the released guide's own fill.sh prints them over the translation 97ec47a8240cc5f5… (all of the seat's roots in one cut). By AI agents, Wed Nov 11 2026. No macro, syntax, notation, axiom, sorry.
-/
import Derived.Test.YtgffgcobgjngnaaDoorChecked
import GoSem.PinnedTables
import GoSem.Claim
import GoSem.ClaimJoined
import GoSem.ClaimMapViews
import Derived.JoinedTies
import Derived.KernelRfl
namespace Go.Proofs.YtgffgcobgjngnaaDoor
/- THE CELL 'sum', in the pinned program and in every row, IS THE sha256 OF THE DUMP (.gsa) THAT YtgffgcobgjngnaaDoorProg.lean LOADS. Nothing in Lean hashes anything: it is a label: what it is worth is what the hold of that sum in a sandbox is worth. -/
noncomputable def Tryd.pinned : Pinned := { name := "ytgffgcobgjngnaadoor", sum := "97ec47a8240cc5f5a0af0f71faa7af77c7a8e5242221fad5219de07543cca802", checked := Tryd.checked }
namespace Rows
def none {H : Type} : Left H := { results := [], args := [] }

/- WHAT THE LISTED PACKAGE-LEVEL VARIABLES READ AS WHEN THE CALL BEGINS. Each datum BY PROGRAM (the guide's laid-datum.mjs) off the statement by which the dump's own 'gosem.cut.vars' lays the variable. In a bare row this is a premise. The card (YtgffgcobgjngnaaDoorCards.lean) ties it to the program's text. -/
def laid_unicode_utf8_acceptRanges {H : Type} : DataW H := .agg [.agg [.lit (.int .u8 128), .lit (.int .u8 191)], .agg [.lit (.int .u8 160), .lit (.int .u8 191)], .agg [.lit (.int .u8 128), .lit (.int .u8 159)], .agg [.lit (.int .u8 144), .lit (.int .u8 191)], .agg [.lit (.int .u8 128), .lit (.int .u8 143)], .agg [.lit (.int .u8 0), .lit (.int .u8 0)], .agg [.lit (.int .u8 0), .lit (.int .u8 0)], .agg [.lit (.int .u8 0), .lit (.int .u8 0)], .agg [.lit (.int .u8 0), .lit (.int .u8 0)], .agg [.lit (.int .u8 0), .lit (.int .u8 0)], .agg [.lit (.int .u8 0), .lit (.int .u8 0)], .agg [.lit (.int .u8 0), .lit (.int .u8 0)], .agg [.lit (.int .u8 0), .lit (.int .u8 0)], .agg [.lit (.int .u8 0), .lit (.int .u8 0)], .agg [.lit (.int .u8 0), .lit (.int .u8 0)], .agg [.lit (.int .u8 0), .lit (.int .u8 0)]]
def laid_loop_example_g01042_impl_library {H : Type} : DataW H := .agg [.lit (.string [115, 116, 114, 101, 116, 99, 104, 101, 114, 32, 83, 32, 66, 43, 83]), .lit (.string [104, 101, 97, 100, 101, 114, 32, 72, 32, 67, 43, 72]), .lit (.string [101, 110, 103, 108, 105, 115, 104, 32, 83, 32, 72, 67, 43, 72]), .lit (.string [102, 108, 101, 109, 105, 115, 104, 32, 83, 72, 32, 72, 67, 43, 83, 72]), .lit (.string [103, 97, 114, 100, 101, 110, 32, 83, 32, 66, 43, 83, 32, 83, 32, 72, 67, 43, 72])]
/-- One of Go's own tables, pinned by name: the form's constant. -/
def laid_unicode_utf8_first : DataW Unit := Go.Pinned.utf8First
def laid_math_bits_deBruijn32tab {H : Type} : DataW H := .agg [.lit (.int .u8 0), .lit (.int .u8 1), .lit (.int .u8 28), .lit (.int .u8 2), .lit (.int .u8 29), .lit (.int .u8 14), .lit (.int .u8 24), .lit (.int .u8 3), .lit (.int .u8 30), .lit (.int .u8 22), .lit (.int .u8 20), .lit (.int .u8 15), .lit (.int .u8 25), .lit (.int .u8 17), .lit (.int .u8 4), .lit (.int .u8 8), .lit (.int .u8 31), .lit (.int .u8 27), .lit (.int .u8 13), .lit (.int .u8 23), .lit (.int .u8 21), .lit (.int .u8 19), .lit (.int .u8 16), .lit (.int .u8 7), .lit (.int .u8 26), .lit (.int .u8 12), .lit (.int .u8 18), .lit (.int .u8 6), .lit (.int .u8 11), .lit (.int .u8 5), .lit (.int .u8 10), .lit (.int .u8 9)]
def laid_math_bits_deBruijn64tab {H : Type} : DataW H := .agg [.lit (.int .u8 0), .lit (.int .u8 1), .lit (.int .u8 56), .lit (.int .u8 2), .lit (.int .u8 57), .lit (.int .u8 49), .lit (.int .u8 28), .lit (.int .u8 3), .lit (.int .u8 61), .lit (.int .u8 58), .lit (.int .u8 42), .lit (.int .u8 50), .lit (.int .u8 38), .lit (.int .u8 29), .lit (.int .u8 17), .lit (.int .u8 4), .lit (.int .u8 62), .lit (.int .u8 47), .lit (.int .u8 59), .lit (.int .u8 36), .lit (.int .u8 45), .lit (.int .u8 43), .lit (.int .u8 51), .lit (.int .u8 22), .lit (.int .u8 53), .lit (.int .u8 39), .lit (.int .u8 33), .lit (.int .u8 30), .lit (.int .u8 24), .lit (.int .u8 18), .lit (.int .u8 12), .lit (.int .u8 5), .lit (.int .u8 63), .lit (.int .u8 55), .lit (.int .u8 48), .lit (.int .u8 27), .lit (.int .u8 60), .lit (.int .u8 41), .lit (.int .u8 37), .lit (.int .u8 16), .lit (.int .u8 46), .lit (.int .u8 35), .lit (.int .u8 44), .lit (.int .u8 21), .lit (.int .u8 52), .lit (.int .u8 32), .lit (.int .u8 23), .lit (.int .u8 11), .lit (.int .u8 54), .lit (.int .u8 26), .lit (.int .u8 40), .lit (.int .u8 15), .lit (.int .u8 34), .lit (.int .u8 20), .lit (.int .u8 31), .lit (.int .u8 10), .lit (.int .u8 25), .lit (.int .u8 14), .lit (.int .u8 19), .lit (.int .u8 9), .lit (.int .u8 13), .lit (.int .u8 8), .lit (.int .u8 7), .lit (.int .u8 6)]
def laid_internal_strconv_uint64pow10 {H : Type} : DataW H := .agg [.lit (.int .u64 1), .lit (.int .u64 10), .lit (.int .u64 100), .lit (.int .u64 1000), .lit (.int .u64 10000), .lit (.int .u64 100000), .lit (.int .u64 1000000), .lit (.int .u64 10000000), .lit (.int .u64 100000000), .lit (.int .u64 1000000000), .lit (.int .u64 10000000000), .lit (.int .u64 100000000000), .lit (.int .u64 1000000000000), .lit (.int .u64 10000000000000), .lit (.int .u64 100000000000000), .lit (.int .u64 1000000000000000), .lit (.int .u64 10000000000000000), .lit (.int .u64 100000000000000000), .lit (.int .u64 1000000000000000000), .lit (.int .u64 10000000000000000000)]
def laid_strconv_ErrRange {H : Type} : DataW H := .iface "*errors.errorString" (.ptr (.agg [.lit (.string [118, 97, 108, 117, 101, 32, 111, 117, 116, 32, 111, 102, 32, 114, 97, 110, 103, 101])]))
def laid_strconv_ErrSyntax {H : Type} : DataW H := .iface "*errors.errorString" (.ptr (.agg [.lit (.string [105, 110, 118, 97, 108, 105, 100, 32, 115, 121, 110, 116, 97, 120])]))
def laid_loop_example_g01042_impl_sizeNames {H : Type} : DataW H := .agg [.lit (.string [108, 101, 110, 103, 116, 104]), .lit (.string [119, 105, 100, 116, 104]), .lit (.string [104, 101, 105, 103, 104, 116])]

/-- 'laws.FnExactBondNamed': WHATEVER THE INPUT: true; the input reads as it did. -/
def fnExactBondNamedSpec : ChangeSpec := { name := "fnExactBondNamed", vars := ["loop.example/g01042/impl.library"], fn := fun _ => fun
  | [d, g1] => { results := [.lit (.bool true)], args := [d], vars := [g1] }
  | _ => none }
def fnExactBondNamedRow : OpenClaim := { program := "ytgffgcobgjngnaadoor", sum := "97ec47a8240cc5f5a0af0f71faa7af77c7a8e5242221fad5219de07543cca802", func := "loop.example/g01042/laws.FnExactBondNamed", spec := "fnExactBondNamed", inPlace := ["internal/bytealg.CountString", "internal/bytealg.IndexByteString", "internal/bytealg.IndexString", "internal/reflectlite.TypeOf"], unfollowed := true, recurses := true, named := ["loop.example/g01042/impl.library", "unicode/utf8.first", "unicode/utf8.acceptRanges", "internal/bytealg.MaxLen"], apart := false, laid := [("unicode/utf8.acceptRanges", laid_unicode_utf8_acceptRanges), ("loop.example/g01042/impl.library", laid_loop_example_g01042_impl_library), ("unicode/utf8.first", laid_unicode_utf8_first)] }
def FnExactBondNamedSaid : Prop := fnExactBondNamedRow.holds Tryd.pinned (OpenSpec.ofChange fnExactBondNamedSpec)

/-- ITS FALSE NEIGHBOUR: 'it returns false'. Refute it at one input. -/
def fnExactBondNamedWrong : ChangeSpec := { name := "fnExactBondNamed", vars := ["loop.example/g01042/impl.library"], fn := fun _ => fun
  | [d, g1] => { results := [.lit (.bool false)], args := [d], vars := [g1] }
  | _ => none }
def FnExactBondNamedWrongFalsely : Prop := fnExactBondNamedRow.holds Tryd.pinned (OpenSpec.ofChange fnExactBondNamedWrong)

/-- 'laws.FnExactCheckBond': WHATEVER THE INPUT: true; the input reads as it did. -/
def fnExactCheckBondSpec : ChangeSpec := { name := "fnExactCheckBond", fn := fun _ => fun
  | [d] => { results := [.lit (.bool true)], args := [d] }
  | _ => none }
def fnExactCheckBondRow : OpenClaim := { program := "ytgffgcobgjngnaadoor", sum := "97ec47a8240cc5f5a0af0f71faa7af77c7a8e5242221fad5219de07543cca802", func := "loop.example/g01042/laws.FnExactCheckBond", spec := "fnExactCheckBond", inPlace := ["internal/bytealg.CountString", "internal/bytealg.IndexByteString", "internal/bytealg.IndexString", "internal/reflectlite.TypeOf"], unfollowed := true, recurses := true, named := ["unicode/utf8.first", "unicode/utf8.acceptRanges", "internal/bytealg.MaxLen"], apart := false, laid := [("unicode/utf8.acceptRanges", laid_unicode_utf8_acceptRanges), ("unicode/utf8.first", laid_unicode_utf8_first)] }
def FnExactCheckBondSaid : Prop := fnExactCheckBondRow.holds Tryd.pinned (OpenSpec.ofChange fnExactCheckBondSpec)

/-- ITS FALSE NEIGHBOUR: 'it returns false'. Refute it at one input. -/
def fnExactCheckBondWrong : ChangeSpec := { name := "fnExactCheckBond", fn := fun _ => fun
  | [d] => { results := [.lit (.bool false)], args := [d] }
  | _ => none }
def FnExactCheckBondWrongFalsely : Prop := fnExactCheckBondRow.holds Tryd.pinned (OpenSpec.ofChange fnExactCheckBondWrong)

/-- 'laws.FnExactMouldText': WHATEVER THE INPUT: true; the input reads as it did. -/
def fnExactMouldTextSpec : ChangeSpec := { name := "fnExactMouldText", fn := fun _ => fun
  | [d] => { results := [.lit (.bool true)], args := [d] }
  | _ => none }
def fnExactMouldTextRow : OpenClaim := { program := "ytgffgcobgjngnaadoor", sum := "97ec47a8240cc5f5a0af0f71faa7af77c7a8e5242221fad5219de07543cca802", func := "loop.example/g01042/laws.FnExactMouldText", spec := "fnExactMouldText", inPlace := ["internal/abi.NoEscape"], named := ["internal/strconv.uint64pow10", "math/bits.deBruijn32tab", "math/bits.deBruijn64tab"], apart := false, laid := [("math/bits.deBruijn32tab", laid_math_bits_deBruijn32tab), ("math/bits.deBruijn64tab", laid_math_bits_deBruijn64tab), ("internal/strconv.uint64pow10", laid_internal_strconv_uint64pow10)] }
def FnExactMouldTextSaid : Prop := fnExactMouldTextRow.holds Tryd.pinned (OpenSpec.ofChange fnExactMouldTextSpec)

/-- ITS FALSE NEIGHBOUR: 'it returns false'. Refute it at one input. -/
def fnExactMouldTextWrong : ChangeSpec := { name := "fnExactMouldText", fn := fun _ => fun
  | [d] => { results := [.lit (.bool false)], args := [d] }
  | _ => none }
def FnExactMouldTextWrongFalsely : Prop := fnExactMouldTextRow.holds Tryd.pinned (OpenSpec.ofChange fnExactMouldTextWrong)

/-- 'laws.FnExactReadMould': WHATEVER THE INPUT: true; the input reads as it did. -/
def fnExactReadMouldSpec : ChangeSpec := { name := "fnExactReadMould", fn := fun _ => fun
  | [d] => { results := [.lit (.bool true)], args := [d] }
  | _ => none }
def fnExactReadMouldRow : OpenClaim := { program := "ytgffgcobgjngnaadoor", sum := "97ec47a8240cc5f5a0af0f71faa7af77c7a8e5242221fad5219de07543cca802", func := "loop.example/g01042/laws.FnExactReadMould", spec := "fnExactReadMould", inPlace := ["internal/bytealg.IndexByteString", "internal/bytealg.IndexString", "internal/bytealg.CountString"], named := ["internal/bytealg.MaxLen", "unicode/utf8.first", "unicode/utf8.acceptRanges", "strconv.ErrSyntax", "strconv.ErrRange", "internal/strconv.uint64pow10", "math/bits.deBruijn32tab", "math/bits.deBruijn64tab"], apart := false, laid := [("math/bits.deBruijn32tab", laid_math_bits_deBruijn32tab), ("math/bits.deBruijn64tab", laid_math_bits_deBruijn64tab), ("internal/strconv.uint64pow10", laid_internal_strconv_uint64pow10), ("unicode/utf8.acceptRanges", laid_unicode_utf8_acceptRanges), ("strconv.ErrRange", laid_strconv_ErrRange), ("strconv.ErrSyntax", laid_strconv_ErrSyntax), ("unicode/utf8.first", laid_unicode_utf8_first)] }
def FnExactReadMouldSaid : Prop := fnExactReadMouldRow.holds Tryd.pinned (OpenSpec.ofChange fnExactReadMouldSpec)

/-- ITS FALSE NEIGHBOUR: 'it returns false'. Refute it at one input. -/
def fnExactReadMouldWrong : ChangeSpec := { name := "fnExactReadMould", fn := fun _ => fun
  | [d] => { results := [.lit (.bool false)], args := [d] }
  | _ => none }
def FnExactReadMouldWrongFalsely : Prop := fnExactReadMouldRow.holds Tryd.pinned (OpenSpec.ofChange fnExactReadMouldWrong)

/-- 'laws.FnExactSizeFault': WHATEVER THE INPUT: true; the input reads as it did. -/
def fnExactSizeFaultSpec : ChangeSpec := { name := "fnExactSizeFault", vars := ["loop.example/g01042/impl.sizeNames"], fn := fun _ => fun
  | [d1, d2, d3, d4, g1] => { results := [.lit (.bool true)], args := [d1, d2, d3, d4], vars := [g1] }
  | _ => none }
def fnExactSizeFaultRow : OpenClaim := { program := "ytgffgcobgjngnaadoor", sum := "97ec47a8240cc5f5a0af0f71faa7af77c7a8e5242221fad5219de07543cca802", func := "loop.example/g01042/laws.FnExactSizeFault", spec := "fnExactSizeFault", named := ["loop.example/g01042/impl.sizeNames"], apart := false, laid := [("loop.example/g01042/impl.sizeNames", laid_loop_example_g01042_impl_sizeNames)] }
def FnExactSizeFaultSaid : Prop := fnExactSizeFaultRow.holds Tryd.pinned (OpenSpec.ofChange fnExactSizeFaultSpec)

/-- ITS FALSE NEIGHBOUR: 'it returns false'. Refute it at one input. -/
def fnExactSizeFaultWrong : ChangeSpec := { name := "fnExactSizeFault", vars := ["loop.example/g01042/impl.sizeNames"], fn := fun _ => fun
  | [d1, d2, d3, d4, g1] => { results := [.lit (.bool false)], args := [d1, d2, d3, d4], vars := [g1] }
  | _ => none }
def FnExactSizeFaultWrongFalsely : Prop := fnExactSizeFaultRow.holds Tryd.pinned (OpenSpec.ofChange fnExactSizeFaultWrong)

/-- 'laws.FnExactFormatText': WHATEVER THE INPUT: true; the input reads as it did. -/
def fnExactFormatTextSpec : ChangeSpec := { name := "fnExactFormatText", fn := fun _ => fun
  | [d] => { results := [.lit (.bool true)], args := [d] }
  | _ => none }
def fnExactFormatTextRow : OpenClaim := { program := "ytgffgcobgjngnaadoor", sum := "97ec47a8240cc5f5a0af0f71faa7af77c7a8e5242221fad5219de07543cca802", func := "loop.example/g01042/laws.FnExactFormatText", spec := "fnExactFormatText", inPlace := ["internal/abi.NoEscape"], named := ["internal/strconv.uint64pow10", "math/bits.deBruijn32tab", "math/bits.deBruijn64tab"], apart := false, laid := [("math/bits.deBruijn32tab", laid_math_bits_deBruijn32tab), ("math/bits.deBruijn64tab", laid_math_bits_deBruijn64tab), ("internal/strconv.uint64pow10", laid_internal_strconv_uint64pow10)] }
def FnExactFormatTextSaid : Prop := fnExactFormatTextRow.holds Tryd.pinned (OpenSpec.ofChange fnExactFormatTextSpec)

/-- ITS FALSE NEIGHBOUR: 'it returns false'. Refute it at one input. -/
def fnExactFormatTextWrong : ChangeSpec := { name := "fnExactFormatText", fn := fun _ => fun
  | [d] => { results := [.lit (.bool false)], args := [d] }
  | _ => none }
def FnExactFormatTextWrongFalsely : Prop := fnExactFormatTextRow.holds Tryd.pinned (OpenSpec.ofChange fnExactFormatTextWrong)

/- THE SECOND FORM. 'bulk': how many values and letters a reading holds, each counted each time it is reached (what is shared counts as often as it is met; a slice's spare places count too). A statement '..UptoSaid' is the law's where the arguments, and the package variables that the reading takes, are together of bulk at most 1048576: NARROWER than '..Said'. Prove '..Said' where nothing that the law and all that it calls make is longer than what came in: it says more and counts as full. Else prove '..UptoSaid'. A law counts once. -/
mutual
def uptoBulk {H : Type} : DataW H → Nat
  | .lit (.string bytes) => bytes.length + 1
  | .lit _ => 1
  | .nil => 1
  | .ptr d => uptoBulk d + 1
  | .slice elems spare => uptoBulkAll elems + uptoBulkAll spare + 1
  | .agg parts => uptoBulkAll parts + 1
  | .iface _ d => uptoBulk d + 1
  | .map entries => uptoBulkEntries entries + 1
  | .held _ => 1
def uptoBulkAll {H : Type} : List (DataW H) → Nat
  | [] => 0
  | d :: r => uptoBulk d + uptoBulkAll r
def uptoBulkEntries {H : Type} : List (Lit × DataW H) → Nat
  | [] => 0
  | x :: r => uptoBulkEntry x + uptoBulkEntries r
def uptoBulkEntry {H : Type} : Lit × DataW H → Nat
  | (.string bytes, d) => bytes.length + uptoBulk d + 1
  | (_, d) => uptoBulk d + 1
 end
def uptoSmall : (H : Type) → List (DataW H) → Bool := fun _ ds => decide (uptoBulkAll ds ≤ 1048576)
def OpenSpec.upto (s : _root_.Go.ChangeSpec) : _root_.Go.OpenSpec := { _root_.Go.OpenSpec.ofChange s with cond := some uptoSmall }

/-- 'laws.FnExactBondNamed', WHERE WHAT IT READS IS OF BULK AT MOST 1048576: true; the input reads as it did. -/
def fnExactBondNamedUptoRow : OpenClaim := { program := "ytgffgcobgjngnaadoor", sum := "97ec47a8240cc5f5a0af0f71faa7af77c7a8e5242221fad5219de07543cca802", func := "loop.example/g01042/laws.FnExactBondNamed", spec := "fnExactBondNamed", inPlace := ["internal/bytealg.CountString", "internal/bytealg.IndexByteString", "internal/bytealg.IndexString", "internal/reflectlite.TypeOf"], unfollowed := true, recurses := true, named := ["loop.example/g01042/impl.library", "unicode/utf8.first", "unicode/utf8.acceptRanges", "internal/bytealg.MaxLen"], apart := false, laid := [("unicode/utf8.acceptRanges", laid_unicode_utf8_acceptRanges), ("loop.example/g01042/impl.library", laid_loop_example_g01042_impl_library), ("unicode/utf8.first", laid_unicode_utf8_first)], narrowed := true }
def FnExactBondNamedUptoSaid : Prop := fnExactBondNamedUptoRow.holds Tryd.pinned (OpenSpec.upto fnExactBondNamedSpec)

/-- 'laws.FnExactCheckBond', WHERE WHAT IT READS IS OF BULK AT MOST 1048576: true; the input reads as it did. -/
def fnExactCheckBondUptoRow : OpenClaim := { program := "ytgffgcobgjngnaadoor", sum := "97ec47a8240cc5f5a0af0f71faa7af77c7a8e5242221fad5219de07543cca802", func := "loop.example/g01042/laws.FnExactCheckBond", spec := "fnExactCheckBond", inPlace := ["internal/bytealg.CountString", "internal/bytealg.IndexByteString", "internal/bytealg.IndexString", "internal/reflectlite.TypeOf"], unfollowed := true, recurses := true, named := ["unicode/utf8.first", "unicode/utf8.acceptRanges", "internal/bytealg.MaxLen"], apart := false, laid := [("unicode/utf8.acceptRanges", laid_unicode_utf8_acceptRanges), ("unicode/utf8.first", laid_unicode_utf8_first)], narrowed := true }
def FnExactCheckBondUptoSaid : Prop := fnExactCheckBondUptoRow.holds Tryd.pinned (OpenSpec.upto fnExactCheckBondSpec)

/-- 'laws.FnExactMouldText', WHERE WHAT IT READS IS OF BULK AT MOST 1048576: true; the input reads as it did. -/
def fnExactMouldTextUptoRow : OpenClaim := { program := "ytgffgcobgjngnaadoor", sum := "97ec47a8240cc5f5a0af0f71faa7af77c7a8e5242221fad5219de07543cca802", func := "loop.example/g01042/laws.FnExactMouldText", spec := "fnExactMouldText", inPlace := ["internal/abi.NoEscape"], named := ["internal/strconv.uint64pow10", "math/bits.deBruijn32tab", "math/bits.deBruijn64tab"], apart := false, laid := [("math/bits.deBruijn32tab", laid_math_bits_deBruijn32tab), ("math/bits.deBruijn64tab", laid_math_bits_deBruijn64tab), ("internal/strconv.uint64pow10", laid_internal_strconv_uint64pow10)], narrowed := true }
def FnExactMouldTextUptoSaid : Prop := fnExactMouldTextUptoRow.holds Tryd.pinned (OpenSpec.upto fnExactMouldTextSpec)

/-- 'laws.FnExactReadMould', WHERE WHAT IT READS IS OF BULK AT MOST 1048576: true; the input reads as it did. -/
def fnExactReadMouldUptoRow : OpenClaim := { program := "ytgffgcobgjngnaadoor", sum := "97ec47a8240cc5f5a0af0f71faa7af77c7a8e5242221fad5219de07543cca802", func := "loop.example/g01042/laws.FnExactReadMould", spec := "fnExactReadMould", inPlace := ["internal/bytealg.IndexByteString", "internal/bytealg.IndexString", "internal/bytealg.CountString"], named := ["internal/bytealg.MaxLen", "unicode/utf8.first", "unicode/utf8.acceptRanges", "strconv.ErrSyntax", "strconv.ErrRange", "internal/strconv.uint64pow10", "math/bits.deBruijn32tab", "math/bits.deBruijn64tab"], apart := false, laid := [("math/bits.deBruijn32tab", laid_math_bits_deBruijn32tab), ("math/bits.deBruijn64tab", laid_math_bits_deBruijn64tab), ("internal/strconv.uint64pow10", laid_internal_strconv_uint64pow10), ("unicode/utf8.acceptRanges", laid_unicode_utf8_acceptRanges), ("strconv.ErrRange", laid_strconv_ErrRange), ("strconv.ErrSyntax", laid_strconv_ErrSyntax), ("unicode/utf8.first", laid_unicode_utf8_first)], narrowed := true }
def FnExactReadMouldUptoSaid : Prop := fnExactReadMouldUptoRow.holds Tryd.pinned (OpenSpec.upto fnExactReadMouldSpec)

/-- 'laws.FnExactSizeFault', WHERE WHAT IT READS IS OF BULK AT MOST 1048576: true; the input reads as it did. -/
def fnExactSizeFaultUptoRow : OpenClaim := { program := "ytgffgcobgjngnaadoor", sum := "97ec47a8240cc5f5a0af0f71faa7af77c7a8e5242221fad5219de07543cca802", func := "loop.example/g01042/laws.FnExactSizeFault", spec := "fnExactSizeFault", named := ["loop.example/g01042/impl.sizeNames"], apart := false, laid := [("loop.example/g01042/impl.sizeNames", laid_loop_example_g01042_impl_sizeNames)], narrowed := true }
def FnExactSizeFaultUptoSaid : Prop := fnExactSizeFaultUptoRow.holds Tryd.pinned (OpenSpec.upto fnExactSizeFaultSpec)

/-- 'laws.FnExactFormatText', WHERE WHAT IT READS IS OF BULK AT MOST 1048576: true; the input reads as it did. -/
def fnExactFormatTextUptoRow : OpenClaim := { program := "ytgffgcobgjngnaadoor", sum := "97ec47a8240cc5f5a0af0f71faa7af77c7a8e5242221fad5219de07543cca802", func := "loop.example/g01042/laws.FnExactFormatText", spec := "fnExactFormatText", inPlace := ["internal/abi.NoEscape"], named := ["internal/strconv.uint64pow10", "math/bits.deBruijn32tab", "math/bits.deBruijn64tab"], apart := false, laid := [("math/bits.deBruijn32tab", laid_math_bits_deBruijn32tab), ("math/bits.deBruijn64tab", laid_math_bits_deBruijn64tab), ("internal/strconv.uint64pow10", laid_internal_strconv_uint64pow10)], narrowed := true }
def FnExactFormatTextUptoSaid : Prop := fnExactFormatTextUptoRow.holds Tryd.pinned (OpenSpec.upto fnExactFormatTextSpec)

end Rows
end Go.Proofs.YtgffgcobgjngnaaDoor
