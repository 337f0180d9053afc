/-
  No cell of these rows narrows 'for every input' (looked for: loops, veiled, ifaces, maps, wideKeys, modest, calm, conditions, laid).
  DERIVED. THE GIVEN ROWS OF THIS SEAT. 10 by the template 'for every input the law returns true; each argument reads behind the call as it read before'; 0 by the template 'total and deterministic' (their statements: YtmbmbkagmkmhlaaTotals.lean).
  GIVEN WITH THE SEED: the statements are not yours to turn. If you find one false, say at which input.
  Laid BY PROGRAM, IN A SANDBOX (cutbox-rows.mjs): the forced cells as the released guide's own fill.sh prints them over the translation eaa233a22997bef8… (all of the seat's roots in one cut). By AI agents, Wed Nov 11 2026. No macro, syntax, notation, axiom, sorry.
-/
import Derived.Test.YtmbmbkagmkmhlaaChecked
import GoSem.Claim
import GoSem.ClaimJoined
import GoSem.ClaimMapViews
import Derived.JoinedTies
import Derived.KernelRfl
namespace Go.Proofs.Ytmbmbkagmkmhlaa
/- THE CELL 'sum', in the pinned program and in every row, IS THE sha256 OF THE DUMP (.gsa) THAT YtmbmbkagmkmhlaaProg.lean LOADS. Nothing in Lean hashes anything: it is a label: what it is worth is what the hold of that sum in a sandbox is worth. -/
noncomputable def Try.pinned : Pinned := { name := "ytmbmbkagmkmhlaa", sum := "eaa233a22997bef825435e1297958be52ed117ddfe4904eb1f5b4f54b16663da", checked := Try.checked }
namespace Rows
def none {H : Type} : Left H := { results := [], args := [] }

/-- 'laws.FnExactValidLevels': WHATEVER THE INPUT: true; the input reads as it did. -/
def fnExactValidLevelsSpec : ChangeSpec := { name := "fnExactValidLevels", fn := fun _ => fun
  | [d1, d2] => { results := [.lit (.bool true)], args := [d1, d2] }
  | _ => none }
def fnExactValidLevelsRow : OpenClaim := { program := "ytmbmbkagmkmhlaa", sum := "eaa233a22997bef825435e1297958be52ed117ddfe4904eb1f5b4f54b16663da", func := "loop.example/g01042/laws.FnExactValidLevels", spec := "fnExactValidLevels", apart := false }
def FnExactValidLevelsSaid : Prop := fnExactValidLevelsRow.holds Try.pinned (OpenSpec.ofChange fnExactValidLevelsSpec)

/-- ITS FALSE NEIGHBOUR: 'it returns false'. Refute it at one input. -/
def fnExactValidLevelsWrong : ChangeSpec := { name := "fnExactValidLevels", fn := fun _ => fun
  | [d1, d2] => { results := [.lit (.bool false)], args := [d1, d2] }
  | _ => none }
def FnExactValidLevelsWrongFalsely : Prop := fnExactValidLevelsRow.holds Try.pinned (OpenSpec.ofChange fnExactValidLevelsWrong)

/-- 'laws.FnExactGaugeOf': WHATEVER THE INPUT: true; the input reads as it did. -/
def fnExactGaugeOfSpec : ChangeSpec := { name := "fnExactGaugeOf", fn := fun _ => fun
  | [d1, d2] => { results := [.lit (.bool true)], args := [d1, d2] }
  | _ => none }
def fnExactGaugeOfRow : OpenClaim := { program := "ytmbmbkagmkmhlaa", sum := "eaa233a22997bef825435e1297958be52ed117ddfe4904eb1f5b4f54b16663da", func := "loop.example/g01042/laws.FnExactGaugeOf", spec := "fnExactGaugeOf", apart := false }
def FnExactGaugeOfSaid : Prop := fnExactGaugeOfRow.holds Try.pinned (OpenSpec.ofChange fnExactGaugeOfSpec)

/-- ITS FALSE NEIGHBOUR: 'it returns false'. Refute it at one input. -/
def fnExactGaugeOfWrong : ChangeSpec := { name := "fnExactGaugeOf", fn := fun _ => fun
  | [d1, d2] => { results := [.lit (.bool false)], args := [d1, d2] }
  | _ => none }
def FnExactGaugeOfWrongFalsely : Prop := fnExactGaugeOfRow.holds Try.pinned (OpenSpec.ofChange fnExactGaugeOfWrong)

/-- 'laws.FnExactBedOf': WHATEVER THE INPUT: true; the input reads as it did. -/
def fnExactBedOfSpec : ChangeSpec := { name := "fnExactBedOf", fn := fun _ => fun
  | [d1, d2, d3] => { results := [.lit (.bool true)], args := [d1, d2, d3] }
  | _ => none }
def fnExactBedOfRow : OpenClaim := { program := "ytmbmbkagmkmhlaa", sum := "eaa233a22997bef825435e1297958be52ed117ddfe4904eb1f5b4f54b16663da", func := "loop.example/g01042/laws.FnExactBedOf", spec := "fnExactBedOf", apart := false }
def FnExactBedOfSaid : Prop := fnExactBedOfRow.holds Try.pinned (OpenSpec.ofChange fnExactBedOfSpec)

/-- ITS FALSE NEIGHBOUR: 'it returns false'. Refute it at one input. -/
def fnExactBedOfWrong : ChangeSpec := { name := "fnExactBedOf", fn := fun _ => fun
  | [d1, d2, d3] => { results := [.lit (.bool false)], args := [d1, d2, d3] }
  | _ => none }
def FnExactBedOfWrongFalsely : Prop := fnExactBedOfRow.holds Try.pinned (OpenSpec.ofChange fnExactBedOfWrong)

/-- 'laws.FnExactCoursesFor': WHATEVER THE INPUT: true; the input reads as it did. -/
def fnExactCoursesForSpec : ChangeSpec := { name := "fnExactCoursesFor", fn := fun _ => fun
  | [d1, d2, d3, d4] => { results := [.lit (.bool true)], args := [d1, d2, d3, d4] }
  | _ => none }
def fnExactCoursesForRow : OpenClaim := { program := "ytmbmbkagmkmhlaa", sum := "eaa233a22997bef825435e1297958be52ed117ddfe4904eb1f5b4f54b16663da", func := "loop.example/g01042/laws.FnExactCoursesFor", spec := "fnExactCoursesFor", unfollowed := true, recurses := true, apart := false }
def FnExactCoursesForSaid : Prop := fnExactCoursesForRow.holds Try.pinned (OpenSpec.ofChange fnExactCoursesForSpec)

/-- ITS FALSE NEIGHBOUR: 'it returns false'. Refute it at one input. -/
def fnExactCoursesForWrong : ChangeSpec := { name := "fnExactCoursesFor", fn := fun _ => fun
  | [d1, d2, d3, d4] => { results := [.lit (.bool false)], args := [d1, d2, d3, d4] }
  | _ => none }
def FnExactCoursesForWrongFalsely : Prop := fnExactCoursesForRow.holds Try.pinned (OpenSpec.ofChange fnExactCoursesForWrong)

/-- 'laws.FnExactMarksOf': WHATEVER THE INPUT: true; the input reads as it did. -/
def fnExactMarksOfSpec : ChangeSpec := { name := "fnExactMarksOf", fn := fun _ => fun
  | [d1, d2] => { results := [.lit (.bool true)], args := [d1, d2] }
  | _ => none }
def fnExactMarksOfRow : OpenClaim := { program := "ytmbmbkagmkmhlaa", sum := "eaa233a22997bef825435e1297958be52ed117ddfe4904eb1f5b4f54b16663da", func := "loop.example/g01042/laws.FnExactMarksOf", spec := "fnExactMarksOf", apart := false }
def FnExactMarksOfSaid : Prop := fnExactMarksOfRow.holds Try.pinned (OpenSpec.ofChange fnExactMarksOfSpec)

/-- ITS FALSE NEIGHBOUR: 'it returns false'. Refute it at one input. -/
def fnExactMarksOfWrong : ChangeSpec := { name := "fnExactMarksOf", fn := fun _ => fun
  | [d1, d2] => { results := [.lit (.bool false)], args := [d1, d2] }
  | _ => none }
def FnExactMarksOfWrongFalsely : Prop := fnExactMarksOfRow.holds Try.pinned (OpenSpec.ofChange fnExactMarksOfWrong)

/-- 'laws.FnExactJointsEvenly': WHATEVER THE INPUT: true; the input reads as it did. -/
def fnExactJointsEvenlySpec : ChangeSpec := { name := "fnExactJointsEvenly", fn := fun _ => fun
  | [d1, d2, d3] => { results := [.lit (.bool true)], args := [d1, d2, d3] }
  | _ => none }
def fnExactJointsEvenlyRow : OpenClaim := { program := "ytmbmbkagmkmhlaa", sum := "eaa233a22997bef825435e1297958be52ed117ddfe4904eb1f5b4f54b16663da", func := "loop.example/g01042/laws.FnExactJointsEvenly", spec := "fnExactJointsEvenly", apart := false }
def FnExactJointsEvenlySaid : Prop := fnExactJointsEvenlyRow.holds Try.pinned (OpenSpec.ofChange fnExactJointsEvenlySpec)

/-- ITS FALSE NEIGHBOUR: 'it returns false'. Refute it at one input. -/
def fnExactJointsEvenlyWrong : ChangeSpec := { name := "fnExactJointsEvenly", fn := fun _ => fun
  | [d1, d2, d3] => { results := [.lit (.bool false)], args := [d1, d2, d3] }
  | _ => none }
def FnExactJointsEvenlyWrongFalsely : Prop := fnExactJointsEvenlyRow.holds Try.pinned (OpenSpec.ofChange fnExactJointsEvenlyWrong)

/-- 'laws.FnExactNearestMark': WHATEVER THE INPUT: true; the input reads as it did. -/
def fnExactNearestMarkSpec : ChangeSpec := { name := "fnExactNearestMark", fn := fun _ => fun
  | [d1, d2, d3] => { results := [.lit (.bool true)], args := [d1, d2, d3] }
  | _ => none }
def fnExactNearestMarkRow : OpenClaim := { program := "ytmbmbkagmkmhlaa", sum := "eaa233a22997bef825435e1297958be52ed117ddfe4904eb1f5b4f54b16663da", func := "loop.example/g01042/laws.FnExactNearestMark", spec := "fnExactNearestMark", unfollowed := true, recurses := true, apart := false }
def FnExactNearestMarkSaid : Prop := fnExactNearestMarkRow.holds Try.pinned (OpenSpec.ofChange fnExactNearestMarkSpec)

/-- ITS FALSE NEIGHBOUR: 'it returns false'. Refute it at one input. -/
def fnExactNearestMarkWrong : ChangeSpec := { name := "fnExactNearestMark", fn := fun _ => fun
  | [d1, d2, d3] => { results := [.lit (.bool false)], args := [d1, d2, d3] }
  | _ => none }
def FnExactNearestMarkWrongFalsely : Prop := fnExactNearestMarkRow.holds Try.pinned (OpenSpec.ofChange fnExactNearestMarkWrong)

/-- 'laws.FnExactLevelsOff': WHATEVER THE INPUT: true; the input reads as it did. -/
def fnExactLevelsOffSpec : ChangeSpec := { name := "fnExactLevelsOff", fn := fun _ => fun
  | [d1, d2, d3] => { results := [.lit (.bool true)], args := [d1, d2, d3] }
  | _ => none }
def fnExactLevelsOffRow : OpenClaim := { program := "ytmbmbkagmkmhlaa", sum := "eaa233a22997bef825435e1297958be52ed117ddfe4904eb1f5b4f54b16663da", func := "loop.example/g01042/laws.FnExactLevelsOff", spec := "fnExactLevelsOff", unfollowed := true, recurses := true, apart := false }
def FnExactLevelsOffSaid : Prop := fnExactLevelsOffRow.holds Try.pinned (OpenSpec.ofChange fnExactLevelsOffSpec)

/-- ITS FALSE NEIGHBOUR: 'it returns false'. Refute it at one input. -/
def fnExactLevelsOffWrong : ChangeSpec := { name := "fnExactLevelsOff", fn := fun _ => fun
  | [d1, d2, d3] => { results := [.lit (.bool false)], args := [d1, d2, d3] }
  | _ => none }
def FnExactLevelsOffWrongFalsely : Prop := fnExactLevelsOffRow.holds Try.pinned (OpenSpec.ofChange fnExactLevelsOffWrong)

/-- 'laws.FnExactBestGauge': WHATEVER THE INPUT: true; the input reads as it did. -/
def fnExactBestGaugeSpec : ChangeSpec := { name := "fnExactBestGauge", fn := fun _ => fun
  | [d1, d2, d3, d4, d5] => { results := [.lit (.bool true)], args := [d1, d2, d3, d4, d5] }
  | _ => none }
def fnExactBestGaugeRow : OpenClaim := { program := "ytmbmbkagmkmhlaa", sum := "eaa233a22997bef825435e1297958be52ed117ddfe4904eb1f5b4f54b16663da", func := "loop.example/g01042/laws.FnExactBestGauge", spec := "fnExactBestGauge", unfollowed := true, recurses := true, apart := false }
def FnExactBestGaugeSaid : Prop := fnExactBestGaugeRow.holds Try.pinned (OpenSpec.ofChange fnExactBestGaugeSpec)

/-- ITS FALSE NEIGHBOUR: 'it returns false'. Refute it at one input. -/
def fnExactBestGaugeWrong : ChangeSpec := { name := "fnExactBestGauge", fn := fun _ => fun
  | [d1, d2, d3, d4, d5] => { results := [.lit (.bool false)], args := [d1, d2, d3, d4, d5] }
  | _ => none }
def FnExactBestGaugeWrongFalsely : Prop := fnExactBestGaugeRow.holds Try.pinned (OpenSpec.ofChange fnExactBestGaugeWrong)

/-- 'laws.FnExactStepsBetween': WHATEVER THE INPUT: true; the input reads as it did. -/
def fnExactStepsBetweenSpec : ChangeSpec := { name := "fnExactStepsBetween", fn := fun _ => fun
  | [d1, d2, d3] => { results := [.lit (.bool true)], args := [d1, d2, d3] }
  | _ => none }
def fnExactStepsBetweenRow : OpenClaim := { program := "ytmbmbkagmkmhlaa", sum := "eaa233a22997bef825435e1297958be52ed117ddfe4904eb1f5b4f54b16663da", func := "loop.example/g01042/laws.FnExactStepsBetween", spec := "fnExactStepsBetween", unfollowed := true, recurses := true, apart := false }
def FnExactStepsBetweenSaid : Prop := fnExactStepsBetweenRow.holds Try.pinned (OpenSpec.ofChange fnExactStepsBetweenSpec)

/-- ITS FALSE NEIGHBOUR: 'it returns false'. Refute it at one input. -/
def fnExactStepsBetweenWrong : ChangeSpec := { name := "fnExactStepsBetween", fn := fun _ => fun
  | [d1, d2, d3] => { results := [.lit (.bool false)], args := [d1, d2, d3] }
  | _ => none }
def FnExactStepsBetweenWrongFalsely : Prop := fnExactStepsBetweenRow.holds Try.pinned (OpenSpec.ofChange fnExactStepsBetweenWrong)

/- THE SECOND FORM. 'bulk': how many values and letters a reading holds, each counted each time it is reached (what is shared counts as often as it is met; a slice's spare places count too). A statement '..UptoSaid' is the law's where the arguments, and the package variables that the reading takes, are together of bulk at most 1048576: NARROWER than '..Said'. Prove '..Said' where nothing that the law and all that it calls make is longer than what came in: it says more and counts as full. Else prove '..UptoSaid'. A law counts once. -/
mutual
def uptoBulk {H : Type} : DataW H → Nat
  | .lit (.string bytes) => bytes.length + 1
  | .lit _ => 1
  | .nil => 1
  | .ptr d => uptoBulk d + 1
  | .slice elems spare => uptoBulkAll elems + uptoBulkAll spare + 1
  | .agg parts => uptoBulkAll parts + 1
  | .iface _ d => uptoBulk d + 1
  | .map entries => uptoBulkEntries entries + 1
  | .held _ => 1
def uptoBulkAll {H : Type} : List (DataW H) → Nat
  | [] => 0
  | d :: r => uptoBulk d + uptoBulkAll r
def uptoBulkEntries {H : Type} : List (Lit × DataW H) → Nat
  | [] => 0
  | x :: r => uptoBulkEntry x + uptoBulkEntries r
def uptoBulkEntry {H : Type} : Lit × DataW H → Nat
  | (.string bytes, d) => bytes.length + uptoBulk d + 1
  | (_, d) => uptoBulk d + 1
 end
def uptoSmall : (H : Type) → List (DataW H) → Bool := fun _ ds => decide (uptoBulkAll ds ≤ 1048576)
def OpenSpec.upto (s : _root_.Go.ChangeSpec) : _root_.Go.OpenSpec := { _root_.Go.OpenSpec.ofChange s with cond := some uptoSmall }

/-- 'laws.FnExactValidLevels', WHERE WHAT IT READS IS OF BULK AT MOST 1048576: true; the input reads as it did. -/
def fnExactValidLevelsUptoRow : OpenClaim := { program := "ytmbmbkagmkmhlaa", sum := "eaa233a22997bef825435e1297958be52ed117ddfe4904eb1f5b4f54b16663da", func := "loop.example/g01042/laws.FnExactValidLevels", spec := "fnExactValidLevels", apart := false, narrowed := true }
def FnExactValidLevelsUptoSaid : Prop := fnExactValidLevelsUptoRow.holds Try.pinned (OpenSpec.upto fnExactValidLevelsSpec)

/-- 'laws.FnExactGaugeOf', WHERE WHAT IT READS IS OF BULK AT MOST 1048576: true; the input reads as it did. -/
def fnExactGaugeOfUptoRow : OpenClaim := { program := "ytmbmbkagmkmhlaa", sum := "eaa233a22997bef825435e1297958be52ed117ddfe4904eb1f5b4f54b16663da", func := "loop.example/g01042/laws.FnExactGaugeOf", spec := "fnExactGaugeOf", apart := false, narrowed := true }
def FnExactGaugeOfUptoSaid : Prop := fnExactGaugeOfUptoRow.holds Try.pinned (OpenSpec.upto fnExactGaugeOfSpec)

/-- 'laws.FnExactBedOf', WHERE WHAT IT READS IS OF BULK AT MOST 1048576: true; the input reads as it did. -/
def fnExactBedOfUptoRow : OpenClaim := { program := "ytmbmbkagmkmhlaa", sum := "eaa233a22997bef825435e1297958be52ed117ddfe4904eb1f5b4f54b16663da", func := "loop.example/g01042/laws.FnExactBedOf", spec := "fnExactBedOf", apart := false, narrowed := true }
def FnExactBedOfUptoSaid : Prop := fnExactBedOfUptoRow.holds Try.pinned (OpenSpec.upto fnExactBedOfSpec)

/-- 'laws.FnExactCoursesFor', WHERE WHAT IT READS IS OF BULK AT MOST 1048576: true; the input reads as it did. -/
def fnExactCoursesForUptoRow : OpenClaim := { program := "ytmbmbkagmkmhlaa", sum := "eaa233a22997bef825435e1297958be52ed117ddfe4904eb1f5b4f54b16663da", func := "loop.example/g01042/laws.FnExactCoursesFor", spec := "fnExactCoursesFor", unfollowed := true, recurses := true, apart := false, narrowed := true }
def FnExactCoursesForUptoSaid : Prop := fnExactCoursesForUptoRow.holds Try.pinned (OpenSpec.upto fnExactCoursesForSpec)

/-- 'laws.FnExactMarksOf', WHERE WHAT IT READS IS OF BULK AT MOST 1048576: true; the input reads as it did. -/
def fnExactMarksOfUptoRow : OpenClaim := { program := "ytmbmbkagmkmhlaa", sum := "eaa233a22997bef825435e1297958be52ed117ddfe4904eb1f5b4f54b16663da", func := "loop.example/g01042/laws.FnExactMarksOf", spec := "fnExactMarksOf", apart := false, narrowed := true }
def FnExactMarksOfUptoSaid : Prop := fnExactMarksOfUptoRow.holds Try.pinned (OpenSpec.upto fnExactMarksOfSpec)

/-- 'laws.FnExactJointsEvenly', WHERE WHAT IT READS IS OF BULK AT MOST 1048576: true; the input reads as it did. -/
def fnExactJointsEvenlyUptoRow : OpenClaim := { program := "ytmbmbkagmkmhlaa", sum := "eaa233a22997bef825435e1297958be52ed117ddfe4904eb1f5b4f54b16663da", func := "loop.example/g01042/laws.FnExactJointsEvenly", spec := "fnExactJointsEvenly", apart := false, narrowed := true }
def FnExactJointsEvenlyUptoSaid : Prop := fnExactJointsEvenlyUptoRow.holds Try.pinned (OpenSpec.upto fnExactJointsEvenlySpec)

/-- 'laws.FnExactNearestMark', WHERE WHAT IT READS IS OF BULK AT MOST 1048576: true; the input reads as it did. -/
def fnExactNearestMarkUptoRow : OpenClaim := { program := "ytmbmbkagmkmhlaa", sum := "eaa233a22997bef825435e1297958be52ed117ddfe4904eb1f5b4f54b16663da", func := "loop.example/g01042/laws.FnExactNearestMark", spec := "fnExactNearestMark", unfollowed := true, recurses := true, apart := false, narrowed := true }
def FnExactNearestMarkUptoSaid : Prop := fnExactNearestMarkUptoRow.holds Try.pinned (OpenSpec.upto fnExactNearestMarkSpec)

/-- 'laws.FnExactLevelsOff', WHERE WHAT IT READS IS OF BULK AT MOST 1048576: true; the input reads as it did. -/
def fnExactLevelsOffUptoRow : OpenClaim := { program := "ytmbmbkagmkmhlaa", sum := "eaa233a22997bef825435e1297958be52ed117ddfe4904eb1f5b4f54b16663da", func := "loop.example/g01042/laws.FnExactLevelsOff", spec := "fnExactLevelsOff", unfollowed := true, recurses := true, apart := false, narrowed := true }
def FnExactLevelsOffUptoSaid : Prop := fnExactLevelsOffUptoRow.holds Try.pinned (OpenSpec.upto fnExactLevelsOffSpec)

/-- 'laws.FnExactBestGauge', WHERE WHAT IT READS IS OF BULK AT MOST 1048576: true; the input reads as it did. -/
def fnExactBestGaugeUptoRow : OpenClaim := { program := "ytmbmbkagmkmhlaa", sum := "eaa233a22997bef825435e1297958be52ed117ddfe4904eb1f5b4f54b16663da", func := "loop.example/g01042/laws.FnExactBestGauge", spec := "fnExactBestGauge", unfollowed := true, recurses := true, apart := false, narrowed := true }
def FnExactBestGaugeUptoSaid : Prop := fnExactBestGaugeUptoRow.holds Try.pinned (OpenSpec.upto fnExactBestGaugeSpec)

/-- 'laws.FnExactStepsBetween', WHERE WHAT IT READS IS OF BULK AT MOST 1048576: true; the input reads as it did. -/
def fnExactStepsBetweenUptoRow : OpenClaim := { program := "ytmbmbkagmkmhlaa", sum := "eaa233a22997bef825435e1297958be52ed117ddfe4904eb1f5b4f54b16663da", func := "loop.example/g01042/laws.FnExactStepsBetween", spec := "fnExactStepsBetween", unfollowed := true, recurses := true, apart := false, narrowed := true }
def FnExactStepsBetweenUptoSaid : Prop := fnExactStepsBetweenUptoRow.holds Try.pinned (OpenSpec.upto fnExactStepsBetweenSpec)

end Rows
end Go.Proofs.Ytmbmbkagmkmhlaa
