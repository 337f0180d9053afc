/-
  No cell of these rows narrows 'for every input' (looked for: loops, veiled, ifaces, maps, wideKeys, modest, calm, conditions, laid).
  DERIVED. THE GIVEN ROWS OF THIS SEAT. 12 by the template 'for every input the law returns true; each argument reads behind the call as it read before'; 0 by the template 'total and deterministic' (their statements: YtdhikdaegmekbabTotals.lean).
  GIVEN WITH THE SEED: the statements are not yours to turn. If you find one false, say at which input.
  Laid BY PROGRAM, IN A SANDBOX (cutbox-rows.mjs): the forced cells as the released guide's own fill.sh prints them over the translation fc56a2da1f41fdc6… (all of the seat's roots in one cut). By AI agents, Wed Nov 11 2026. No macro, syntax, notation, axiom, sorry.
-/
import Derived.Test.YtdhikdaegmekbabChecked
import GoSem.Claim
import GoSem.ClaimJoined
import GoSem.ClaimMapViews
import Derived.JoinedTies
import Derived.KernelRfl
namespace Go.Proofs.Ytdhikdaegmekbab
/- THE CELL 'sum', in the pinned program and in every row, IS THE sha256 OF THE DUMP (.gsa) THAT YtdhikdaegmekbabProg.lean LOADS. Nothing in Lean hashes anything: it is a label: what it is worth is what the hold of that sum in a sandbox is worth. -/
noncomputable def Try.pinned : Pinned := { name := "ytdhikdaegmekbab", sum := "fc56a2da1f41fdc672a86b2511e1c42e4de536201507216fa9e1b8a8b635ea96", checked := Try.checked }
namespace Rows
def none {H : Type} : Left H := { results := [], args := [] }

/-- 'laws.FnExactShrinkOf': WHATEVER THE INPUT: true; the input reads as it did. -/
def fnExactShrinkOfSpec : ChangeSpec := { name := "fnExactShrinkOf", fn := fun _ => fun
  | [d1, d2] => { results := [.lit (.bool true)], args := [d1, d2] }
  | _ => none }
def fnExactShrinkOfRow : OpenClaim := { program := "ytdhikdaegmekbab", sum := "fc56a2da1f41fdc672a86b2511e1c42e4de536201507216fa9e1b8a8b635ea96", func := "loop.example/g01042/laws.FnExactShrinkOf", spec := "fnExactShrinkOf", unfollowed := true, recurses := true, apart := false }
def FnExactShrinkOfSaid : Prop := fnExactShrinkOfRow.holds Try.pinned (OpenSpec.ofChange fnExactShrinkOfSpec)

/-- ITS FALSE NEIGHBOUR: 'it returns false'. Refute it at one input. -/
def fnExactShrinkOfWrong : ChangeSpec := { name := "fnExactShrinkOf", fn := fun _ => fun
  | [d1, d2] => { results := [.lit (.bool false)], args := [d1, d2] }
  | _ => none }
def FnExactShrinkOfWrongFalsely : Prop := fnExactShrinkOfRow.holds Try.pinned (OpenSpec.ofChange fnExactShrinkOfWrong)

/-- 'laws.FnExactLimeOf': WHATEVER THE INPUT: true; the input reads as it did. -/
def fnExactLimeOfSpec : ChangeSpec := { name := "fnExactLimeOf", fn := fun _ => fun
  | [d1, d2] => { results := [.lit (.bool true)], args := [d1, d2] }
  | _ => none }
def fnExactLimeOfRow : OpenClaim := { program := "ytdhikdaegmekbab", sum := "fc56a2da1f41fdc672a86b2511e1c42e4de536201507216fa9e1b8a8b635ea96", func := "loop.example/g01042/laws.FnExactLimeOf", spec := "fnExactLimeOf", unfollowed := true, recurses := true, apart := false }
def FnExactLimeOfSaid : Prop := fnExactLimeOfRow.holds Try.pinned (OpenSpec.ofChange fnExactLimeOfSpec)

/-- ITS FALSE NEIGHBOUR: 'it returns false'. Refute it at one input. -/
def fnExactLimeOfWrong : ChangeSpec := { name := "fnExactLimeOf", fn := fun _ => fun
  | [d1, d2] => { results := [.lit (.bool false)], args := [d1, d2] }
  | _ => none }
def FnExactLimeOfWrongFalsely : Prop := fnExactLimeOfRow.holds Try.pinned (OpenSpec.ofChange fnExactLimeOfWrong)

/-- 'laws.FnExactBlendPrice': WHATEVER THE INPUT: true; the input reads as it did. -/
def fnExactBlendPriceSpec : ChangeSpec := { name := "fnExactBlendPrice", fn := fun _ => fun
  | [d1, d2] => { results := [.lit (.bool true)], args := [d1, d2] }
  | _ => none }
def fnExactBlendPriceRow : OpenClaim := { program := "ytdhikdaegmekbab", sum := "fc56a2da1f41fdc672a86b2511e1c42e4de536201507216fa9e1b8a8b635ea96", func := "loop.example/g01042/laws.FnExactBlendPrice", spec := "fnExactBlendPrice", unfollowed := true, recurses := true, apart := false }
def FnExactBlendPriceSaid : Prop := fnExactBlendPriceRow.holds Try.pinned (OpenSpec.ofChange fnExactBlendPriceSpec)

/-- ITS FALSE NEIGHBOUR: 'it returns false'. Refute it at one input. -/
def fnExactBlendPriceWrong : ChangeSpec := { name := "fnExactBlendPrice", fn := fun _ => fun
  | [d1, d2] => { results := [.lit (.bool false)], args := [d1, d2] }
  | _ => none }
def FnExactBlendPriceWrongFalsely : Prop := fnExactBlendPriceRow.holds Try.pinned (OpenSpec.ofChange fnExactBlendPriceWrong)

/-- 'laws.FnExactGaugeOf': WHATEVER THE INPUT: true; the input reads as it did. -/
def fnExactGaugeOfSpec : ChangeSpec := { name := "fnExactGaugeOf", fn := fun _ => fun
  | [d1, d2] => { results := [.lit (.bool true)], args := [d1, d2] }
  | _ => none }
def fnExactGaugeOfRow : OpenClaim := { program := "ytdhikdaegmekbab", sum := "fc56a2da1f41fdc672a86b2511e1c42e4de536201507216fa9e1b8a8b635ea96", func := "loop.example/g01042/laws.FnExactGaugeOf", spec := "fnExactGaugeOf", apart := false }
def FnExactGaugeOfSaid : Prop := fnExactGaugeOfRow.holds Try.pinned (OpenSpec.ofChange fnExactGaugeOfSpec)

/-- ITS FALSE NEIGHBOUR: 'it returns false'. Refute it at one input. -/
def fnExactGaugeOfWrong : ChangeSpec := { name := "fnExactGaugeOf", fn := fun _ => fun
  | [d1, d2] => { results := [.lit (.bool false)], args := [d1, d2] }
  | _ => none }
def FnExactGaugeOfWrongFalsely : Prop := fnExactGaugeOfRow.holds Try.pinned (OpenSpec.ofChange fnExactGaugeOfWrong)

/-- 'laws.FnExactBedOf': WHATEVER THE INPUT: true; the input reads as it did. -/
def fnExactBedOfSpec : ChangeSpec := { name := "fnExactBedOf", fn := fun _ => fun
  | [d1, d2, d3] => { results := [.lit (.bool true)], args := [d1, d2, d3] }
  | _ => none }
def fnExactBedOfRow : OpenClaim := { program := "ytdhikdaegmekbab", sum := "fc56a2da1f41fdc672a86b2511e1c42e4de536201507216fa9e1b8a8b635ea96", func := "loop.example/g01042/laws.FnExactBedOf", spec := "fnExactBedOf", apart := false }
def FnExactBedOfSaid : Prop := fnExactBedOfRow.holds Try.pinned (OpenSpec.ofChange fnExactBedOfSpec)

/-- ITS FALSE NEIGHBOUR: 'it returns false'. Refute it at one input. -/
def fnExactBedOfWrong : ChangeSpec := { name := "fnExactBedOf", fn := fun _ => fun
  | [d1, d2, d3] => { results := [.lit (.bool false)], args := [d1, d2, d3] }
  | _ => none }
def FnExactBedOfWrongFalsely : Prop := fnExactBedOfRow.holds Try.pinned (OpenSpec.ofChange fnExactBedOfWrong)

/-- 'laws.FnExactBricksForMetre': WHATEVER THE INPUT: true; the input reads as it did. -/
def fnExactBricksForMetreSpec : ChangeSpec := { name := "fnExactBricksForMetre", fn := fun _ => fun
  | [d] => { results := [.lit (.bool true)], args := [d] }
  | _ => none }
def fnExactBricksForMetreRow : OpenClaim := { program := "ytdhikdaegmekbab", sum := "fc56a2da1f41fdc672a86b2511e1c42e4de536201507216fa9e1b8a8b635ea96", func := "loop.example/g01042/laws.FnExactBricksForMetre", spec := "fnExactBricksForMetre", apart := false }
def FnExactBricksForMetreSaid : Prop := fnExactBricksForMetreRow.holds Try.pinned (OpenSpec.ofChange fnExactBricksForMetreSpec)

/-- ITS FALSE NEIGHBOUR: 'it returns false'. Refute it at one input. -/
def fnExactBricksForMetreWrong : ChangeSpec := { name := "fnExactBricksForMetre", fn := fun _ => fun
  | [d] => { results := [.lit (.bool false)], args := [d] }
  | _ => none }
def FnExactBricksForMetreWrongFalsely : Prop := fnExactBricksForMetreRow.holds Try.pinned (OpenSpec.ofChange fnExactBricksForMetreWrong)

/-- 'laws.FnExactMortarFor': WHATEVER THE INPUT: true; the input reads as it did. -/
def fnExactMortarForSpec : ChangeSpec := { name := "fnExactMortarFor", fn := fun _ => fun
  | [d1, d2] => { results := [.lit (.bool true)], args := [d1, d2] }
  | _ => none }
def fnExactMortarForRow : OpenClaim := { program := "ytdhikdaegmekbab", sum := "fc56a2da1f41fdc672a86b2511e1c42e4de536201507216fa9e1b8a8b635ea96", func := "loop.example/g01042/laws.FnExactMortarFor", spec := "fnExactMortarFor", apart := false }
def FnExactMortarForSaid : Prop := fnExactMortarForRow.holds Try.pinned (OpenSpec.ofChange fnExactMortarForSpec)

/-- ITS FALSE NEIGHBOUR: 'it returns false'. Refute it at one input. -/
def fnExactMortarForWrong : ChangeSpec := { name := "fnExactMortarFor", fn := fun _ => fun
  | [d1, d2] => { results := [.lit (.bool false)], args := [d1, d2] }
  | _ => none }
def FnExactMortarForWrongFalsely : Prop := fnExactMortarForRow.holds Try.pinned (OpenSpec.ofChange fnExactMortarForWrong)

/-- 'laws.FnExactCoursesFor': WHATEVER THE INPUT: true; the input reads as it did. -/
def fnExactCoursesForSpec : ChangeSpec := { name := "fnExactCoursesFor", fn := fun _ => fun
  | [d1, d2, d3, d4] => { results := [.lit (.bool true)], args := [d1, d2, d3, d4] }
  | _ => none }
def fnExactCoursesForRow : OpenClaim := { program := "ytdhikdaegmekbab", sum := "fc56a2da1f41fdc672a86b2511e1c42e4de536201507216fa9e1b8a8b635ea96", func := "loop.example/g01042/laws.FnExactCoursesFor", spec := "fnExactCoursesFor", unfollowed := true, recurses := true, apart := false }
def FnExactCoursesForSaid : Prop := fnExactCoursesForRow.holds Try.pinned (OpenSpec.ofChange fnExactCoursesForSpec)

/-- ITS FALSE NEIGHBOUR: 'it returns false'. Refute it at one input. -/
def fnExactCoursesForWrong : ChangeSpec := { name := "fnExactCoursesFor", fn := fun _ => fun
  | [d1, d2, d3, d4] => { results := [.lit (.bool false)], args := [d1, d2, d3, d4] }
  | _ => none }
def FnExactCoursesForWrongFalsely : Prop := fnExactCoursesForRow.holds Try.pinned (OpenSpec.ofChange fnExactCoursesForWrong)

/-- 'laws.FnExactBestGauge': WHATEVER THE INPUT: true; the input reads as it did. -/
def fnExactBestGaugeSpec : ChangeSpec := { name := "fnExactBestGauge", fn := fun _ => fun
  | [d1, d2, d3, d4, d5] => { results := [.lit (.bool true)], args := [d1, d2, d3, d4, d5] }
  | _ => none }
def fnExactBestGaugeRow : OpenClaim := { program := "ytdhikdaegmekbab", sum := "fc56a2da1f41fdc672a86b2511e1c42e4de536201507216fa9e1b8a8b635ea96", func := "loop.example/g01042/laws.FnExactBestGauge", spec := "fnExactBestGauge", unfollowed := true, recurses := true, apart := false }
def FnExactBestGaugeSaid : Prop := fnExactBestGaugeRow.holds Try.pinned (OpenSpec.ofChange fnExactBestGaugeSpec)

/-- ITS FALSE NEIGHBOUR: 'it returns false'. Refute it at one input. -/
def fnExactBestGaugeWrong : ChangeSpec := { name := "fnExactBestGauge", fn := fun _ => fun
  | [d1, d2, d3, d4, d5] => { results := [.lit (.bool false)], args := [d1, d2, d3, d4, d5] }
  | _ => none }
def FnExactBestGaugeWrongFalsely : Prop := fnExactBestGaugeRow.holds Try.pinned (OpenSpec.ofChange fnExactBestGaugeWrong)

/-- 'laws.FnExactCheapestPacks': WHATEVER THE INPUT: true; the input reads as it did. -/
def fnExactCheapestPacksSpec : ChangeSpec := { name := "fnExactCheapestPacks", fn := fun _ => fun
  | [d1, d2, d3] => { results := [.lit (.bool true)], args := [d1, d2, d3] }
  | _ => none }
def fnExactCheapestPacksRow : OpenClaim := { program := "ytdhikdaegmekbab", sum := "fc56a2da1f41fdc672a86b2511e1c42e4de536201507216fa9e1b8a8b635ea96", func := "loop.example/g01042/laws.FnExactCheapestPacks", spec := "fnExactCheapestPacks", apart := false }
def FnExactCheapestPacksSaid : Prop := fnExactCheapestPacksRow.holds Try.pinned (OpenSpec.ofChange fnExactCheapestPacksSpec)

/-- ITS FALSE NEIGHBOUR: 'it returns false'. Refute it at one input. -/
def fnExactCheapestPacksWrong : ChangeSpec := { name := "fnExactCheapestPacks", fn := fun _ => fun
  | [d1, d2, d3] => { results := [.lit (.bool false)], args := [d1, d2, d3] }
  | _ => none }
def FnExactCheapestPacksWrongFalsely : Prop := fnExactCheapestPacksRow.holds Try.pinned (OpenSpec.ofChange fnExactCheapestPacksWrong)

/-- 'laws.FnRings': WHATEVER THE INPUT: true; the input reads as it did. -/
def fnRingsSpec : ChangeSpec := { name := "fnRings", fn := fun _ => fun
  | [d] => { results := [.lit (.bool true)], args := [d] }
  | _ => none }
def fnRingsRow : OpenClaim := { program := "ytdhikdaegmekbab", sum := "fc56a2da1f41fdc672a86b2511e1c42e4de536201507216fa9e1b8a8b635ea96", func := "loop.example/g01042/laws.FnRings", spec := "fnRings", unfollowed := true, recurses := true, apart := false }
def FnRingsSaid : Prop := fnRingsRow.holds Try.pinned (OpenSpec.ofChange fnRingsSpec)

/-- ITS FALSE NEIGHBOUR: 'it returns false'. Refute it at one input. -/
def fnRingsWrong : ChangeSpec := { name := "fnRings", fn := fun _ => fun
  | [d] => { results := [.lit (.bool false)], args := [d] }
  | _ => none }
def FnRingsWrongFalsely : Prop := fnRingsRow.holds Try.pinned (OpenSpec.ofChange fnRingsWrong)

/-- 'laws.FnArcs': WHATEVER THE INPUT: true; the input reads as it did. -/
def fnArcsSpec : ChangeSpec := { name := "fnArcs", fn := fun _ => fun
  | [d] => { results := [.lit (.bool true)], args := [d] }
  | _ => none }
def fnArcsRow : OpenClaim := { program := "ytdhikdaegmekbab", sum := "fc56a2da1f41fdc672a86b2511e1c42e4de536201507216fa9e1b8a8b635ea96", func := "loop.example/g01042/laws.FnArcs", spec := "fnArcs", apart := false }
def FnArcsSaid : Prop := fnArcsRow.holds Try.pinned (OpenSpec.ofChange fnArcsSpec)

/-- ITS FALSE NEIGHBOUR: 'it returns false'. Refute it at one input. -/
def fnArcsWrong : ChangeSpec := { name := "fnArcs", fn := fun _ => fun
  | [d] => { results := [.lit (.bool false)], args := [d] }
  | _ => none }
def FnArcsWrongFalsely : Prop := fnArcsRow.holds Try.pinned (OpenSpec.ofChange fnArcsWrong)

/- THE SECOND FORM. 'bulk': how many values and letters a reading holds, each counted each time it is reached (what is shared counts as often as it is met; a slice's spare places count too). A statement '..UptoSaid' is the law's where the arguments, and the package variables that the reading takes, are together of bulk at most 1048576: NARROWER than '..Said'. Prove '..Said' where nothing that the law and all that it calls make is longer than what came in: it says more and counts as full. Else prove '..UptoSaid'. A law counts once. -/
mutual
def uptoBulk {H : Type} : DataW H → Nat
  | .lit (.string bytes) => bytes.length + 1
  | .lit _ => 1
  | .nil => 1
  | .ptr d => uptoBulk d + 1
  | .slice elems spare => uptoBulkAll elems + uptoBulkAll spare + 1
  | .agg parts => uptoBulkAll parts + 1
  | .iface _ d => uptoBulk d + 1
  | .map entries => uptoBulkEntries entries + 1
  | .held _ => 1
def uptoBulkAll {H : Type} : List (DataW H) → Nat
  | [] => 0
  | d :: r => uptoBulk d + uptoBulkAll r
def uptoBulkEntries {H : Type} : List (Lit × DataW H) → Nat
  | [] => 0
  | x :: r => uptoBulkEntry x + uptoBulkEntries r
def uptoBulkEntry {H : Type} : Lit × DataW H → Nat
  | (.string bytes, d) => bytes.length + uptoBulk d + 1
  | (_, d) => uptoBulk d + 1
 end
def uptoSmall : (H : Type) → List (DataW H) → Bool := fun _ ds => decide (uptoBulkAll ds ≤ 1048576)
def OpenSpec.upto (s : _root_.Go.ChangeSpec) : _root_.Go.OpenSpec := { _root_.Go.OpenSpec.ofChange s with cond := some uptoSmall }

/-- 'laws.FnExactShrinkOf', WHERE WHAT IT READS IS OF BULK AT MOST 1048576: true; the input reads as it did. -/
def fnExactShrinkOfUptoRow : OpenClaim := { program := "ytdhikdaegmekbab", sum := "fc56a2da1f41fdc672a86b2511e1c42e4de536201507216fa9e1b8a8b635ea96", func := "loop.example/g01042/laws.FnExactShrinkOf", spec := "fnExactShrinkOf", unfollowed := true, recurses := true, apart := false, narrowed := true }
def FnExactShrinkOfUptoSaid : Prop := fnExactShrinkOfUptoRow.holds Try.pinned (OpenSpec.upto fnExactShrinkOfSpec)

/-- 'laws.FnExactLimeOf', WHERE WHAT IT READS IS OF BULK AT MOST 1048576: true; the input reads as it did. -/
def fnExactLimeOfUptoRow : OpenClaim := { program := "ytdhikdaegmekbab", sum := "fc56a2da1f41fdc672a86b2511e1c42e4de536201507216fa9e1b8a8b635ea96", func := "loop.example/g01042/laws.FnExactLimeOf", spec := "fnExactLimeOf", unfollowed := true, recurses := true, apart := false, narrowed := true }
def FnExactLimeOfUptoSaid : Prop := fnExactLimeOfUptoRow.holds Try.pinned (OpenSpec.upto fnExactLimeOfSpec)

/-- 'laws.FnExactBlendPrice', WHERE WHAT IT READS IS OF BULK AT MOST 1048576: true; the input reads as it did. -/
def fnExactBlendPriceUptoRow : OpenClaim := { program := "ytdhikdaegmekbab", sum := "fc56a2da1f41fdc672a86b2511e1c42e4de536201507216fa9e1b8a8b635ea96", func := "loop.example/g01042/laws.FnExactBlendPrice", spec := "fnExactBlendPrice", unfollowed := true, recurses := true, apart := false, narrowed := true }
def FnExactBlendPriceUptoSaid : Prop := fnExactBlendPriceUptoRow.holds Try.pinned (OpenSpec.upto fnExactBlendPriceSpec)

/-- 'laws.FnExactGaugeOf', WHERE WHAT IT READS IS OF BULK AT MOST 1048576: true; the input reads as it did. -/
def fnExactGaugeOfUptoRow : OpenClaim := { program := "ytdhikdaegmekbab", sum := "fc56a2da1f41fdc672a86b2511e1c42e4de536201507216fa9e1b8a8b635ea96", func := "loop.example/g01042/laws.FnExactGaugeOf", spec := "fnExactGaugeOf", apart := false, narrowed := true }
def FnExactGaugeOfUptoSaid : Prop := fnExactGaugeOfUptoRow.holds Try.pinned (OpenSpec.upto fnExactGaugeOfSpec)

/-- 'laws.FnExactBedOf', WHERE WHAT IT READS IS OF BULK AT MOST 1048576: true; the input reads as it did. -/
def fnExactBedOfUptoRow : OpenClaim := { program := "ytdhikdaegmekbab", sum := "fc56a2da1f41fdc672a86b2511e1c42e4de536201507216fa9e1b8a8b635ea96", func := "loop.example/g01042/laws.FnExactBedOf", spec := "fnExactBedOf", apart := false, narrowed := true }
def FnExactBedOfUptoSaid : Prop := fnExactBedOfUptoRow.holds Try.pinned (OpenSpec.upto fnExactBedOfSpec)

/-- 'laws.FnExactBricksForMetre', WHERE WHAT IT READS IS OF BULK AT MOST 1048576: true; the input reads as it did. -/
def fnExactBricksForMetreUptoRow : OpenClaim := { program := "ytdhikdaegmekbab", sum := "fc56a2da1f41fdc672a86b2511e1c42e4de536201507216fa9e1b8a8b635ea96", func := "loop.example/g01042/laws.FnExactBricksForMetre", spec := "fnExactBricksForMetre", apart := false, narrowed := true }
def FnExactBricksForMetreUptoSaid : Prop := fnExactBricksForMetreUptoRow.holds Try.pinned (OpenSpec.upto fnExactBricksForMetreSpec)

/-- 'laws.FnExactMortarFor', WHERE WHAT IT READS IS OF BULK AT MOST 1048576: true; the input reads as it did. -/
def fnExactMortarForUptoRow : OpenClaim := { program := "ytdhikdaegmekbab", sum := "fc56a2da1f41fdc672a86b2511e1c42e4de536201507216fa9e1b8a8b635ea96", func := "loop.example/g01042/laws.FnExactMortarFor", spec := "fnExactMortarFor", apart := false, narrowed := true }
def FnExactMortarForUptoSaid : Prop := fnExactMortarForUptoRow.holds Try.pinned (OpenSpec.upto fnExactMortarForSpec)

/-- 'laws.FnExactCoursesFor', WHERE WHAT IT READS IS OF BULK AT MOST 1048576: true; the input reads as it did. -/
def fnExactCoursesForUptoRow : OpenClaim := { program := "ytdhikdaegmekbab", sum := "fc56a2da1f41fdc672a86b2511e1c42e4de536201507216fa9e1b8a8b635ea96", func := "loop.example/g01042/laws.FnExactCoursesFor", spec := "fnExactCoursesFor", unfollowed := true, recurses := true, apart := false, narrowed := true }
def FnExactCoursesForUptoSaid : Prop := fnExactCoursesForUptoRow.holds Try.pinned (OpenSpec.upto fnExactCoursesForSpec)

/-- 'laws.FnExactBestGauge', WHERE WHAT IT READS IS OF BULK AT MOST 1048576: true; the input reads as it did. -/
def fnExactBestGaugeUptoRow : OpenClaim := { program := "ytdhikdaegmekbab", sum := "fc56a2da1f41fdc672a86b2511e1c42e4de536201507216fa9e1b8a8b635ea96", func := "loop.example/g01042/laws.FnExactBestGauge", spec := "fnExactBestGauge", unfollowed := true, recurses := true, apart := false, narrowed := true }
def FnExactBestGaugeUptoSaid : Prop := fnExactBestGaugeUptoRow.holds Try.pinned (OpenSpec.upto fnExactBestGaugeSpec)

/-- 'laws.FnExactCheapestPacks', WHERE WHAT IT READS IS OF BULK AT MOST 1048576: true; the input reads as it did. -/
def fnExactCheapestPacksUptoRow : OpenClaim := { program := "ytdhikdaegmekbab", sum := "fc56a2da1f41fdc672a86b2511e1c42e4de536201507216fa9e1b8a8b635ea96", func := "loop.example/g01042/laws.FnExactCheapestPacks", spec := "fnExactCheapestPacks", apart := false, narrowed := true }
def FnExactCheapestPacksUptoSaid : Prop := fnExactCheapestPacksUptoRow.holds Try.pinned (OpenSpec.upto fnExactCheapestPacksSpec)

/-- 'laws.FnRings', WHERE WHAT IT READS IS OF BULK AT MOST 1048576: true; the input reads as it did. -/
def fnRingsUptoRow : OpenClaim := { program := "ytdhikdaegmekbab", sum := "fc56a2da1f41fdc672a86b2511e1c42e4de536201507216fa9e1b8a8b635ea96", func := "loop.example/g01042/laws.FnRings", spec := "fnRings", unfollowed := true, recurses := true, apart := false, narrowed := true }
def FnRingsUptoSaid : Prop := fnRingsUptoRow.holds Try.pinned (OpenSpec.upto fnRingsSpec)

/-- 'laws.FnArcs', WHERE WHAT IT READS IS OF BULK AT MOST 1048576: true; the input reads as it did. -/
def fnArcsUptoRow : OpenClaim := { program := "ytdhikdaegmekbab", sum := "fc56a2da1f41fdc672a86b2511e1c42e4de536201507216fa9e1b8a8b635ea96", func := "loop.example/g01042/laws.FnArcs", spec := "fnArcs", apart := false, narrowed := true }
def FnArcsUptoSaid : Prop := fnArcsUptoRow.holds Try.pinned (OpenSpec.upto fnArcsSpec)

end Rows
end Go.Proofs.Ytdhikdaegmekbab
