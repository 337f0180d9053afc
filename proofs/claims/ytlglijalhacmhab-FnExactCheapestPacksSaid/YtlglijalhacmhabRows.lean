/-
  No cell of these rows narrows 'for every input' (looked for: loops, veiled, ifaces, maps, wideKeys, modest, calm, conditions, laid).
  DERIVED. THE GIVEN ROWS OF THIS SEAT. 8 by the template 'for every input the law returns true; each argument reads behind the call as it read before'; 0 by the template 'total and deterministic' (their statements: YtlglijalhacmhabTotals.lean).
  GIVEN WITH THE SEED: the statements are not yours to turn. If you find one false, say at which input.
  Laid BY PROGRAM, IN A SANDBOX (cutbox-rows.mjs): the forced cells as the released guide's own fill.sh prints them over the translation 6d14e92f3946a00c… (all of the seat's roots in one cut). By AI agents, Wed Nov 11 2026. No macro, syntax, notation, axiom, sorry.
-/
import Derived.Test.YtlglijalhacmhabChecked
import GoSem.Claim
import GoSem.ClaimJoined
import GoSem.ClaimMapViews
import Derived.JoinedTies
import Derived.KernelRfl
namespace Go.Proofs.Ytlglijalhacmhab
/- THE CELL 'sum', in the pinned program and in every row, IS THE sha256 OF THE DUMP (.gsa) THAT YtlglijalhacmhabProg.lean LOADS. Nothing in Lean hashes anything: it is a label: what it is worth is what the hold of that sum in a sandbox is worth. -/
noncomputable def Try.pinned : Pinned := { name := "ytlglijalhacmhab", sum := "6d14e92f3946a00cb88ce01999c07a10bdd9b8f3ef699c0fe7474262346fc108", checked := Try.checked }
namespace Rows
def none {H : Type} : Left H := { results := [], args := [] }

/-- 'laws.FnExactShrinkOf': WHATEVER THE INPUT: true; the input reads as it did. -/
def fnExactShrinkOfSpec : ChangeSpec := { name := "fnExactShrinkOf", fn := fun _ => fun
  | [d1, d2] => { results := [.lit (.bool true)], args := [d1, d2] }
  | _ => none }
def fnExactShrinkOfRow : OpenClaim := { program := "ytlglijalhacmhab", sum := "6d14e92f3946a00cb88ce01999c07a10bdd9b8f3ef699c0fe7474262346fc108", func := "loop.example/g01042/laws.FnExactShrinkOf", spec := "fnExactShrinkOf", unfollowed := true, recurses := true, apart := false }
def FnExactShrinkOfSaid : Prop := fnExactShrinkOfRow.holds Try.pinned (OpenSpec.ofChange fnExactShrinkOfSpec)

/-- ITS FALSE NEIGHBOUR: 'it returns false'. Refute it at one input. -/
def fnExactShrinkOfWrong : ChangeSpec := { name := "fnExactShrinkOf", fn := fun _ => fun
  | [d1, d2] => { results := [.lit (.bool false)], args := [d1, d2] }
  | _ => none }
def FnExactShrinkOfWrongFalsely : Prop := fnExactShrinkOfRow.holds Try.pinned (OpenSpec.ofChange fnExactShrinkOfWrong)

/-- 'laws.FnExactLimeOf': WHATEVER THE INPUT: true; the input reads as it did. -/
def fnExactLimeOfSpec : ChangeSpec := { name := "fnExactLimeOf", fn := fun _ => fun
  | [d1, d2] => { results := [.lit (.bool true)], args := [d1, d2] }
  | _ => none }
def fnExactLimeOfRow : OpenClaim := { program := "ytlglijalhacmhab", sum := "6d14e92f3946a00cb88ce01999c07a10bdd9b8f3ef699c0fe7474262346fc108", func := "loop.example/g01042/laws.FnExactLimeOf", spec := "fnExactLimeOf", unfollowed := true, recurses := true, apart := false }
def FnExactLimeOfSaid : Prop := fnExactLimeOfRow.holds Try.pinned (OpenSpec.ofChange fnExactLimeOfSpec)

/-- ITS FALSE NEIGHBOUR: 'it returns false'. Refute it at one input. -/
def fnExactLimeOfWrong : ChangeSpec := { name := "fnExactLimeOf", fn := fun _ => fun
  | [d1, d2] => { results := [.lit (.bool false)], args := [d1, d2] }
  | _ => none }
def FnExactLimeOfWrongFalsely : Prop := fnExactLimeOfRow.holds Try.pinned (OpenSpec.ofChange fnExactLimeOfWrong)

/-- 'laws.FnExactBlendPrice': WHATEVER THE INPUT: true; the input reads as it did. -/
def fnExactBlendPriceSpec : ChangeSpec := { name := "fnExactBlendPrice", fn := fun _ => fun
  | [d1, d2] => { results := [.lit (.bool true)], args := [d1, d2] }
  | _ => none }
def fnExactBlendPriceRow : OpenClaim := { program := "ytlglijalhacmhab", sum := "6d14e92f3946a00cb88ce01999c07a10bdd9b8f3ef699c0fe7474262346fc108", func := "loop.example/g01042/laws.FnExactBlendPrice", spec := "fnExactBlendPrice", unfollowed := true, recurses := true, apart := false }
def FnExactBlendPriceSaid : Prop := fnExactBlendPriceRow.holds Try.pinned (OpenSpec.ofChange fnExactBlendPriceSpec)

/-- ITS FALSE NEIGHBOUR: 'it returns false'. Refute it at one input. -/
def fnExactBlendPriceWrong : ChangeSpec := { name := "fnExactBlendPrice", fn := fun _ => fun
  | [d1, d2] => { results := [.lit (.bool false)], args := [d1, d2] }
  | _ => none }
def FnExactBlendPriceWrongFalsely : Prop := fnExactBlendPriceRow.holds Try.pinned (OpenSpec.ofChange fnExactBlendPriceWrong)

/-- 'laws.FnExactBlendFault': WHATEVER THE INPUT: true; the input reads as it did. -/
def fnExactBlendFaultSpec : ChangeSpec := { name := "fnExactBlendFault", fn := fun _ => fun
  | [d1, d2, d3] => { results := [.lit (.bool true)], args := [d1, d2, d3] }
  | _ => none }
def fnExactBlendFaultRow : OpenClaim := { program := "ytlglijalhacmhab", sum := "6d14e92f3946a00cb88ce01999c07a10bdd9b8f3ef699c0fe7474262346fc108", func := "loop.example/g01042/laws.FnExactBlendFault", spec := "fnExactBlendFault", unfollowed := true, recurses := true, apart := false }
def FnExactBlendFaultSaid : Prop := fnExactBlendFaultRow.holds Try.pinned (OpenSpec.ofChange fnExactBlendFaultSpec)

/-- ITS FALSE NEIGHBOUR: 'it returns false'. Refute it at one input. -/
def fnExactBlendFaultWrong : ChangeSpec := { name := "fnExactBlendFault", fn := fun _ => fun
  | [d1, d2, d3] => { results := [.lit (.bool false)], args := [d1, d2, d3] }
  | _ => none }
def FnExactBlendFaultWrongFalsely : Prop := fnExactBlendFaultRow.holds Try.pinned (OpenSpec.ofChange fnExactBlendFaultWrong)

/-- 'laws.FnExactLeastParts': WHATEVER THE INPUT: true; the input reads as it did. -/
def fnExactLeastPartsSpec : ChangeSpec := { name := "fnExactLeastParts", fn := fun _ => fun
  | [d1, d2] => { results := [.lit (.bool true)], args := [d1, d2] }
  | _ => none }
def fnExactLeastPartsRow : OpenClaim := { program := "ytlglijalhacmhab", sum := "6d14e92f3946a00cb88ce01999c07a10bdd9b8f3ef699c0fe7474262346fc108", func := "loop.example/g01042/laws.FnExactLeastParts", spec := "fnExactLeastParts", apart := false }
def FnExactLeastPartsSaid : Prop := fnExactLeastPartsRow.holds Try.pinned (OpenSpec.ofChange fnExactLeastPartsSpec)

/-- ITS FALSE NEIGHBOUR: 'it returns false'. Refute it at one input. -/
def fnExactLeastPartsWrong : ChangeSpec := { name := "fnExactLeastParts", fn := fun _ => fun
  | [d1, d2] => { results := [.lit (.bool false)], args := [d1, d2] }
  | _ => none }
def FnExactLeastPartsWrongFalsely : Prop := fnExactLeastPartsRow.holds Try.pinned (OpenSpec.ofChange fnExactLeastPartsWrong)

/-- 'laws.FnExactBestGauge': WHATEVER THE INPUT: true; the input reads as it did. -/
def fnExactBestGaugeSpec : ChangeSpec := { name := "fnExactBestGauge", fn := fun _ => fun
  | [d1, d2, d3, d4, d5] => { results := [.lit (.bool true)], args := [d1, d2, d3, d4, d5] }
  | _ => none }
def fnExactBestGaugeRow : OpenClaim := { program := "ytlglijalhacmhab", sum := "6d14e92f3946a00cb88ce01999c07a10bdd9b8f3ef699c0fe7474262346fc108", func := "loop.example/g01042/laws.FnExactBestGauge", spec := "fnExactBestGauge", unfollowed := true, recurses := true, apart := false }
def FnExactBestGaugeSaid : Prop := fnExactBestGaugeRow.holds Try.pinned (OpenSpec.ofChange fnExactBestGaugeSpec)

/-- ITS FALSE NEIGHBOUR: 'it returns false'. Refute it at one input. -/
def fnExactBestGaugeWrong : ChangeSpec := { name := "fnExactBestGauge", fn := fun _ => fun
  | [d1, d2, d3, d4, d5] => { results := [.lit (.bool false)], args := [d1, d2, d3, d4, d5] }
  | _ => none }
def FnExactBestGaugeWrongFalsely : Prop := fnExactBestGaugeRow.holds Try.pinned (OpenSpec.ofChange fnExactBestGaugeWrong)

/-- 'laws.FnExactCheapestPacks': WHATEVER THE INPUT: true; the input reads as it did. -/
def fnExactCheapestPacksSpec : ChangeSpec := { name := "fnExactCheapestPacks", fn := fun _ => fun
  | [d1, d2, d3] => { results := [.lit (.bool true)], args := [d1, d2, d3] }
  | _ => none }
def fnExactCheapestPacksRow : OpenClaim := { program := "ytlglijalhacmhab", sum := "6d14e92f3946a00cb88ce01999c07a10bdd9b8f3ef699c0fe7474262346fc108", func := "loop.example/g01042/laws.FnExactCheapestPacks", spec := "fnExactCheapestPacks", apart := false }
def FnExactCheapestPacksSaid : Prop := fnExactCheapestPacksRow.holds Try.pinned (OpenSpec.ofChange fnExactCheapestPacksSpec)

/-- ITS FALSE NEIGHBOUR: 'it returns false'. Refute it at one input. -/
def fnExactCheapestPacksWrong : ChangeSpec := { name := "fnExactCheapestPacks", fn := fun _ => fun
  | [d1, d2, d3] => { results := [.lit (.bool false)], args := [d1, d2, d3] }
  | _ => none }
def FnExactCheapestPacksWrongFalsely : Prop := fnExactCheapestPacksRow.holds Try.pinned (OpenSpec.ofChange fnExactCheapestPacksWrong)

/-- 'laws.FnThrust': WHATEVER THE INPUT: true; the input reads as it did. -/
def fnThrustSpec : ChangeSpec := { name := "fnThrust", fn := fun _ => fun
  | [d1, d2] => { results := [.lit (.bool true)], args := [d1, d2] }
  | _ => none }
def fnThrustRow : OpenClaim := { program := "ytlglijalhacmhab", sum := "6d14e92f3946a00cb88ce01999c07a10bdd9b8f3ef699c0fe7474262346fc108", func := "loop.example/g01042/laws.FnThrust", spec := "fnThrust", inPlace := ["internal/reflectlite.ValueOf", "internal/reflectlite.Swapper", "(internal/reflectlite.Value).Len"], unfollowed := true, recurses := true, apart := false }
def FnThrustSaid : Prop := fnThrustRow.holds Try.pinned (OpenSpec.ofChange fnThrustSpec)

/-- ITS FALSE NEIGHBOUR: 'it returns false'. Refute it at one input. -/
def fnThrustWrong : ChangeSpec := { name := "fnThrust", fn := fun _ => fun
  | [d1, d2] => { results := [.lit (.bool false)], args := [d1, d2] }
  | _ => none }
def FnThrustWrongFalsely : Prop := fnThrustRow.holds Try.pinned (OpenSpec.ofChange fnThrustWrong)

/- THE SECOND FORM. 'bulk': how many values and letters a reading holds, each counted each time it is reached (what is shared counts as often as it is met; a slice's spare places count too). A statement '..UptoSaid' is the law's where the arguments, and the package variables that the reading takes, are together of bulk at most 1048576: NARROWER than '..Said'. Prove '..Said' where nothing that the law and all that it calls make is longer than what came in: it says more and counts as full. Else prove '..UptoSaid'. A law counts once. -/
mutual
def uptoBulk {H : Type} : DataW H → Nat
  | .lit (.string bytes) => bytes.length + 1
  | .lit _ => 1
  | .nil => 1
  | .ptr d => uptoBulk d + 1
  | .slice elems spare => uptoBulkAll elems + uptoBulkAll spare + 1
  | .agg parts => uptoBulkAll parts + 1
  | .iface _ d => uptoBulk d + 1
  | .map entries => uptoBulkEntries entries + 1
  | .held _ => 1
def uptoBulkAll {H : Type} : List (DataW H) → Nat
  | [] => 0
  | d :: r => uptoBulk d + uptoBulkAll r
def uptoBulkEntries {H : Type} : List (Lit × DataW H) → Nat
  | [] => 0
  | x :: r => uptoBulkEntry x + uptoBulkEntries r
def uptoBulkEntry {H : Type} : Lit × DataW H → Nat
  | (.string bytes, d) => bytes.length + uptoBulk d + 1
  | (_, d) => uptoBulk d + 1
 end
def uptoSmall : (H : Type) → List (DataW H) → Bool := fun _ ds => decide (uptoBulkAll ds ≤ 1048576)
def OpenSpec.upto (s : _root_.Go.ChangeSpec) : _root_.Go.OpenSpec := { _root_.Go.OpenSpec.ofChange s with cond := some uptoSmall }

/-- 'laws.FnExactShrinkOf', WHERE WHAT IT READS IS OF BULK AT MOST 1048576: true; the input reads as it did. -/
def fnExactShrinkOfUptoRow : OpenClaim := { program := "ytlglijalhacmhab", sum := "6d14e92f3946a00cb88ce01999c07a10bdd9b8f3ef699c0fe7474262346fc108", func := "loop.example/g01042/laws.FnExactShrinkOf", spec := "fnExactShrinkOf", unfollowed := true, recurses := true, apart := false, narrowed := true }
def FnExactShrinkOfUptoSaid : Prop := fnExactShrinkOfUptoRow.holds Try.pinned (OpenSpec.upto fnExactShrinkOfSpec)

/-- 'laws.FnExactLimeOf', WHERE WHAT IT READS IS OF BULK AT MOST 1048576: true; the input reads as it did. -/
def fnExactLimeOfUptoRow : OpenClaim := { program := "ytlglijalhacmhab", sum := "6d14e92f3946a00cb88ce01999c07a10bdd9b8f3ef699c0fe7474262346fc108", func := "loop.example/g01042/laws.FnExactLimeOf", spec := "fnExactLimeOf", unfollowed := true, recurses := true, apart := false, narrowed := true }
def FnExactLimeOfUptoSaid : Prop := fnExactLimeOfUptoRow.holds Try.pinned (OpenSpec.upto fnExactLimeOfSpec)

/-- 'laws.FnExactBlendPrice', WHERE WHAT IT READS IS OF BULK AT MOST 1048576: true; the input reads as it did. -/
def fnExactBlendPriceUptoRow : OpenClaim := { program := "ytlglijalhacmhab", sum := "6d14e92f3946a00cb88ce01999c07a10bdd9b8f3ef699c0fe7474262346fc108", func := "loop.example/g01042/laws.FnExactBlendPrice", spec := "fnExactBlendPrice", unfollowed := true, recurses := true, apart := false, narrowed := true }
def FnExactBlendPriceUptoSaid : Prop := fnExactBlendPriceUptoRow.holds Try.pinned (OpenSpec.upto fnExactBlendPriceSpec)

/-- 'laws.FnExactBlendFault', WHERE WHAT IT READS IS OF BULK AT MOST 1048576: true; the input reads as it did. -/
def fnExactBlendFaultUptoRow : OpenClaim := { program := "ytlglijalhacmhab", sum := "6d14e92f3946a00cb88ce01999c07a10bdd9b8f3ef699c0fe7474262346fc108", func := "loop.example/g01042/laws.FnExactBlendFault", spec := "fnExactBlendFault", unfollowed := true, recurses := true, apart := false, narrowed := true }
def FnExactBlendFaultUptoSaid : Prop := fnExactBlendFaultUptoRow.holds Try.pinned (OpenSpec.upto fnExactBlendFaultSpec)

/-- 'laws.FnExactLeastParts', WHERE WHAT IT READS IS OF BULK AT MOST 1048576: true; the input reads as it did. -/
def fnExactLeastPartsUptoRow : OpenClaim := { program := "ytlglijalhacmhab", sum := "6d14e92f3946a00cb88ce01999c07a10bdd9b8f3ef699c0fe7474262346fc108", func := "loop.example/g01042/laws.FnExactLeastParts", spec := "fnExactLeastParts", apart := false, narrowed := true }
def FnExactLeastPartsUptoSaid : Prop := fnExactLeastPartsUptoRow.holds Try.pinned (OpenSpec.upto fnExactLeastPartsSpec)

/-- 'laws.FnExactBestGauge', WHERE WHAT IT READS IS OF BULK AT MOST 1048576: true; the input reads as it did. -/
def fnExactBestGaugeUptoRow : OpenClaim := { program := "ytlglijalhacmhab", sum := "6d14e92f3946a00cb88ce01999c07a10bdd9b8f3ef699c0fe7474262346fc108", func := "loop.example/g01042/laws.FnExactBestGauge", spec := "fnExactBestGauge", unfollowed := true, recurses := true, apart := false, narrowed := true }
def FnExactBestGaugeUptoSaid : Prop := fnExactBestGaugeUptoRow.holds Try.pinned (OpenSpec.upto fnExactBestGaugeSpec)

/-- 'laws.FnExactCheapestPacks', WHERE WHAT IT READS IS OF BULK AT MOST 1048576: true; the input reads as it did. -/
def fnExactCheapestPacksUptoRow : OpenClaim := { program := "ytlglijalhacmhab", sum := "6d14e92f3946a00cb88ce01999c07a10bdd9b8f3ef699c0fe7474262346fc108", func := "loop.example/g01042/laws.FnExactCheapestPacks", spec := "fnExactCheapestPacks", apart := false, narrowed := true }
def FnExactCheapestPacksUptoSaid : Prop := fnExactCheapestPacksUptoRow.holds Try.pinned (OpenSpec.upto fnExactCheapestPacksSpec)

/-- 'laws.FnThrust', WHERE WHAT IT READS IS OF BULK AT MOST 1048576: true; the input reads as it did. -/
def fnThrustUptoRow : OpenClaim := { program := "ytlglijalhacmhab", sum := "6d14e92f3946a00cb88ce01999c07a10bdd9b8f3ef699c0fe7474262346fc108", func := "loop.example/g01042/laws.FnThrust", spec := "fnThrust", inPlace := ["internal/reflectlite.ValueOf", "internal/reflectlite.Swapper", "(internal/reflectlite.Value).Len"], unfollowed := true, recurses := true, apart := false, narrowed := true }
def FnThrustUptoSaid : Prop := fnThrustUptoRow.holds Try.pinned (OpenSpec.upto fnThrustSpec)

end Rows
end Go.Proofs.Ytlglijalhacmhab
