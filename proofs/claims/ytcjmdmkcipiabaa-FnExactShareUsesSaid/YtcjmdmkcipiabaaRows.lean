/-
  No cell of these rows narrows 'for every input' (looked for: loops, veiled, ifaces, maps, wideKeys, modest, calm, conditions, laid).
  DERIVED. THE GIVEN ROWS OF THIS SEAT. 2 by the template 'for every input the law returns true; each argument reads behind the call as it read before'; 0 by the template 'total and deterministic' (their statements: YtcjmdmkcipiabaaTotals.lean).
  GIVEN WITH THE SEED: the statements are not yours to turn. If you find one false, say at which input.
  Laid BY PROGRAM, IN A SANDBOX (cutbox-rows.mjs): the forced cells as the released guide's own fill.sh prints them over the translation 092be6e7b369256e… (all of the seat's roots in one cut). By AI agents, Wed Nov 11 2026. No macro, syntax, notation, axiom, sorry.
-/
import Derived.Test.YtcjmdmkcipiabaaChecked
import GoSem.Claim
import GoSem.ClaimJoined
import GoSem.ClaimMapViews
import Derived.JoinedTies
import Derived.KernelRfl
namespace Go.Proofs.Ytcjmdmkcipiabaa
/- THE CELL 'sum', in the pinned program and in every row, IS THE sha256 OF THE DUMP (.gsa) THAT YtcjmdmkcipiabaaProg.lean LOADS. Nothing in Lean hashes anything: it is a label: what it is worth is what the hold of that sum in a sandbox is worth. -/
noncomputable def Try.pinned : Pinned := { name := "ytcjmdmkcipiabaa", sum := "092be6e7b369256ea4e0ca976f6f1140ef2af75e58544211c12aa7b72f9475d7", checked := Try.checked }
namespace Rows
def none {H : Type} : Left H := { results := [], args := [] }

/-- 'laws.FnExactBestMould': WHATEVER THE INPUT: true; the input reads as it did. -/
def fnExactBestMouldSpec : ChangeSpec := { name := "fnExactBestMould", fn := fun _ => fun
  | [d1, d2, d3] => { results := [.lit (.bool true)], args := [d1, d2, d3] }
  | _ => none }
def fnExactBestMouldRow : OpenClaim := { program := "ytcjmdmkcipiabaa", sum := "092be6e7b369256ea4e0ca976f6f1140ef2af75e58544211c12aa7b72f9475d7", func := "loop.example/g01042/laws.FnExactBestMould", spec := "fnExactBestMould", unfollowed := true, recurses := true, apart := false }
def FnExactBestMouldSaid : Prop := fnExactBestMouldRow.holds Try.pinned (OpenSpec.ofChange fnExactBestMouldSpec)

/-- ITS FALSE NEIGHBOUR: 'it returns false'. Refute it at one input. -/
def fnExactBestMouldWrong : ChangeSpec := { name := "fnExactBestMould", fn := fun _ => fun
  | [d1, d2, d3] => { results := [.lit (.bool false)], args := [d1, d2, d3] }
  | _ => none }
def FnExactBestMouldWrongFalsely : Prop := fnExactBestMouldRow.holds Try.pinned (OpenSpec.ofChange fnExactBestMouldWrong)

/-- 'laws.FnExactShareUses': WHATEVER THE INPUT: true; the input reads as it did. -/
def fnExactShareUsesSpec : ChangeSpec := { name := "fnExactShareUses", fn := fun _ => fun
  | [d1, d2] => { results := [.lit (.bool true)], args := [d1, d2] }
  | _ => none }
def fnExactShareUsesRow : OpenClaim := { program := "ytcjmdmkcipiabaa", sum := "092be6e7b369256ea4e0ca976f6f1140ef2af75e58544211c12aa7b72f9475d7", func := "loop.example/g01042/laws.FnExactShareUses", spec := "fnExactShareUses", unfollowed := true, recurses := true, apart := false }
def FnExactShareUsesSaid : Prop := fnExactShareUsesRow.holds Try.pinned (OpenSpec.ofChange fnExactShareUsesSpec)

/-- ITS FALSE NEIGHBOUR: 'it returns false'. Refute it at one input. -/
def fnExactShareUsesWrong : ChangeSpec := { name := "fnExactShareUses", fn := fun _ => fun
  | [d1, d2] => { results := [.lit (.bool false)], args := [d1, d2] }
  | _ => none }
def FnExactShareUsesWrongFalsely : Prop := fnExactShareUsesRow.holds Try.pinned (OpenSpec.ofChange fnExactShareUsesWrong)

/- THE SECOND FORM. 'bulk': how many values and letters a reading holds, each counted each time it is reached (what is shared counts as often as it is met; a slice's spare places count too). A statement '..UptoSaid' is the law's where the arguments, and the package variables that the reading takes, are together of bulk at most 1048576: NARROWER than '..Said'. Prove '..Said' where nothing that the law and all that it calls make is longer than what came in: it says more and counts as full. Else prove '..UptoSaid'. A law counts once. -/
mutual
def uptoBulk {H : Type} : DataW H → Nat
  | .lit (.string bytes) => bytes.length + 1
  | .lit _ => 1
  | .nil => 1
  | .ptr d => uptoBulk d + 1
  | .slice elems spare => uptoBulkAll elems + uptoBulkAll spare + 1
  | .agg parts => uptoBulkAll parts + 1
  | .iface _ d => uptoBulk d + 1
  | .map entries => uptoBulkEntries entries + 1
  | .held _ => 1
def uptoBulkAll {H : Type} : List (DataW H) → Nat
  | [] => 0
  | d :: r => uptoBulk d + uptoBulkAll r
def uptoBulkEntries {H : Type} : List (Lit × DataW H) → Nat
  | [] => 0
  | x :: r => uptoBulkEntry x + uptoBulkEntries r
def uptoBulkEntry {H : Type} : Lit × DataW H → Nat
  | (.string bytes, d) => bytes.length + uptoBulk d + 1
  | (_, d) => uptoBulk d + 1
 end
def uptoSmall : (H : Type) → List (DataW H) → Bool := fun _ ds => decide (uptoBulkAll ds ≤ 1048576)
def OpenSpec.upto (s : _root_.Go.ChangeSpec) : _root_.Go.OpenSpec := { _root_.Go.OpenSpec.ofChange s with cond := some uptoSmall }

/-- 'laws.FnExactBestMould', WHERE WHAT IT READS IS OF BULK AT MOST 1048576: true; the input reads as it did. -/
def fnExactBestMouldUptoRow : OpenClaim := { program := "ytcjmdmkcipiabaa", sum := "092be6e7b369256ea4e0ca976f6f1140ef2af75e58544211c12aa7b72f9475d7", func := "loop.example/g01042/laws.FnExactBestMould", spec := "fnExactBestMould", unfollowed := true, recurses := true, apart := false, narrowed := true }
def FnExactBestMouldUptoSaid : Prop := fnExactBestMouldUptoRow.holds Try.pinned (OpenSpec.upto fnExactBestMouldSpec)

/-- 'laws.FnExactShareUses', WHERE WHAT IT READS IS OF BULK AT MOST 1048576: true; the input reads as it did. -/
def fnExactShareUsesUptoRow : OpenClaim := { program := "ytcjmdmkcipiabaa", sum := "092be6e7b369256ea4e0ca976f6f1140ef2af75e58544211c12aa7b72f9475d7", func := "loop.example/g01042/laws.FnExactShareUses", spec := "fnExactShareUses", unfollowed := true, recurses := true, apart := false, narrowed := true }
def FnExactShareUsesUptoSaid : Prop := fnExactShareUsesUptoRow.holds Try.pinned (OpenSpec.upto fnExactShareUsesSpec)

end Rows
end Go.Proofs.Ytcjmdmkcipiabaa
