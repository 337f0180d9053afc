/-
  No cell of these rows narrows 'for every input' (looked for: loops, veiled, ifaces, maps, wideKeys, modest, calm, conditions, laid).
  DERIVED. THE GIVEN ROWS OF THIS SEAT. 9 by the template 'for every input the law returns true; each argument reads behind the call as it read before'; 0 by the template 'total and deterministic' (their statements: YtmbmbkagmkmhlabTotals.lean).
  GIVEN WITH THE SEED: the statements are not yours to turn. If you find one false, say at which input.
  Laid BY PROGRAM, IN A SANDBOX (cutbox-rows.mjs): the forced cells as the released guide's own fill.sh prints them over the translation 6ab9048f54f546f9… (all of the seat's roots in one cut). By AI agents, Wed Nov 11 2026. No macro, syntax, notation, axiom, sorry.
-/
import Derived.Test.YtmbmbkagmkmhlabChecked
import GoSem.Claim
import GoSem.ClaimJoined
import GoSem.ClaimMapViews
import Derived.JoinedTies
import Derived.KernelRfl
namespace Go.Proofs.Ytmbmbkagmkmhlab
/- THE CELL 'sum', in the pinned program and in every row, IS THE sha256 OF THE DUMP (.gsa) THAT YtmbmbkagmkmhlabProg.lean LOADS. Nothing in Lean hashes anything: it is a label: what it is worth is what the hold of that sum in a sandbox is worth. -/
noncomputable def Try.pinned : Pinned := { name := "ytmbmbkagmkmhlab", sum := "6ab9048f54f546f98a8f7803deb1b050f4d13300e3b46b8a5b6bebec418796d2", checked := Try.checked }
namespace Rows
def none {H : Type} : Left H := { results := [], args := [] }

/-- 'laws.FnExactValidPieces': WHATEVER THE INPUT: true; the input reads as it did. -/
def fnExactValidPiecesSpec : ChangeSpec := { name := "fnExactValidPieces", fn := fun _ => fun
  | [d] => { results := [.lit (.bool true)], args := [d] }
  | _ => none }
def fnExactValidPiecesRow : OpenClaim := { program := "ytmbmbkagmkmhlab", sum := "6ab9048f54f546f98a8f7803deb1b050f4d13300e3b46b8a5b6bebec418796d2", func := "loop.example/g01042/laws.FnExactValidPieces", spec := "fnExactValidPieces", apart := false }
def FnExactValidPiecesSaid : Prop := fnExactValidPiecesRow.holds Try.pinned (OpenSpec.ofChange fnExactValidPiecesSpec)

/-- ITS FALSE NEIGHBOUR: 'it returns false'. Refute it at one input. -/
def fnExactValidPiecesWrong : ChangeSpec := { name := "fnExactValidPieces", fn := fun _ => fun
  | [d] => { results := [.lit (.bool false)], args := [d] }
  | _ => none }
def FnExactValidPiecesWrongFalsely : Prop := fnExactValidPiecesRow.holds Try.pinned (OpenSpec.ofChange fnExactValidPiecesWrong)

/-- 'laws.FnExactBricksOf': WHATEVER THE INPUT: true; the input reads as it did. -/
def fnExactBricksOfSpec : ChangeSpec := { name := "fnExactBricksOf", fn := fun _ => fun
  | [d1, d2] => { results := [.lit (.bool true)], args := [d1, d2] }
  | _ => none }
def fnExactBricksOfRow : OpenClaim := { program := "ytmbmbkagmkmhlab", sum := "6ab9048f54f546f98a8f7803deb1b050f4d13300e3b46b8a5b6bebec418796d2", func := "loop.example/g01042/laws.FnExactBricksOf", spec := "fnExactBricksOf", apart := false }
def FnExactBricksOfSaid : Prop := fnExactBricksOfRow.holds Try.pinned (OpenSpec.ofChange fnExactBricksOfSpec)

/-- ITS FALSE NEIGHBOUR: 'it returns false'. Refute it at one input. -/
def fnExactBricksOfWrong : ChangeSpec := { name := "fnExactBricksOf", fn := fun _ => fun
  | [d1, d2] => { results := [.lit (.bool false)], args := [d1, d2] }
  | _ => none }
def FnExactBricksOfWrongFalsely : Prop := fnExactBricksOfRow.holds Try.pinned (OpenSpec.ofChange fnExactBricksOfWrong)

/-- 'laws.FnExactBricksOfAll': WHATEVER THE INPUT: true; the input reads as it did. -/
def fnExactBricksOfAllSpec : ChangeSpec := { name := "fnExactBricksOfAll", fn := fun _ => fun
  | [d1, d2] => { results := [.lit (.bool true)], args := [d1, d2] }
  | _ => none }
def fnExactBricksOfAllRow : OpenClaim := { program := "ytmbmbkagmkmhlab", sum := "6ab9048f54f546f98a8f7803deb1b050f4d13300e3b46b8a5b6bebec418796d2", func := "loop.example/g01042/laws.FnExactBricksOfAll", spec := "fnExactBricksOfAll", apart := false }
def FnExactBricksOfAllSaid : Prop := fnExactBricksOfAllRow.holds Try.pinned (OpenSpec.ofChange fnExactBricksOfAllSpec)

/-- ITS FALSE NEIGHBOUR: 'it returns false'. Refute it at one input. -/
def fnExactBricksOfAllWrong : ChangeSpec := { name := "fnExactBricksOfAll", fn := fun _ => fun
  | [d1, d2] => { results := [.lit (.bool false)], args := [d1, d2] }
  | _ => none }
def FnExactBricksOfAllWrongFalsely : Prop := fnExactBricksOfAllRow.holds Try.pinned (OpenSpec.ofChange fnExactBricksOfAllWrong)

/-- 'laws.FnExactBricksForMetre': WHATEVER THE INPUT: true; the input reads as it did. -/
def fnExactBricksForMetreSpec : ChangeSpec := { name := "fnExactBricksForMetre", fn := fun _ => fun
  | [d] => { results := [.lit (.bool true)], args := [d] }
  | _ => none }
def fnExactBricksForMetreRow : OpenClaim := { program := "ytmbmbkagmkmhlab", sum := "6ab9048f54f546f98a8f7803deb1b050f4d13300e3b46b8a5b6bebec418796d2", func := "loop.example/g01042/laws.FnExactBricksForMetre", spec := "fnExactBricksForMetre", apart := false }
def FnExactBricksForMetreSaid : Prop := fnExactBricksForMetreRow.holds Try.pinned (OpenSpec.ofChange fnExactBricksForMetreSpec)

/-- ITS FALSE NEIGHBOUR: 'it returns false'. Refute it at one input. -/
def fnExactBricksForMetreWrong : ChangeSpec := { name := "fnExactBricksForMetre", fn := fun _ => fun
  | [d] => { results := [.lit (.bool false)], args := [d] }
  | _ => none }
def FnExactBricksForMetreWrongFalsely : Prop := fnExactBricksForMetreRow.holds Try.pinned (OpenSpec.ofChange fnExactBricksForMetreWrong)

/-- 'laws.FnExactWithWaste': WHATEVER THE INPUT: true; the input reads as it did. -/
def fnExactWithWasteSpec : ChangeSpec := { name := "fnExactWithWaste", fn := fun _ => fun
  | [d1, d2] => { results := [.lit (.bool true)], args := [d1, d2] }
  | _ => none }
def fnExactWithWasteRow : OpenClaim := { program := "ytmbmbkagmkmhlab", sum := "6ab9048f54f546f98a8f7803deb1b050f4d13300e3b46b8a5b6bebec418796d2", func := "loop.example/g01042/laws.FnExactWithWaste", spec := "fnExactWithWaste", apart := false }
def FnExactWithWasteSaid : Prop := fnExactWithWasteRow.holds Try.pinned (OpenSpec.ofChange fnExactWithWasteSpec)

/-- ITS FALSE NEIGHBOUR: 'it returns false'. Refute it at one input. -/
def fnExactWithWasteWrong : ChangeSpec := { name := "fnExactWithWaste", fn := fun _ => fun
  | [d1, d2] => { results := [.lit (.bool false)], args := [d1, d2] }
  | _ => none }
def FnExactWithWasteWrongFalsely : Prop := fnExactWithWasteRow.holds Try.pinned (OpenSpec.ofChange fnExactWithWasteWrong)

/-- 'laws.FnExactPacksFor': WHATEVER THE INPUT: true; the input reads as it did. -/
def fnExactPacksForSpec : ChangeSpec := { name := "fnExactPacksFor", fn := fun _ => fun
  | [d1, d2] => { results := [.lit (.bool true)], args := [d1, d2] }
  | _ => none }
def fnExactPacksForRow : OpenClaim := { program := "ytmbmbkagmkmhlab", sum := "6ab9048f54f546f98a8f7803deb1b050f4d13300e3b46b8a5b6bebec418796d2", func := "loop.example/g01042/laws.FnExactPacksFor", spec := "fnExactPacksFor", apart := false }
def FnExactPacksForSaid : Prop := fnExactPacksForRow.holds Try.pinned (OpenSpec.ofChange fnExactPacksForSpec)

/-- ITS FALSE NEIGHBOUR: 'it returns false'. Refute it at one input. -/
def fnExactPacksForWrong : ChangeSpec := { name := "fnExactPacksFor", fn := fun _ => fun
  | [d1, d2] => { results := [.lit (.bool false)], args := [d1, d2] }
  | _ => none }
def FnExactPacksForWrongFalsely : Prop := fnExactPacksForRow.holds Try.pinned (OpenSpec.ofChange fnExactPacksForWrong)

/-- 'laws.FnExactMortarFor': WHATEVER THE INPUT: true; the input reads as it did. -/
def fnExactMortarForSpec : ChangeSpec := { name := "fnExactMortarFor", fn := fun _ => fun
  | [d1, d2] => { results := [.lit (.bool true)], args := [d1, d2] }
  | _ => none }
def fnExactMortarForRow : OpenClaim := { program := "ytmbmbkagmkmhlab", sum := "6ab9048f54f546f98a8f7803deb1b050f4d13300e3b46b8a5b6bebec418796d2", func := "loop.example/g01042/laws.FnExactMortarFor", spec := "fnExactMortarFor", apart := false }
def FnExactMortarForSaid : Prop := fnExactMortarForRow.holds Try.pinned (OpenSpec.ofChange fnExactMortarForSpec)

/-- ITS FALSE NEIGHBOUR: 'it returns false'. Refute it at one input. -/
def fnExactMortarForWrong : ChangeSpec := { name := "fnExactMortarFor", fn := fun _ => fun
  | [d1, d2] => { results := [.lit (.bool false)], args := [d1, d2] }
  | _ => none }
def FnExactMortarForWrongFalsely : Prop := fnExactMortarForRow.holds Try.pinned (OpenSpec.ofChange fnExactMortarForWrong)

/-- 'laws.FnExactBagsFor': WHATEVER THE INPUT: true; the input reads as it did. -/
def fnExactBagsForSpec : ChangeSpec := { name := "fnExactBagsFor", fn := fun _ => fun
  | [d1, d2] => { results := [.lit (.bool true)], args := [d1, d2] }
  | _ => none }
def fnExactBagsForRow : OpenClaim := { program := "ytmbmbkagmkmhlab", sum := "6ab9048f54f546f98a8f7803deb1b050f4d13300e3b46b8a5b6bebec418796d2", func := "loop.example/g01042/laws.FnExactBagsFor", spec := "fnExactBagsFor", apart := false }
def FnExactBagsForSaid : Prop := fnExactBagsForRow.holds Try.pinned (OpenSpec.ofChange fnExactBagsForSpec)

/-- ITS FALSE NEIGHBOUR: 'it returns false'. Refute it at one input. -/
def fnExactBagsForWrong : ChangeSpec := { name := "fnExactBagsFor", fn := fun _ => fun
  | [d1, d2] => { results := [.lit (.bool false)], args := [d1, d2] }
  | _ => none }
def FnExactBagsForWrongFalsely : Prop := fnExactBagsForRow.holds Try.pinned (OpenSpec.ofChange fnExactBagsForWrong)

/-- 'laws.FnExactShareBricks': WHATEVER THE INPUT: true; the input reads as it did. -/
def fnExactShareBricksSpec : ChangeSpec := { name := "fnExactShareBricks", fn := fun _ => fun
  | [d1, d2, d3] => { results := [.lit (.bool true)], args := [d1, d2, d3] }
  | _ => none }
def fnExactShareBricksRow : OpenClaim := { program := "ytmbmbkagmkmhlab", sum := "6ab9048f54f546f98a8f7803deb1b050f4d13300e3b46b8a5b6bebec418796d2", func := "loop.example/g01042/laws.FnExactShareBricks", spec := "fnExactShareBricks", unfollowed := true, recurses := true, apart := false }
def FnExactShareBricksSaid : Prop := fnExactShareBricksRow.holds Try.pinned (OpenSpec.ofChange fnExactShareBricksSpec)

/-- ITS FALSE NEIGHBOUR: 'it returns false'. Refute it at one input. -/
def fnExactShareBricksWrong : ChangeSpec := { name := "fnExactShareBricks", fn := fun _ => fun
  | [d1, d2, d3] => { results := [.lit (.bool false)], args := [d1, d2, d3] }
  | _ => none }
def FnExactShareBricksWrongFalsely : Prop := fnExactShareBricksRow.holds Try.pinned (OpenSpec.ofChange fnExactShareBricksWrong)

/- THE SECOND FORM. 'bulk': how many values and letters a reading holds, each counted each time it is reached (what is shared counts as often as it is met; a slice's spare places count too). A statement '..UptoSaid' is the law's where the arguments, and the package variables that the reading takes, are together of bulk at most 1048576: NARROWER than '..Said'. Prove '..Said' where nothing that the law and all that it calls make is longer than what came in: it says more and counts as full. Else prove '..UptoSaid'. A law counts once. -/
mutual
def uptoBulk {H : Type} : DataW H → Nat
  | .lit (.string bytes) => bytes.length + 1
  | .lit _ => 1
  | .nil => 1
  | .ptr d => uptoBulk d + 1
  | .slice elems spare => uptoBulkAll elems + uptoBulkAll spare + 1
  | .agg parts => uptoBulkAll parts + 1
  | .iface _ d => uptoBulk d + 1
  | .map entries => uptoBulkEntries entries + 1
  | .held _ => 1
def uptoBulkAll {H : Type} : List (DataW H) → Nat
  | [] => 0
  | d :: r => uptoBulk d + uptoBulkAll r
def uptoBulkEntries {H : Type} : List (Lit × DataW H) → Nat
  | [] => 0
  | x :: r => uptoBulkEntry x + uptoBulkEntries r
def uptoBulkEntry {H : Type} : Lit × DataW H → Nat
  | (.string bytes, d) => bytes.length + uptoBulk d + 1
  | (_, d) => uptoBulk d + 1
 end
def uptoSmall : (H : Type) → List (DataW H) → Bool := fun _ ds => decide (uptoBulkAll ds ≤ 1048576)
def OpenSpec.upto (s : _root_.Go.ChangeSpec) : _root_.Go.OpenSpec := { _root_.Go.OpenSpec.ofChange s with cond := some uptoSmall }

/-- 'laws.FnExactValidPieces', WHERE WHAT IT READS IS OF BULK AT MOST 1048576: true; the input reads as it did. -/
def fnExactValidPiecesUptoRow : OpenClaim := { program := "ytmbmbkagmkmhlab", sum := "6ab9048f54f546f98a8f7803deb1b050f4d13300e3b46b8a5b6bebec418796d2", func := "loop.example/g01042/laws.FnExactValidPieces", spec := "fnExactValidPieces", apart := false, narrowed := true }
def FnExactValidPiecesUptoSaid : Prop := fnExactValidPiecesUptoRow.holds Try.pinned (OpenSpec.upto fnExactValidPiecesSpec)

/-- 'laws.FnExactBricksOf', WHERE WHAT IT READS IS OF BULK AT MOST 1048576: true; the input reads as it did. -/
def fnExactBricksOfUptoRow : OpenClaim := { program := "ytmbmbkagmkmhlab", sum := "6ab9048f54f546f98a8f7803deb1b050f4d13300e3b46b8a5b6bebec418796d2", func := "loop.example/g01042/laws.FnExactBricksOf", spec := "fnExactBricksOf", apart := false, narrowed := true }
def FnExactBricksOfUptoSaid : Prop := fnExactBricksOfUptoRow.holds Try.pinned (OpenSpec.upto fnExactBricksOfSpec)

/-- 'laws.FnExactBricksOfAll', WHERE WHAT IT READS IS OF BULK AT MOST 1048576: true; the input reads as it did. -/
def fnExactBricksOfAllUptoRow : OpenClaim := { program := "ytmbmbkagmkmhlab", sum := "6ab9048f54f546f98a8f7803deb1b050f4d13300e3b46b8a5b6bebec418796d2", func := "loop.example/g01042/laws.FnExactBricksOfAll", spec := "fnExactBricksOfAll", apart := false, narrowed := true }
def FnExactBricksOfAllUptoSaid : Prop := fnExactBricksOfAllUptoRow.holds Try.pinned (OpenSpec.upto fnExactBricksOfAllSpec)

/-- 'laws.FnExactBricksForMetre', WHERE WHAT IT READS IS OF BULK AT MOST 1048576: true; the input reads as it did. -/
def fnExactBricksForMetreUptoRow : OpenClaim := { program := "ytmbmbkagmkmhlab", sum := "6ab9048f54f546f98a8f7803deb1b050f4d13300e3b46b8a5b6bebec418796d2", func := "loop.example/g01042/laws.FnExactBricksForMetre", spec := "fnExactBricksForMetre", apart := false, narrowed := true }
def FnExactBricksForMetreUptoSaid : Prop := fnExactBricksForMetreUptoRow.holds Try.pinned (OpenSpec.upto fnExactBricksForMetreSpec)

/-- 'laws.FnExactWithWaste', WHERE WHAT IT READS IS OF BULK AT MOST 1048576: true; the input reads as it did. -/
def fnExactWithWasteUptoRow : OpenClaim := { program := "ytmbmbkagmkmhlab", sum := "6ab9048f54f546f98a8f7803deb1b050f4d13300e3b46b8a5b6bebec418796d2", func := "loop.example/g01042/laws.FnExactWithWaste", spec := "fnExactWithWaste", apart := false, narrowed := true }
def FnExactWithWasteUptoSaid : Prop := fnExactWithWasteUptoRow.holds Try.pinned (OpenSpec.upto fnExactWithWasteSpec)

/-- 'laws.FnExactPacksFor', WHERE WHAT IT READS IS OF BULK AT MOST 1048576: true; the input reads as it did. -/
def fnExactPacksForUptoRow : OpenClaim := { program := "ytmbmbkagmkmhlab", sum := "6ab9048f54f546f98a8f7803deb1b050f4d13300e3b46b8a5b6bebec418796d2", func := "loop.example/g01042/laws.FnExactPacksFor", spec := "fnExactPacksFor", apart := false, narrowed := true }
def FnExactPacksForUptoSaid : Prop := fnExactPacksForUptoRow.holds Try.pinned (OpenSpec.upto fnExactPacksForSpec)

/-- 'laws.FnExactMortarFor', WHERE WHAT IT READS IS OF BULK AT MOST 1048576: true; the input reads as it did. -/
def fnExactMortarForUptoRow : OpenClaim := { program := "ytmbmbkagmkmhlab", sum := "6ab9048f54f546f98a8f7803deb1b050f4d13300e3b46b8a5b6bebec418796d2", func := "loop.example/g01042/laws.FnExactMortarFor", spec := "fnExactMortarFor", apart := false, narrowed := true }
def FnExactMortarForUptoSaid : Prop := fnExactMortarForUptoRow.holds Try.pinned (OpenSpec.upto fnExactMortarForSpec)

/-- 'laws.FnExactBagsFor', WHERE WHAT IT READS IS OF BULK AT MOST 1048576: true; the input reads as it did. -/
def fnExactBagsForUptoRow : OpenClaim := { program := "ytmbmbkagmkmhlab", sum := "6ab9048f54f546f98a8f7803deb1b050f4d13300e3b46b8a5b6bebec418796d2", func := "loop.example/g01042/laws.FnExactBagsFor", spec := "fnExactBagsFor", apart := false, narrowed := true }
def FnExactBagsForUptoSaid : Prop := fnExactBagsForUptoRow.holds Try.pinned (OpenSpec.upto fnExactBagsForSpec)

/-- 'laws.FnExactShareBricks', WHERE WHAT IT READS IS OF BULK AT MOST 1048576: true; the input reads as it did. -/
def fnExactShareBricksUptoRow : OpenClaim := { program := "ytmbmbkagmkmhlab", sum := "6ab9048f54f546f98a8f7803deb1b050f4d13300e3b46b8a5b6bebec418796d2", func := "loop.example/g01042/laws.FnExactShareBricks", spec := "fnExactShareBricks", unfollowed := true, recurses := true, apart := false, narrowed := true }
def FnExactShareBricksUptoSaid : Prop := fnExactShareBricksUptoRow.holds Try.pinned (OpenSpec.upto fnExactShareBricksSpec)

end Rows
end Go.Proofs.Ytmbmbkagmkmhlab
