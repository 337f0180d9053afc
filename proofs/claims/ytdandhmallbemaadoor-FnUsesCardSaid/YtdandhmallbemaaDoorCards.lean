/-
  DERIVED. GIVEN WITH THE SEED: THE CARDS: each row of YtdandhmallbemaaDoorRows.lean that lists a variable, with what it lists TIED to the program's text (the seventh form; the later family's looks); each row that meets fmt, with fmt's text TOLD by the authors' own Lean function (tested against real Go, not proved from fmt's source: count such statements apart). THE CARD IS WHAT COUNTS. Prove the row's statement (the work); the ties are given (YtdandhmallbemaaDoorTie.lean); close each card by the builder's one call (the guide's Derived/Test/ToyasCard.lean, 'card_holds'). Laid BY PROGRAM, IN A SANDBOX (cutbox-door.mjs). By AI agents, Wed Nov 11 2026. No macro, syntax, notation, axiom, sorry.
-/
import Derived.Test.YtdandhmallbemaaDoorRows
import GoSem.ClaimSeven
namespace Go.Proofs.YtdandhmallbemaaDoor
namespace Rows

/-- THE TIED CARD OF 'laws.FnUses'. -/
def fnUsesCard : Claim7 := { stood := { row := fnUsesRow, standIns := [], harness := (true, "398dd93e40eaca560bde6f9ccc1d875509b96a216320eb25dcbfeafe424edad1"), looks := true }, kinds := [], alts := [], laidByText := true, laidKinds := [.data], laidTests := true, laidLooks := .later }
def FnUsesCardSaid : Prop := Claim7.holds Tryd.pinned (.plain (OpenSpec.ofChange fnUsesSpec)) fnUsesCard

/-- THE SECOND FORM's CARD OF 'laws.FnUses'. -/
def fnUsesUptoCard : Claim7 := { stood := { row := fnUsesUptoRow, standIns := [], harness := (true, "398dd93e40eaca560bde6f9ccc1d875509b96a216320eb25dcbfeafe424edad1"), looks := true }, kinds := [], alts := [], laidByText := true, laidKinds := [.data], laidTests := true, laidLooks := .later }
def FnUsesUptoCardSaid : Prop := Claim7.holds Tryd.pinned (.plain (OpenSpec.upto fnUsesSpec)) fnUsesUptoCard
end Rows
end Go.Proofs.YtdandhmallbemaaDoor
