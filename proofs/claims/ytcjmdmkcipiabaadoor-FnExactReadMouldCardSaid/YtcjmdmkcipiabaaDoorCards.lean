/-
  DERIVED. GIVEN WITH THE SEED: THE CARDS: each row of YtcjmdmkcipiabaaDoorRows.lean that lists a variable, with what it lists TIED to the program's text (the seventh form; the later family's looks); each row that meets fmt, with fmt's text TOLD by the authors' own Lean function (tested against real Go, not proved from fmt's source: count such statements apart). THE CARD IS WHAT COUNTS. Prove the row's statement (the work); the ties are given (YtcjmdmkcipiabaaDoorTie.lean); close each card by the builder's one call (the guide's Derived/Test/ToyasCard.lean, 'card_holds'). Laid BY PROGRAM, IN A SANDBOX (cutbox-door.mjs). By AI agents, Wed Nov 11 2026. No macro, syntax, notation, axiom, sorry.
-/
import Derived.Test.YtcjmdmkcipiabaaDoorRows
import GoSem.ClaimSeven
namespace Go.Proofs.YtcjmdmkcipiabaaDoor
namespace Rows

/-- THE TIED CARD OF 'laws.FnExactReadMould'. -/
def fnExactReadMouldCard : Claim7 := { stood := { row := fnExactReadMouldRow, standIns := [], harness := (true, "f1017a3a4f2ac5450c466aa4c2c286c0f9f11b2a2ceb41e1a841477a16dc1825"), looks := true }, kinds := [], alts := [], laidByText := true, laidKinds := [.data, .data, .data, .data, .sentinel, .sentinel, .pinned], laidTests := true, laidLooks := .later }
def FnExactReadMouldCardSaid : Prop := Claim7.holds Tryd.pinned (.plain (OpenSpec.ofChange fnExactReadMouldSpec)) fnExactReadMouldCard

/-- THE TIED CARD OF 'laws.FnUses'. -/
def fnUsesCard : Claim7 := { stood := { row := fnUsesRow, standIns := [], harness := (true, "f1017a3a4f2ac5450c466aa4c2c286c0f9f11b2a2ceb41e1a841477a16dc1825"), looks := true }, kinds := [], alts := [], laidByText := true, laidKinds := [.data], laidTests := true, laidLooks := .later }
def FnUsesCardSaid : Prop := Claim7.holds Tryd.pinned (.plain (OpenSpec.ofChange fnUsesSpec)) fnUsesCard

/-- THE SECOND FORM's CARD OF 'laws.FnExactReadMould'. -/
def fnExactReadMouldUptoCard : Claim7 := { stood := { row := fnExactReadMouldUptoRow, standIns := [], harness := (true, "f1017a3a4f2ac5450c466aa4c2c286c0f9f11b2a2ceb41e1a841477a16dc1825"), looks := true }, kinds := [], alts := [], laidByText := true, laidKinds := [.data, .data, .data, .data, .sentinel, .sentinel, .pinned], laidTests := true, laidLooks := .later }
def FnExactReadMouldUptoCardSaid : Prop := Claim7.holds Tryd.pinned (.plain (OpenSpec.upto fnExactReadMouldSpec)) fnExactReadMouldUptoCard

/-- THE SECOND FORM's CARD OF 'laws.FnUses'. -/
def fnUsesUptoCard : Claim7 := { stood := { row := fnUsesUptoRow, standIns := [], harness := (true, "f1017a3a4f2ac5450c466aa4c2c286c0f9f11b2a2ceb41e1a841477a16dc1825"), looks := true }, kinds := [], alts := [], laidByText := true, laidKinds := [.data], laidTests := true, laidLooks := .later }
def FnUsesUptoCardSaid : Prop := Claim7.holds Tryd.pinned (.plain (OpenSpec.upto fnUsesSpec)) fnUsesUptoCard
end Rows
end Go.Proofs.YtcjmdmkcipiabaaDoor
