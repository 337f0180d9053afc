/-
  DERIVED. GIVEN WITH THE SEED: THE CARDS: each row of YtplggghhhgmebaaDoorRows.lean that lists a variable, with what it lists TIED to the program's text (the seventh form; the later family's looks); each row that meets fmt, with fmt's text TOLD by the authors' own Lean function (tested against real Go, not proved from fmt's source: count such statements apart). THE CARD IS WHAT COUNTS. Prove the row's statement (the work); the ties are given (YtplggghhhgmebaaDoorTie.lean); close each card by the builder's one call (the guide's Derived/Test/ToyasCard.lean, 'card_holds'). Laid BY PROGRAM, IN A SANDBOX (cutbox-door.mjs). By AI agents, Wed Nov 11 2026. No macro, syntax, notation, axiom, sorry.
-/
import Derived.Test.YtplggghhhgmebaaDoorRows
import GoSem.ClaimSeven
namespace Go.Proofs.YtplggghhhgmebaaDoor
namespace Rows

/-- THE TIED CARD OF 'laws.FnExactLapBetween'. -/
def fnExactLapBetweenCard : Claim7 := { stood := { row := fnExactLapBetweenRow, standIns := [], harness := (true, "32da179cae81cbc9159b15d76a2a5887f04ad98a5874f7f04f2b166c42f2598f"), looks := false }, kinds := [], alts := [], laidByText := true, laidKinds := [.data, .pinned], laidTests := true, laidLooks := .later }
def FnExactLapBetweenCardSaid : Prop := Claim7.holds Tryd.pinned (.plain (OpenSpec.ofChange fnExactLapBetweenSpec)) fnExactLapBetweenCard

/-- THE TIED CARD OF 'laws.FnExactLapOfBond'. -/
def fnExactLapOfBondCard : Claim7 := { stood := { row := fnExactLapOfBondRow, standIns := [], harness := (true, "32da179cae81cbc9159b15d76a2a5887f04ad98a5874f7f04f2b166c42f2598f"), looks := false }, kinds := [], alts := [], laidByText := true, laidKinds := [.data, .pinned], laidTests := true, laidLooks := .later }
def FnExactLapOfBondCardSaid : Prop := Claim7.holds Tryd.pinned (.plain (OpenSpec.ofChange fnExactLapOfBondSpec)) fnExactLapOfBondCard

/-- THE SECOND FORM's CARD OF 'laws.FnExactLapBetween'. -/
def fnExactLapBetweenUptoCard : Claim7 := { stood := { row := fnExactLapBetweenUptoRow, standIns := [], harness := (true, "32da179cae81cbc9159b15d76a2a5887f04ad98a5874f7f04f2b166c42f2598f"), looks := false }, kinds := [], alts := [], laidByText := true, laidKinds := [.data, .pinned], laidTests := true, laidLooks := .later }
def FnExactLapBetweenUptoCardSaid : Prop := Claim7.holds Tryd.pinned (.plain (OpenSpec.upto fnExactLapBetweenSpec)) fnExactLapBetweenUptoCard

/-- THE SECOND FORM's CARD OF 'laws.FnExactLapOfBond'. -/
def fnExactLapOfBondUptoCard : Claim7 := { stood := { row := fnExactLapOfBondUptoRow, standIns := [], harness := (true, "32da179cae81cbc9159b15d76a2a5887f04ad98a5874f7f04f2b166c42f2598f"), looks := false }, kinds := [], alts := [], laidByText := true, laidKinds := [.data, .pinned], laidTests := true, laidLooks := .later }
def FnExactLapOfBondUptoCardSaid : Prop := Claim7.holds Tryd.pinned (.plain (OpenSpec.upto fnExactLapOfBondSpec)) fnExactLapOfBondUptoCard
end Rows
end Go.Proofs.YtplggghhhgmebaaDoor
