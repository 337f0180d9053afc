/-
  DERIVED. GIVEN WITH THE SEED: THE CARDS: each row of YtgffgcobgjngnaaDoorRows.lean that lists a variable, with what it lists TIED to the program's text (the seventh form; the later family's looks); each row that meets fmt, with fmt's text TOLD by the authors' own Lean function (tested against real Go, not proved from fmt's source: count such statements apart). THE CARD IS WHAT COUNTS. Prove the row's statement (the work); the ties are given (YtgffgcobgjngnaaDoorTie.lean); close each card by the builder's one call (the guide's Derived/Test/ToyasCard.lean, 'card_holds'). Laid BY PROGRAM, IN A SANDBOX (cutbox-door.mjs). By AI agents, Wed Nov 11 2026. No macro, syntax, notation, axiom, sorry.
-/
import Derived.Test.YtgffgcobgjngnaaDoorRows
import GoSem.ClaimSeven
namespace Go.Proofs.YtgffgcobgjngnaaDoor
namespace Rows

/-- THE TIED CARD OF 'laws.FnExactBondNamed'. -/
def fnExactBondNamedCard : Claim7 := { stood := { row := fnExactBondNamedRow, standIns := [], harness := (true, "320c2c39cc49efd44880354863c06d2347d39c0aaa8b24e6151c400bbbcc7830"), looks := true }, kinds := [], alts := [], laidByText := true, laidKinds := [.data, .data, .pinned], laidTests := true, laidLooks := .later }
def FnExactBondNamedCardSaid : Prop := Claim7.holds Tryd.pinned (.plain (OpenSpec.ofChange fnExactBondNamedSpec)) fnExactBondNamedCard

/-- THE TIED CARD OF 'laws.FnExactCheckBond'. -/
def fnExactCheckBondCard : Claim7 := { stood := { row := fnExactCheckBondRow, standIns := [], harness := (true, "320c2c39cc49efd44880354863c06d2347d39c0aaa8b24e6151c400bbbcc7830"), looks := true }, kinds := [], alts := [], laidByText := true, laidKinds := [.data, .pinned], laidTests := true, laidLooks := .later }
def FnExactCheckBondCardSaid : Prop := Claim7.holds Tryd.pinned (.plain (OpenSpec.ofChange fnExactCheckBondSpec)) fnExactCheckBondCard

/-- THE TIED CARD OF 'laws.FnExactMouldText'. -/
def fnExactMouldTextCard : Claim7 := { stood := { row := fnExactMouldTextRow, standIns := [], harness := (true, "320c2c39cc49efd44880354863c06d2347d39c0aaa8b24e6151c400bbbcc7830"), looks := true }, kinds := [], alts := [], laidByText := true, laidKinds := [.data, .data, .data], laidTests := true, laidLooks := .later }
def FnExactMouldTextCardSaid : Prop := Claim7.holds Tryd.pinned (.plain (OpenSpec.ofChange fnExactMouldTextSpec)) fnExactMouldTextCard

/-- THE TIED CARD OF 'laws.FnExactReadMould'. -/
def fnExactReadMouldCard : Claim7 := { stood := { row := fnExactReadMouldRow, standIns := [], harness := (true, "320c2c39cc49efd44880354863c06d2347d39c0aaa8b24e6151c400bbbcc7830"), looks := true }, kinds := [], alts := [], laidByText := true, laidKinds := [.data, .data, .data, .data, .sentinel, .sentinel, .pinned], laidTests := true, laidLooks := .later }
def FnExactReadMouldCardSaid : Prop := Claim7.holds Tryd.pinned (.plain (OpenSpec.ofChange fnExactReadMouldSpec)) fnExactReadMouldCard

/-- THE TIED CARD OF 'laws.FnExactSizeFault'. -/
def fnExactSizeFaultCard : Claim7 := { stood := { row := fnExactSizeFaultRow, standIns := [], harness := (true, "320c2c39cc49efd44880354863c06d2347d39c0aaa8b24e6151c400bbbcc7830"), looks := true }, kinds := [], alts := [], laidByText := true, laidKinds := [.data], laidTests := true, laidLooks := .later }
def FnExactSizeFaultCardSaid : Prop := Claim7.holds Tryd.pinned (.plain (OpenSpec.ofChange fnExactSizeFaultSpec)) fnExactSizeFaultCard

/-- THE TIED CARD OF 'laws.FnExactFormatText'. -/
def fnExactFormatTextCard : Claim7 := { stood := { row := fnExactFormatTextRow, standIns := [], harness := (true, "320c2c39cc49efd44880354863c06d2347d39c0aaa8b24e6151c400bbbcc7830"), looks := true }, kinds := [], alts := [], laidByText := true, laidKinds := [.data, .data, .data], laidTests := true, laidLooks := .later }
def FnExactFormatTextCardSaid : Prop := Claim7.holds Tryd.pinned (.plain (OpenSpec.ofChange fnExactFormatTextSpec)) fnExactFormatTextCard

/-- THE SECOND FORM's CARD OF 'laws.FnExactBondNamed'. -/
def fnExactBondNamedUptoCard : Claim7 := { stood := { row := fnExactBondNamedUptoRow, standIns := [], harness := (true, "320c2c39cc49efd44880354863c06d2347d39c0aaa8b24e6151c400bbbcc7830"), looks := true }, kinds := [], alts := [], laidByText := true, laidKinds := [.data, .data, .pinned], laidTests := true, laidLooks := .later }
def FnExactBondNamedUptoCardSaid : Prop := Claim7.holds Tryd.pinned (.plain (OpenSpec.upto fnExactBondNamedSpec)) fnExactBondNamedUptoCard

/-- THE SECOND FORM's CARD OF 'laws.FnExactCheckBond'. -/
def fnExactCheckBondUptoCard : Claim7 := { stood := { row := fnExactCheckBondUptoRow, standIns := [], harness := (true, "320c2c39cc49efd44880354863c06d2347d39c0aaa8b24e6151c400bbbcc7830"), looks := true }, kinds := [], alts := [], laidByText := true, laidKinds := [.data, .pinned], laidTests := true, laidLooks := .later }
def FnExactCheckBondUptoCardSaid : Prop := Claim7.holds Tryd.pinned (.plain (OpenSpec.upto fnExactCheckBondSpec)) fnExactCheckBondUptoCard

/-- THE SECOND FORM's CARD OF 'laws.FnExactMouldText'. -/
def fnExactMouldTextUptoCard : Claim7 := { stood := { row := fnExactMouldTextUptoRow, standIns := [], harness := (true, "320c2c39cc49efd44880354863c06d2347d39c0aaa8b24e6151c400bbbcc7830"), looks := true }, kinds := [], alts := [], laidByText := true, laidKinds := [.data, .data, .data], laidTests := true, laidLooks := .later }
def FnExactMouldTextUptoCardSaid : Prop := Claim7.holds Tryd.pinned (.plain (OpenSpec.upto fnExactMouldTextSpec)) fnExactMouldTextUptoCard

/-- THE SECOND FORM's CARD OF 'laws.FnExactReadMould'. -/
def fnExactReadMouldUptoCard : Claim7 := { stood := { row := fnExactReadMouldUptoRow, standIns := [], harness := (true, "320c2c39cc49efd44880354863c06d2347d39c0aaa8b24e6151c400bbbcc7830"), looks := true }, kinds := [], alts := [], laidByText := true, laidKinds := [.data, .data, .data, .data, .sentinel, .sentinel, .pinned], laidTests := true, laidLooks := .later }
def FnExactReadMouldUptoCardSaid : Prop := Claim7.holds Tryd.pinned (.plain (OpenSpec.upto fnExactReadMouldSpec)) fnExactReadMouldUptoCard

/-- THE SECOND FORM's CARD OF 'laws.FnExactSizeFault'. -/
def fnExactSizeFaultUptoCard : Claim7 := { stood := { row := fnExactSizeFaultUptoRow, standIns := [], harness := (true, "320c2c39cc49efd44880354863c06d2347d39c0aaa8b24e6151c400bbbcc7830"), looks := true }, kinds := [], alts := [], laidByText := true, laidKinds := [.data], laidTests := true, laidLooks := .later }
def FnExactSizeFaultUptoCardSaid : Prop := Claim7.holds Tryd.pinned (.plain (OpenSpec.upto fnExactSizeFaultSpec)) fnExactSizeFaultUptoCard

/-- THE SECOND FORM's CARD OF 'laws.FnExactFormatText'. -/
def fnExactFormatTextUptoCard : Claim7 := { stood := { row := fnExactFormatTextUptoRow, standIns := [], harness := (true, "320c2c39cc49efd44880354863c06d2347d39c0aaa8b24e6151c400bbbcc7830"), looks := true }, kinds := [], alts := [], laidByText := true, laidKinds := [.data, .data, .data], laidTests := true, laidLooks := .later }
def FnExactFormatTextUptoCardSaid : Prop := Claim7.holds Tryd.pinned (.plain (OpenSpec.upto fnExactFormatTextSpec)) fnExactFormatTextUptoCard
end Rows
end Go.Proofs.YtgffgcobgjngnaaDoor
