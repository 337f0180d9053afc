/-
  DERIVED. GIVEN WITH THE SEED: THE CARDS: each row of YtllcpgogfhjfpaaDoorRows.lean that lists a variable, with what it lists TIED to the program's text (the seventh form; the later family's looks); each row that meets fmt, with fmt's text TOLD by the authors' own Lean function (tested against real Go, not proved from fmt's source: count such statements apart). THE CARD IS WHAT COUNTS. Prove the row's statement (the work); the ties are given (YtllcpgogfhjfpaaDoorTie.lean); close each card by the builder's one call (the guide's Derived/Test/ToyasCard.lean, 'card_holds'). Laid BY PROGRAM, IN A SANDBOX (cutbox-door.mjs). By AI agents, Wed Nov 11 2026. No macro, syntax, notation, axiom, sorry.
-/
import Derived.Test.YtllcpgogfhjfpaaDoorRows
import GoSem.ClaimSeven
namespace Go.Proofs.YtllcpgogfhjfpaaDoor
namespace Rows

/-- THE TIED CARD OF 'laws.FnExactFirstClash'. -/
def fnExactFirstClashCard : Claim7 := { stood := { row := fnExactFirstClashRow, standIns := [], harness := (true, "1e1ac6c6f63fdeb60651deafe822730178a3f3145696397106dfd4e209da3c2b"), looks := true }, kinds := [], alts := [], laidByText := true, laidKinds := [.data, .pinned], laidTests := true, laidLooks := .later }
def FnExactFirstClashCardSaid : Prop := Claim7.holds Tryd.pinned (.plain (OpenSpec.ofChange fnExactFirstClashSpec)) fnExactFirstClashCard

/-- THE TIED CARD OF 'laws.FnExactIsBonded'. -/
def fnExactIsBondedCard : Claim7 := { stood := { row := fnExactIsBondedRow, standIns := [], harness := (true, "1e1ac6c6f63fdeb60651deafe822730178a3f3145696397106dfd4e209da3c2b"), looks := true }, kinds := [], alts := [], laidByText := true, laidKinds := [.data, .pinned], laidTests := true, laidLooks := .later }
def FnExactIsBondedCardSaid : Prop := Claim7.holds Tryd.pinned (.plain (OpenSpec.ofChange fnExactIsBondedSpec)) fnExactIsBondedCard

/-- THE TIED CARD OF 'laws.FnExactIsSimple'. -/
def fnExactIsSimpleCard : Claim7 := { stood := { row := fnExactIsSimpleRow, standIns := [], harness := (true, "1e1ac6c6f63fdeb60651deafe822730178a3f3145696397106dfd4e209da3c2b"), looks := true }, kinds := [], alts := [], laidByText := true, laidKinds := [.data, .data, .pinned], laidTests := true, laidLooks := .later }
def FnExactIsSimpleCardSaid : Prop := Claim7.holds Tryd.pinned (.plain (OpenSpec.ofChange fnExactIsSimpleSpec)) fnExactIsSimpleCard

/-- THE TIED CARD OF 'laws.FnExactTurnHouse'. -/
def fnExactTurnHouseCard : Claim7 := { stood := { row := fnExactTurnHouseRow, standIns := [], harness := (true, "1e1ac6c6f63fdeb60651deafe822730178a3f3145696397106dfd4e209da3c2b"), looks := true }, kinds := [], alts := [], laidByText := true, laidKinds := [.data, .data, .pinned], laidTests := true, laidLooks := .later }
def FnExactTurnHouseCardSaid : Prop := Claim7.holds Tryd.pinned (.plain (OpenSpec.ofChange fnExactTurnHouseSpec)) fnExactTurnHouseCard

/-- THE TIED CARD OF 'laws.FnExactReadHouse'. -/
def fnExactReadHouseCard : Claim7 := { stood := { row := fnExactReadHouseRow, standIns := [], harness := (true, "1e1ac6c6f63fdeb60651deafe822730178a3f3145696397106dfd4e209da3c2b"), looks := true }, kinds := [], alts := [], laidByText := true, laidKinds := [.data, .data, .data, .data, .sentinel, .sentinel, .data, .pinned], laidTests := true, laidLooks := .later }
def FnExactReadHouseCardSaid : Prop := Claim7.holds Tryd.pinned (.plain (OpenSpec.ofChange fnExactReadHouseSpec)) fnExactReadHouseCard

/-- THE TIED CARD OF 'laws.FnExactWallOf'. -/
def fnExactWallOfCard : Claim7 := { stood := { row := fnExactWallOfRow, standIns := [], harness := (true, "1e1ac6c6f63fdeb60651deafe822730178a3f3145696397106dfd4e209da3c2b"), looks := true }, kinds := [], alts := [], laidByText := true, laidKinds := [.data, .pinned], laidTests := true, laidLooks := .later }
def FnExactWallOfCardSaid : Prop := Claim7.holds Tryd.pinned (.plain (OpenSpec.ofChange fnExactWallOfSpec)) fnExactWallOfCard

/-- THE TIED CARD OF 'laws.FnExactWastedQuarters'. -/
def fnExactWastedQuartersCard : Claim7 := { stood := { row := fnExactWastedQuartersRow, standIns := [], harness := (true, "1e1ac6c6f63fdeb60651deafe822730178a3f3145696397106dfd4e209da3c2b"), looks := true }, kinds := [], alts := [], laidByText := true, laidKinds := [.data, .pinned], laidTests := true, laidLooks := .later }
def FnExactWastedQuartersCardSaid : Prop := Claim7.holds Tryd.pinned (.plain (OpenSpec.ofChange fnExactWastedQuartersSpec)) fnExactWastedQuartersCard

/-- THE SECOND FORM's CARD OF 'laws.FnExactFirstClash'. -/
def fnExactFirstClashUptoCard : Claim7 := { stood := { row := fnExactFirstClashUptoRow, standIns := [], harness := (true, "1e1ac6c6f63fdeb60651deafe822730178a3f3145696397106dfd4e209da3c2b"), looks := true }, kinds := [], alts := [], laidByText := true, laidKinds := [.data, .pinned], laidTests := true, laidLooks := .later }
def FnExactFirstClashUptoCardSaid : Prop := Claim7.holds Tryd.pinned (.plain (OpenSpec.upto fnExactFirstClashSpec)) fnExactFirstClashUptoCard

/-- THE SECOND FORM's CARD OF 'laws.FnExactIsBonded'. -/
def fnExactIsBondedUptoCard : Claim7 := { stood := { row := fnExactIsBondedUptoRow, standIns := [], harness := (true, "1e1ac6c6f63fdeb60651deafe822730178a3f3145696397106dfd4e209da3c2b"), looks := true }, kinds := [], alts := [], laidByText := true, laidKinds := [.data, .pinned], laidTests := true, laidLooks := .later }
def FnExactIsBondedUptoCardSaid : Prop := Claim7.holds Tryd.pinned (.plain (OpenSpec.upto fnExactIsBondedSpec)) fnExactIsBondedUptoCard

/-- THE SECOND FORM's CARD OF 'laws.FnExactIsSimple'. -/
def fnExactIsSimpleUptoCard : Claim7 := { stood := { row := fnExactIsSimpleUptoRow, standIns := [], harness := (true, "1e1ac6c6f63fdeb60651deafe822730178a3f3145696397106dfd4e209da3c2b"), looks := true }, kinds := [], alts := [], laidByText := true, laidKinds := [.data, .data, .pinned], laidTests := true, laidLooks := .later }
def FnExactIsSimpleUptoCardSaid : Prop := Claim7.holds Tryd.pinned (.plain (OpenSpec.upto fnExactIsSimpleSpec)) fnExactIsSimpleUptoCard

/-- THE SECOND FORM's CARD OF 'laws.FnExactTurnHouse'. -/
def fnExactTurnHouseUptoCard : Claim7 := { stood := { row := fnExactTurnHouseUptoRow, standIns := [], harness := (true, "1e1ac6c6f63fdeb60651deafe822730178a3f3145696397106dfd4e209da3c2b"), looks := true }, kinds := [], alts := [], laidByText := true, laidKinds := [.data, .data, .pinned], laidTests := true, laidLooks := .later }
def FnExactTurnHouseUptoCardSaid : Prop := Claim7.holds Tryd.pinned (.plain (OpenSpec.upto fnExactTurnHouseSpec)) fnExactTurnHouseUptoCard

/-- THE SECOND FORM's CARD OF 'laws.FnExactReadHouse'. -/
def fnExactReadHouseUptoCard : Claim7 := { stood := { row := fnExactReadHouseUptoRow, standIns := [], harness := (true, "1e1ac6c6f63fdeb60651deafe822730178a3f3145696397106dfd4e209da3c2b"), looks := true }, kinds := [], alts := [], laidByText := true, laidKinds := [.data, .data, .data, .data, .sentinel, .sentinel, .data, .pinned], laidTests := true, laidLooks := .later }
def FnExactReadHouseUptoCardSaid : Prop := Claim7.holds Tryd.pinned (.plain (OpenSpec.upto fnExactReadHouseSpec)) fnExactReadHouseUptoCard

/-- THE SECOND FORM's CARD OF 'laws.FnExactWallOf'. -/
def fnExactWallOfUptoCard : Claim7 := { stood := { row := fnExactWallOfUptoRow, standIns := [], harness := (true, "1e1ac6c6f63fdeb60651deafe822730178a3f3145696397106dfd4e209da3c2b"), looks := true }, kinds := [], alts := [], laidByText := true, laidKinds := [.data, .pinned], laidTests := true, laidLooks := .later }
def FnExactWallOfUptoCardSaid : Prop := Claim7.holds Tryd.pinned (.plain (OpenSpec.upto fnExactWallOfSpec)) fnExactWallOfUptoCard

/-- THE SECOND FORM's CARD OF 'laws.FnExactWastedQuarters'. -/
def fnExactWastedQuartersUptoCard : Claim7 := { stood := { row := fnExactWastedQuartersUptoRow, standIns := [], harness := (true, "1e1ac6c6f63fdeb60651deafe822730178a3f3145696397106dfd4e209da3c2b"), looks := true }, kinds := [], alts := [], laidByText := true, laidKinds := [.data, .pinned], laidTests := true, laidLooks := .later }
def FnExactWastedQuartersUptoCardSaid : Prop := Claim7.holds Tryd.pinned (.plain (OpenSpec.upto fnExactWastedQuartersSpec)) fnExactWastedQuartersUptoCard
end Rows
end Go.Proofs.YtllcpgogfhjfpaaDoor
