/-
  DERIVED. GIVEN WITH THE SEED: THE CARDS: each row of YtnkaafpdlmmdfaaDoorRows.lean that lists a variable, with what it lists TIED to the program's text (the seventh form; the later family's looks); each row that meets fmt, with fmt's text TOLD by the authors' own Lean function (tested against real Go, not proved from fmt's source: count such statements apart). THE CARD IS WHAT COUNTS. Prove the row's statement (the work); the ties are given (YtnkaafpdlmmdfaaDoorTie.lean); close each card by the builder's one call (the guide's Derived/Test/ToyasCard.lean, 'card_holds'). Laid BY PROGRAM, IN A SANDBOX (cutbox-door.mjs). By AI agents, Wed Nov 11 2026. No macro, syntax, notation, axiom, sorry.
-/
import Derived.Test.YtnkaafpdlmmdfaaDoorRows
import GoSem.ClaimSeven
namespace Go.Proofs.YtnkaafpdlmmdfaaDoor
namespace Rows

/-- THE TIED CARD OF 'laws.FnExactValidBond'. -/
def fnExactValidBondCard : Claim7 := { stood := { row := fnExactValidBondRow, standIns := [], harness := (true, "22b663453ff0068858c66bfda3ba3e5533fac6a56f80b37b3c78aead66b6dab5"), looks := true }, kinds := [], alts := [], laidByText := true, laidKinds := [.data, .pinned], laidTests := true, laidLooks := .later }
def FnExactValidBondCardSaid : Prop := Claim7.holds Tryd.pinned (.plain (OpenSpec.ofChange fnExactValidBondSpec)) fnExactValidBondCard

/-- THE TIED CARD OF 'laws.FnExactPerpendsOf'. -/
def fnExactPerpendsOfCard : Claim7 := { stood := { row := fnExactPerpendsOfRow, standIns := [], harness := (true, "22b663453ff0068858c66bfda3ba3e5533fac6a56f80b37b3c78aead66b6dab5"), looks := true }, kinds := [], alts := [], laidByText := true, laidKinds := [.data, .pinned], laidTests := true, laidLooks := .later }
def FnExactPerpendsOfCardSaid : Prop := Claim7.holds Tryd.pinned (.plain (OpenSpec.ofChange fnExactPerpendsOfSpec)) fnExactPerpendsOfCard

/-- THE TIED CARD OF 'laws.FnExactLapBetween'. -/
def fnExactLapBetweenCard : Claim7 := { stood := { row := fnExactLapBetweenRow, standIns := [], harness := (true, "22b663453ff0068858c66bfda3ba3e5533fac6a56f80b37b3c78aead66b6dab5"), looks := true }, kinds := [], alts := [], laidByText := true, laidKinds := [.data, .pinned], laidTests := true, laidLooks := .later }
def FnExactLapBetweenCardSaid : Prop := Claim7.holds Tryd.pinned (.plain (OpenSpec.ofChange fnExactLapBetweenSpec)) fnExactLapBetweenCard

/-- THE TIED CARD OF 'laws.FnExactLapOfBond'. -/
def fnExactLapOfBondCard : Claim7 := { stood := { row := fnExactLapOfBondRow, standIns := [], harness := (true, "22b663453ff0068858c66bfda3ba3e5533fac6a56f80b37b3c78aead66b6dab5"), looks := true }, kinds := [], alts := [], laidByText := true, laidKinds := [.data, .pinned], laidTests := true, laidLooks := .later }
def FnExactLapOfBondCardSaid : Prop := Claim7.holds Tryd.pinned (.plain (OpenSpec.ofChange fnExactLapOfBondSpec)) fnExactLapOfBondCard

/-- THE TIED CARD OF 'laws.FnExactHeadersIn'. -/
def fnExactHeadersInCard : Claim7 := { stood := { row := fnExactHeadersInRow, standIns := [], harness := (true, "22b663453ff0068858c66bfda3ba3e5533fac6a56f80b37b3c78aead66b6dab5"), looks := true }, kinds := [], alts := [], laidByText := true, laidKinds := [.data, .pinned], laidTests := true, laidLooks := .later }
def FnExactHeadersInCardSaid : Prop := Claim7.holds Tryd.pinned (.plain (OpenSpec.ofChange fnExactHeadersInSpec)) fnExactHeadersInCard

/-- THE TIED CARD OF 'laws.FnExactBondNamed'. -/
def fnExactBondNamedCard : Claim7 := { stood := { row := fnExactBondNamedRow, standIns := [], harness := (true, "22b663453ff0068858c66bfda3ba3e5533fac6a56f80b37b3c78aead66b6dab5"), looks := true }, kinds := [], alts := [], laidByText := true, laidKinds := [.data, .data, .pinned], laidTests := true, laidLooks := .later }
def FnExactBondNamedCardSaid : Prop := Claim7.holds Tryd.pinned (.plain (OpenSpec.ofChange fnExactBondNamedSpec)) fnExactBondNamedCard

/-- THE TIED CARD OF 'laws.FnExactBondNames'. -/
def fnExactBondNamesCard : Claim7 := { stood := { row := fnExactBondNamesRow, standIns := [], harness := (true, "22b663453ff0068858c66bfda3ba3e5533fac6a56f80b37b3c78aead66b6dab5"), looks := true }, kinds := [], alts := [], laidByText := true, laidKinds := [.data], laidTests := true, laidLooks := .later }
def FnExactBondNamesCardSaid : Prop := Claim7.holds Tryd.pinned (.plain (OpenSpec.ofChange fnExactBondNamesSpec)) fnExactBondNamesCard

/-- THE TIED CARD OF 'laws.FnExactBondText'. -/
def fnExactBondTextCard : Claim7 := { stood := { row := fnExactBondTextRow, standIns := [], harness := (true, "22b663453ff0068858c66bfda3ba3e5533fac6a56f80b37b3c78aead66b6dab5"), looks := true }, kinds := [], alts := [], laidByText := true, laidKinds := [.data, .pinned], laidTests := true, laidLooks := .later }
def FnExactBondTextCardSaid : Prop := Claim7.holds Tryd.pinned (.plain (OpenSpec.ofChange fnExactBondTextSpec)) fnExactBondTextCard

/-- THE TIED CARD OF 'laws.FnExactReadBond'. -/
def fnExactReadBondCard : Claim7 := { stood := { row := fnExactReadBondRow, standIns := [], harness := (true, "22b663453ff0068858c66bfda3ba3e5533fac6a56f80b37b3c78aead66b6dab5"), looks := true }, kinds := [], alts := [], laidByText := true, laidKinds := [.data, .pinned], laidTests := true, laidLooks := .later }
def FnExactReadBondCardSaid : Prop := Claim7.holds Tryd.pinned (.plain (OpenSpec.ofChange fnExactReadBondSpec)) fnExactReadBondCard

/-- THE TIED CARD OF 'laws.FnExactCheckBond'. -/
def fnExactCheckBondCard : Claim7 := { stood := { row := fnExactCheckBondRow, standIns := [], harness := (true, "22b663453ff0068858c66bfda3ba3e5533fac6a56f80b37b3c78aead66b6dab5"), looks := true }, kinds := [], alts := [], laidByText := true, laidKinds := [.data, .pinned], laidTests := true, laidLooks := .later }
def FnExactCheckBondCardSaid : Prop := Claim7.holds Tryd.pinned (.plain (OpenSpec.ofChange fnExactCheckBondSpec)) fnExactCheckBondCard

/-- THE TIED CARD OF 'laws.FnExactProblemName'. -/
def fnExactProblemNameCard : Claim7 := { stood := { row := fnExactProblemNameRow, standIns := [], harness := (true, "22b663453ff0068858c66bfda3ba3e5533fac6a56f80b37b3c78aead66b6dab5"), looks := true }, kinds := [], alts := [], laidByText := true, laidKinds := [.data], laidTests := true, laidLooks := .later }
def FnExactProblemNameCardSaid : Prop := Claim7.holds Tryd.pinned (.plain (OpenSpec.ofChange fnExactProblemNameSpec)) fnExactProblemNameCard

/-- THE SECOND FORM's CARD OF 'laws.FnExactValidBond'. -/
def fnExactValidBondUptoCard : Claim7 := { stood := { row := fnExactValidBondUptoRow, standIns := [], harness := (true, "22b663453ff0068858c66bfda3ba3e5533fac6a56f80b37b3c78aead66b6dab5"), looks := true }, kinds := [], alts := [], laidByText := true, laidKinds := [.data, .pinned], laidTests := true, laidLooks := .later }
def FnExactValidBondUptoCardSaid : Prop := Claim7.holds Tryd.pinned (.plain (OpenSpec.upto fnExactValidBondSpec)) fnExactValidBondUptoCard

/-- THE SECOND FORM's CARD OF 'laws.FnExactPerpendsOf'. -/
def fnExactPerpendsOfUptoCard : Claim7 := { stood := { row := fnExactPerpendsOfUptoRow, standIns := [], harness := (true, "22b663453ff0068858c66bfda3ba3e5533fac6a56f80b37b3c78aead66b6dab5"), looks := true }, kinds := [], alts := [], laidByText := true, laidKinds := [.data, .pinned], laidTests := true, laidLooks := .later }
def FnExactPerpendsOfUptoCardSaid : Prop := Claim7.holds Tryd.pinned (.plain (OpenSpec.upto fnExactPerpendsOfSpec)) fnExactPerpendsOfUptoCard

/-- THE SECOND FORM's CARD OF 'laws.FnExactLapBetween'. -/
def fnExactLapBetweenUptoCard : Claim7 := { stood := { row := fnExactLapBetweenUptoRow, standIns := [], harness := (true, "22b663453ff0068858c66bfda3ba3e5533fac6a56f80b37b3c78aead66b6dab5"), looks := true }, kinds := [], alts := [], laidByText := true, laidKinds := [.data, .pinned], laidTests := true, laidLooks := .later }
def FnExactLapBetweenUptoCardSaid : Prop := Claim7.holds Tryd.pinned (.plain (OpenSpec.upto fnExactLapBetweenSpec)) fnExactLapBetweenUptoCard

/-- THE SECOND FORM's CARD OF 'laws.FnExactLapOfBond'. -/
def fnExactLapOfBondUptoCard : Claim7 := { stood := { row := fnExactLapOfBondUptoRow, standIns := [], harness := (true, "22b663453ff0068858c66bfda3ba3e5533fac6a56f80b37b3c78aead66b6dab5"), looks := true }, kinds := [], alts := [], laidByText := true, laidKinds := [.data, .pinned], laidTests := true, laidLooks := .later }
def FnExactLapOfBondUptoCardSaid : Prop := Claim7.holds Tryd.pinned (.plain (OpenSpec.upto fnExactLapOfBondSpec)) fnExactLapOfBondUptoCard

/-- THE SECOND FORM's CARD OF 'laws.FnExactHeadersIn'. -/
def fnExactHeadersInUptoCard : Claim7 := { stood := { row := fnExactHeadersInUptoRow, standIns := [], harness := (true, "22b663453ff0068858c66bfda3ba3e5533fac6a56f80b37b3c78aead66b6dab5"), looks := true }, kinds := [], alts := [], laidByText := true, laidKinds := [.data, .pinned], laidTests := true, laidLooks := .later }
def FnExactHeadersInUptoCardSaid : Prop := Claim7.holds Tryd.pinned (.plain (OpenSpec.upto fnExactHeadersInSpec)) fnExactHeadersInUptoCard

/-- THE SECOND FORM's CARD OF 'laws.FnExactBondNamed'. -/
def fnExactBondNamedUptoCard : Claim7 := { stood := { row := fnExactBondNamedUptoRow, standIns := [], harness := (true, "22b663453ff0068858c66bfda3ba3e5533fac6a56f80b37b3c78aead66b6dab5"), looks := true }, kinds := [], alts := [], laidByText := true, laidKinds := [.data, .data, .pinned], laidTests := true, laidLooks := .later }
def FnExactBondNamedUptoCardSaid : Prop := Claim7.holds Tryd.pinned (.plain (OpenSpec.upto fnExactBondNamedSpec)) fnExactBondNamedUptoCard

/-- THE SECOND FORM's CARD OF 'laws.FnExactBondNames'. -/
def fnExactBondNamesUptoCard : Claim7 := { stood := { row := fnExactBondNamesUptoRow, standIns := [], harness := (true, "22b663453ff0068858c66bfda3ba3e5533fac6a56f80b37b3c78aead66b6dab5"), looks := true }, kinds := [], alts := [], laidByText := true, laidKinds := [.data], laidTests := true, laidLooks := .later }
def FnExactBondNamesUptoCardSaid : Prop := Claim7.holds Tryd.pinned (.plain (OpenSpec.upto fnExactBondNamesSpec)) fnExactBondNamesUptoCard

/-- THE SECOND FORM's CARD OF 'laws.FnExactBondText'. -/
def fnExactBondTextUptoCard : Claim7 := { stood := { row := fnExactBondTextUptoRow, standIns := [], harness := (true, "22b663453ff0068858c66bfda3ba3e5533fac6a56f80b37b3c78aead66b6dab5"), looks := true }, kinds := [], alts := [], laidByText := true, laidKinds := [.data, .pinned], laidTests := true, laidLooks := .later }
def FnExactBondTextUptoCardSaid : Prop := Claim7.holds Tryd.pinned (.plain (OpenSpec.upto fnExactBondTextSpec)) fnExactBondTextUptoCard

/-- THE SECOND FORM's CARD OF 'laws.FnExactReadBond'. -/
def fnExactReadBondUptoCard : Claim7 := { stood := { row := fnExactReadBondUptoRow, standIns := [], harness := (true, "22b663453ff0068858c66bfda3ba3e5533fac6a56f80b37b3c78aead66b6dab5"), looks := true }, kinds := [], alts := [], laidByText := true, laidKinds := [.data, .pinned], laidTests := true, laidLooks := .later }
def FnExactReadBondUptoCardSaid : Prop := Claim7.holds Tryd.pinned (.plain (OpenSpec.upto fnExactReadBondSpec)) fnExactReadBondUptoCard

/-- THE SECOND FORM's CARD OF 'laws.FnExactCheckBond'. -/
def fnExactCheckBondUptoCard : Claim7 := { stood := { row := fnExactCheckBondUptoRow, standIns := [], harness := (true, "22b663453ff0068858c66bfda3ba3e5533fac6a56f80b37b3c78aead66b6dab5"), looks := true }, kinds := [], alts := [], laidByText := true, laidKinds := [.data, .pinned], laidTests := true, laidLooks := .later }
def FnExactCheckBondUptoCardSaid : Prop := Claim7.holds Tryd.pinned (.plain (OpenSpec.upto fnExactCheckBondSpec)) fnExactCheckBondUptoCard

/-- THE SECOND FORM's CARD OF 'laws.FnExactProblemName'. -/
def fnExactProblemNameUptoCard : Claim7 := { stood := { row := fnExactProblemNameUptoRow, standIns := [], harness := (true, "22b663453ff0068858c66bfda3ba3e5533fac6a56f80b37b3c78aead66b6dab5"), looks := true }, kinds := [], alts := [], laidByText := true, laidKinds := [.data], laidTests := true, laidLooks := .later }
def FnExactProblemNameUptoCardSaid : Prop := Claim7.holds Tryd.pinned (.plain (OpenSpec.upto fnExactProblemNameSpec)) fnExactProblemNameUptoCard
end Rows
end Go.Proofs.YtnkaafpdlmmdfaaDoor
