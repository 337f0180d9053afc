/-
  DERIVED. GIVEN WITH THE SEED: THE CARDS: each row of YtikjielgnlgnjaaDoorRows.lean that lists a variable, with what it lists TIED to the program's text (the seventh form; the later family's looks); each row that meets fmt, with fmt's text TOLD by the authors' own Lean function (tested against real Go, not proved from fmt's source: count such statements apart). THE CARD IS WHAT COUNTS. Prove the row's statement (the work); the ties are given (YtikjielgnlgnjaaDoorTie.lean); close each card by the builder's one call (the guide's Derived/Test/ToyasCard.lean, 'card_holds'). Laid BY PROGRAM, IN A SANDBOX (cutbox-door.mjs). By AI agents, Wed Nov 11 2026. No macro, syntax, notation, axiom, sorry.
-/
import Derived.Test.YtikjielgnlgnjaaDoorRows
import GoSem.ClaimSeven
namespace Go.Proofs.YtikjielgnlgnjaaDoor
namespace Rows

/-- THE TIED CARD OF 'laws.FnExactValidHouse'. -/
def fnExactValidHouseCard : Claim7 := { stood := { row := fnExactValidHouseRow, standIns := [], harness := (true, "e533f797f21eb2711e7f36c3f62c98cabe460b04be3f4a6779276dd0e8078afb"), looks := true }, kinds := [], alts := [], laidByText := true, laidKinds := [.data, .data, .pinned], laidTests := true, laidLooks := .later }
def FnExactValidHouseCardSaid : Prop := Claim7.holds Tryd.pinned (.plain (OpenSpec.ofChange fnExactValidHouseSpec)) fnExactValidHouseCard

/-- THE TIED CARD OF 'laws.FnExactRoundHouse'. -/
def fnExactRoundHouseCard : Claim7 := { stood := { row := fnExactRoundHouseRow, standIns := [], harness := (true, "e533f797f21eb2711e7f36c3f62c98cabe460b04be3f4a6779276dd0e8078afb"), looks := true }, kinds := [], alts := [], laidByText := true, laidKinds := [.data, .data, .pinned], laidTests := true, laidLooks := .later }
def FnExactRoundHouseCardSaid : Prop := Claim7.holds Tryd.pinned (.plain (OpenSpec.ofChange fnExactRoundHouseSpec)) fnExactRoundHouseCard

/-- THE TIED CARD OF 'laws.FnExactRunsThrough'. -/
def fnExactRunsThroughCard : Claim7 := { stood := { row := fnExactRunsThroughRow, standIns := [], harness := (true, "e533f797f21eb2711e7f36c3f62c98cabe460b04be3f4a6779276dd0e8078afb"), looks := true }, kinds := [], alts := [], laidByText := true, laidKinds := [.data, .data, .pinned], laidTests := true, laidLooks := .later }
def FnExactRunsThroughCardSaid : Prop := Claim7.holds Tryd.pinned (.plain (OpenSpec.ofChange fnExactRunsThroughSpec)) fnExactRunsThroughCard

/-- THE TIED CARD OF 'laws.FnExactSideInCourse'. -/
def fnExactSideInCourseCard : Claim7 := { stood := { row := fnExactSideInCourseRow, standIns := [], harness := (true, "e533f797f21eb2711e7f36c3f62c98cabe460b04be3f4a6779276dd0e8078afb"), looks := true }, kinds := [], alts := [], laidByText := true, laidKinds := [.data, .data, .pinned], laidTests := true, laidLooks := .later }
def FnExactSideInCourseCardSaid : Prop := Claim7.holds Tryd.pinned (.plain (OpenSpec.ofChange fnExactSideInCourseSpec)) fnExactSideInCourseCard

/-- THE TIED CARD OF 'laws.FnExactCourseAround'. -/
def fnExactCourseAroundCard : Claim7 := { stood := { row := fnExactCourseAroundRow, standIns := [], harness := (true, "e533f797f21eb2711e7f36c3f62c98cabe460b04be3f4a6779276dd0e8078afb"), looks := true }, kinds := [], alts := [], laidByText := true, laidKinds := [.data, .data, .pinned], laidTests := true, laidLooks := .later }
def FnExactCourseAroundCardSaid : Prop := Claim7.holds Tryd.pinned (.plain (OpenSpec.ofChange fnExactCourseAroundSpec)) fnExactCourseAroundCard

/-- THE TIED CARD OF 'laws.FnExactCornerPoints'. -/
def fnExactCornerPointsCard : Claim7 := { stood := { row := fnExactCornerPointsRow, standIns := [], harness := (true, "e533f797f21eb2711e7f36c3f62c98cabe460b04be3f4a6779276dd0e8078afb"), looks := true }, kinds := [], alts := [], laidByText := true, laidKinds := [.data, .data, .pinned], laidTests := true, laidLooks := .later }
def FnExactCornerPointsCardSaid : Prop := Claim7.holds Tryd.pinned (.plain (OpenSpec.ofChange fnExactCornerPointsSpec)) fnExactCornerPointsCard

/-- THE TIED CARD OF 'laws.FnExactQuoinLap'. -/
def fnExactQuoinLapCard : Claim7 := { stood := { row := fnExactQuoinLapRow, standIns := [], harness := (true, "e533f797f21eb2711e7f36c3f62c98cabe460b04be3f4a6779276dd0e8078afb"), looks := true }, kinds := [], alts := [], laidByText := true, laidKinds := [.data, .data, .pinned], laidTests := true, laidLooks := .later }
def FnExactQuoinLapCardSaid : Prop := Claim7.holds Tryd.pinned (.plain (OpenSpec.ofChange fnExactQuoinLapSpec)) fnExactQuoinLapCard

/-- THE TIED CARD OF 'laws.FnExactAreaInside'. -/
def fnExactAreaInsideCard : Claim7 := { stood := { row := fnExactAreaInsideRow, standIns := [], harness := (true, "e533f797f21eb2711e7f36c3f62c98cabe460b04be3f4a6779276dd0e8078afb"), looks := true }, kinds := [], alts := [], laidByText := true, laidKinds := [.data, .data, .pinned], laidTests := true, laidLooks := .later }
def FnExactAreaInsideCardSaid : Prop := Claim7.holds Tryd.pinned (.plain (OpenSpec.ofChange fnExactAreaInsideSpec)) fnExactAreaInsideCard

/-- THE TIED CARD OF 'laws.FnExactTurnHouse'. -/
def fnExactTurnHouseCard : Claim7 := { stood := { row := fnExactTurnHouseRow, standIns := [], harness := (true, "e533f797f21eb2711e7f36c3f62c98cabe460b04be3f4a6779276dd0e8078afb"), looks := true }, kinds := [], alts := [], laidByText := true, laidKinds := [.data, .data, .pinned], laidTests := true, laidLooks := .later }
def FnExactTurnHouseCardSaid : Prop := Claim7.holds Tryd.pinned (.plain (OpenSpec.ofChange fnExactTurnHouseSpec)) fnExactTurnHouseCard

/-- THE TIED CARD OF 'laws.FnExactHouseText'. -/
def fnExactHouseTextCard : Claim7 := { stood := { row := fnExactHouseTextRow, standIns := [], harness := (true, "e533f797f21eb2711e7f36c3f62c98cabe460b04be3f4a6779276dd0e8078afb"), looks := true }, kinds := [], alts := [], laidByText := true, laidKinds := [.data, .data, .data, .data, .data, .pinned], laidTests := true, laidLooks := .later }
def FnExactHouseTextCardSaid : Prop := Claim7.holds Tryd.pinned (.plain (OpenSpec.ofChange fnExactHouseTextSpec)) fnExactHouseTextCard

/-- THE TIED CARD OF 'laws.FnExactReadHouse'. -/
def fnExactReadHouseCard : Claim7 := { stood := { row := fnExactReadHouseRow, standIns := [], harness := (true, "e533f797f21eb2711e7f36c3f62c98cabe460b04be3f4a6779276dd0e8078afb"), looks := true }, kinds := [], alts := [], laidByText := true, laidKinds := [.data, .data, .data, .data, .sentinel, .sentinel, .data, .pinned], laidTests := true, laidLooks := .later }
def FnExactReadHouseCardSaid : Prop := Claim7.holds Tryd.pinned (.plain (OpenSpec.ofChange fnExactReadHouseSpec)) fnExactReadHouseCard

/-- THE TIED CARD OF 'laws.FnExactIsSimple'. -/
def fnExactIsSimpleCard : Claim7 := { stood := { row := fnExactIsSimpleRow, standIns := [], harness := (true, "e533f797f21eb2711e7f36c3f62c98cabe460b04be3f4a6779276dd0e8078afb"), looks := true }, kinds := [], alts := [], laidByText := true, laidKinds := [.data, .data, .pinned], laidTests := true, laidLooks := .later }
def FnExactIsSimpleCardSaid : Prop := Claim7.holds Tryd.pinned (.plain (OpenSpec.ofChange fnExactIsSimpleSpec)) fnExactIsSimpleCard

/-- THE SECOND FORM's CARD OF 'laws.FnExactValidHouse'. -/
def fnExactValidHouseUptoCard : Claim7 := { stood := { row := fnExactValidHouseUptoRow, standIns := [], harness := (true, "e533f797f21eb2711e7f36c3f62c98cabe460b04be3f4a6779276dd0e8078afb"), looks := true }, kinds := [], alts := [], laidByText := true, laidKinds := [.data, .data, .pinned], laidTests := true, laidLooks := .later }
def FnExactValidHouseUptoCardSaid : Prop := Claim7.holds Tryd.pinned (.plain (OpenSpec.upto fnExactValidHouseSpec)) fnExactValidHouseUptoCard

/-- THE SECOND FORM's CARD OF 'laws.FnExactRoundHouse'. -/
def fnExactRoundHouseUptoCard : Claim7 := { stood := { row := fnExactRoundHouseUptoRow, standIns := [], harness := (true, "e533f797f21eb2711e7f36c3f62c98cabe460b04be3f4a6779276dd0e8078afb"), looks := true }, kinds := [], alts := [], laidByText := true, laidKinds := [.data, .data, .pinned], laidTests := true, laidLooks := .later }
def FnExactRoundHouseUptoCardSaid : Prop := Claim7.holds Tryd.pinned (.plain (OpenSpec.upto fnExactRoundHouseSpec)) fnExactRoundHouseUptoCard

/-- THE SECOND FORM's CARD OF 'laws.FnExactRunsThrough'. -/
def fnExactRunsThroughUptoCard : Claim7 := { stood := { row := fnExactRunsThroughUptoRow, standIns := [], harness := (true, "e533f797f21eb2711e7f36c3f62c98cabe460b04be3f4a6779276dd0e8078afb"), looks := true }, kinds := [], alts := [], laidByText := true, laidKinds := [.data, .data, .pinned], laidTests := true, laidLooks := .later }
def FnExactRunsThroughUptoCardSaid : Prop := Claim7.holds Tryd.pinned (.plain (OpenSpec.upto fnExactRunsThroughSpec)) fnExactRunsThroughUptoCard

/-- THE SECOND FORM's CARD OF 'laws.FnExactSideInCourse'. -/
def fnExactSideInCourseUptoCard : Claim7 := { stood := { row := fnExactSideInCourseUptoRow, standIns := [], harness := (true, "e533f797f21eb2711e7f36c3f62c98cabe460b04be3f4a6779276dd0e8078afb"), looks := true }, kinds := [], alts := [], laidByText := true, laidKinds := [.data, .data, .pinned], laidTests := true, laidLooks := .later }
def FnExactSideInCourseUptoCardSaid : Prop := Claim7.holds Tryd.pinned (.plain (OpenSpec.upto fnExactSideInCourseSpec)) fnExactSideInCourseUptoCard

/-- THE SECOND FORM's CARD OF 'laws.FnExactCourseAround'. -/
def fnExactCourseAroundUptoCard : Claim7 := { stood := { row := fnExactCourseAroundUptoRow, standIns := [], harness := (true, "e533f797f21eb2711e7f36c3f62c98cabe460b04be3f4a6779276dd0e8078afb"), looks := true }, kinds := [], alts := [], laidByText := true, laidKinds := [.data, .data, .pinned], laidTests := true, laidLooks := .later }
def FnExactCourseAroundUptoCardSaid : Prop := Claim7.holds Tryd.pinned (.plain (OpenSpec.upto fnExactCourseAroundSpec)) fnExactCourseAroundUptoCard

/-- THE SECOND FORM's CARD OF 'laws.FnExactCornerPoints'. -/
def fnExactCornerPointsUptoCard : Claim7 := { stood := { row := fnExactCornerPointsUptoRow, standIns := [], harness := (true, "e533f797f21eb2711e7f36c3f62c98cabe460b04be3f4a6779276dd0e8078afb"), looks := true }, kinds := [], alts := [], laidByText := true, laidKinds := [.data, .data, .pinned], laidTests := true, laidLooks := .later }
def FnExactCornerPointsUptoCardSaid : Prop := Claim7.holds Tryd.pinned (.plain (OpenSpec.upto fnExactCornerPointsSpec)) fnExactCornerPointsUptoCard

/-- THE SECOND FORM's CARD OF 'laws.FnExactQuoinLap'. -/
def fnExactQuoinLapUptoCard : Claim7 := { stood := { row := fnExactQuoinLapUptoRow, standIns := [], harness := (true, "e533f797f21eb2711e7f36c3f62c98cabe460b04be3f4a6779276dd0e8078afb"), looks := true }, kinds := [], alts := [], laidByText := true, laidKinds := [.data, .data, .pinned], laidTests := true, laidLooks := .later }
def FnExactQuoinLapUptoCardSaid : Prop := Claim7.holds Tryd.pinned (.plain (OpenSpec.upto fnExactQuoinLapSpec)) fnExactQuoinLapUptoCard

/-- THE SECOND FORM's CARD OF 'laws.FnExactAreaInside'. -/
def fnExactAreaInsideUptoCard : Claim7 := { stood := { row := fnExactAreaInsideUptoRow, standIns := [], harness := (true, "e533f797f21eb2711e7f36c3f62c98cabe460b04be3f4a6779276dd0e8078afb"), looks := true }, kinds := [], alts := [], laidByText := true, laidKinds := [.data, .data, .pinned], laidTests := true, laidLooks := .later }
def FnExactAreaInsideUptoCardSaid : Prop := Claim7.holds Tryd.pinned (.plain (OpenSpec.upto fnExactAreaInsideSpec)) fnExactAreaInsideUptoCard

/-- THE SECOND FORM's CARD OF 'laws.FnExactTurnHouse'. -/
def fnExactTurnHouseUptoCard : Claim7 := { stood := { row := fnExactTurnHouseUptoRow, standIns := [], harness := (true, "e533f797f21eb2711e7f36c3f62c98cabe460b04be3f4a6779276dd0e8078afb"), looks := true }, kinds := [], alts := [], laidByText := true, laidKinds := [.data, .data, .pinned], laidTests := true, laidLooks := .later }
def FnExactTurnHouseUptoCardSaid : Prop := Claim7.holds Tryd.pinned (.plain (OpenSpec.upto fnExactTurnHouseSpec)) fnExactTurnHouseUptoCard

/-- THE SECOND FORM's CARD OF 'laws.FnExactHouseText'. -/
def fnExactHouseTextUptoCard : Claim7 := { stood := { row := fnExactHouseTextUptoRow, standIns := [], harness := (true, "e533f797f21eb2711e7f36c3f62c98cabe460b04be3f4a6779276dd0e8078afb"), looks := true }, kinds := [], alts := [], laidByText := true, laidKinds := [.data, .data, .data, .data, .data, .pinned], laidTests := true, laidLooks := .later }
def FnExactHouseTextUptoCardSaid : Prop := Claim7.holds Tryd.pinned (.plain (OpenSpec.upto fnExactHouseTextSpec)) fnExactHouseTextUptoCard

/-- THE SECOND FORM's CARD OF 'laws.FnExactReadHouse'. -/
def fnExactReadHouseUptoCard : Claim7 := { stood := { row := fnExactReadHouseUptoRow, standIns := [], harness := (true, "e533f797f21eb2711e7f36c3f62c98cabe460b04be3f4a6779276dd0e8078afb"), looks := true }, kinds := [], alts := [], laidByText := true, laidKinds := [.data, .data, .data, .data, .sentinel, .sentinel, .data, .pinned], laidTests := true, laidLooks := .later }
def FnExactReadHouseUptoCardSaid : Prop := Claim7.holds Tryd.pinned (.plain (OpenSpec.upto fnExactReadHouseSpec)) fnExactReadHouseUptoCard

/-- THE SECOND FORM's CARD OF 'laws.FnExactIsSimple'. -/
def fnExactIsSimpleUptoCard : Claim7 := { stood := { row := fnExactIsSimpleUptoRow, standIns := [], harness := (true, "e533f797f21eb2711e7f36c3f62c98cabe460b04be3f4a6779276dd0e8078afb"), looks := true }, kinds := [], alts := [], laidByText := true, laidKinds := [.data, .data, .pinned], laidTests := true, laidLooks := .later }
def FnExactIsSimpleUptoCardSaid : Prop := Claim7.holds Tryd.pinned (.plain (OpenSpec.upto fnExactIsSimpleSpec)) fnExactIsSimpleUptoCard
end Rows
end Go.Proofs.YtikjielgnlgnjaaDoor
