/-
  DERIVED. GIVEN WITH THE SEED: THE CARDS: each row of YtbhjdhkabhafmaaDoorRows.lean that lists a variable, with what it lists TIED to the program's text (the seventh form; the later family's looks); each row that meets fmt, with fmt's text TOLD by the authors' own Lean function (tested against real Go, not proved from fmt's source: count such statements apart). THE CARD IS WHAT COUNTS. Prove the row's statement (the work); the ties are given (YtbhjdhkabhafmaaDoorTie.lean); close each card by the builder's one call (the guide's Derived/Test/ToyasCard.lean, 'card_holds'). Laid BY PROGRAM, IN A SANDBOX (cutbox-door.mjs). By AI agents, Wed Nov 11 2026. No macro, syntax, notation, axiom, sorry.
-/
import Derived.Test.YtbhjdhkabhafmaaDoorRows
import GoSem.ClaimSeven
namespace Go.Proofs.YtbhjdhkabhafmaaDoor
namespace Rows

/-- THE TIED CARD OF 'laws.FnExactValidCourse'. -/
def fnExactValidCourseCard : Claim7 := { stood := { row := fnExactValidCourseRow, standIns := [], harness := (true, "f8005e269720860756164103ac8f1ab26c775c0334836013443c3a3f5e0ab904"), looks := false }, kinds := [], alts := [], laidByText := true, laidKinds := [.data, .pinned], laidTests := true, laidLooks := .later }
def FnExactValidCourseCardSaid : Prop := Claim7.holds Tryd.pinned (.plain (OpenSpec.ofChange fnExactValidCourseSpec)) fnExactValidCourseCard

/-- THE TIED CARD OF 'laws.FnExactCourseLength'. -/
def fnExactCourseLengthCard : Claim7 := { stood := { row := fnExactCourseLengthRow, standIns := [], harness := (true, "f8005e269720860756164103ac8f1ab26c775c0334836013443c3a3f5e0ab904"), looks := false }, kinds := [], alts := [], laidByText := true, laidKinds := [.data, .pinned], laidTests := true, laidLooks := .later }
def FnExactCourseLengthCardSaid : Prop := Claim7.holds Tryd.pinned (.plain (OpenSpec.ofChange fnExactCourseLengthSpec)) fnExactCourseLengthCard

/-- THE TIED CARD OF 'laws.FnExactCoursePerpends'. -/
def fnExactCoursePerpendsCard : Claim7 := { stood := { row := fnExactCoursePerpendsRow, standIns := [], harness := (true, "f8005e269720860756164103ac8f1ab26c775c0334836013443c3a3f5e0ab904"), looks := false }, kinds := [], alts := [], laidByText := true, laidKinds := [.data, .pinned], laidTests := true, laidLooks := .later }
def FnExactCoursePerpendsCardSaid : Prop := Claim7.holds Tryd.pinned (.plain (OpenSpec.ofChange fnExactCoursePerpendsSpec)) fnExactCoursePerpendsCard

/-- THE TIED CARD OF 'laws.FnExactCutsIn'. -/
def fnExactCutsInCard : Claim7 := { stood := { row := fnExactCutsInRow, standIns := [], harness := (true, "f8005e269720860756164103ac8f1ab26c775c0334836013443c3a3f5e0ab904"), looks := false }, kinds := [], alts := [], laidByText := true, laidKinds := [.data, .pinned], laidTests := true, laidLooks := .later }
def FnExactCutsInCardSaid : Prop := Claim7.holds Tryd.pinned (.plain (OpenSpec.ofChange fnExactCutsInSpec)) fnExactCutsInCard

/-- THE TIED CARD OF 'laws.FnExactMirrorCourse'. -/
def fnExactMirrorCourseCard : Claim7 := { stood := { row := fnExactMirrorCourseRow, standIns := [], harness := (true, "f8005e269720860756164103ac8f1ab26c775c0334836013443c3a3f5e0ab904"), looks := false }, kinds := [], alts := [], laidByText := true, laidKinds := [.data, .pinned], laidTests := true, laidLooks := .later }
def FnExactMirrorCourseCardSaid : Prop := Claim7.holds Tryd.pinned (.plain (OpenSpec.ofChange fnExactMirrorCourseSpec)) fnExactMirrorCourseCard

/-- THE TIED CARD OF 'laws.FnExactLayCourse'. -/
def fnExactLayCourseCard : Claim7 := { stood := { row := fnExactLayCourseRow, standIns := [], harness := (true, "f8005e269720860756164103ac8f1ab26c775c0334836013443c3a3f5e0ab904"), looks := false }, kinds := [], alts := [], laidByText := true, laidKinds := [.data, .data, .pinned], laidTests := true, laidLooks := .later }
def FnExactLayCourseCardSaid : Prop := Claim7.holds Tryd.pinned (.plain (OpenSpec.ofChange fnExactLayCourseSpec)) fnExactLayCourseCard

/-- THE TIED CARD OF 'laws.FnExactLayWall'. -/
def fnExactLayWallCard : Claim7 := { stood := { row := fnExactLayWallRow, standIns := [], harness := (true, "f8005e269720860756164103ac8f1ab26c775c0334836013443c3a3f5e0ab904"), looks := false }, kinds := [], alts := [], laidByText := true, laidKinds := [.data, .data, .pinned], laidTests := true, laidLooks := .later }
def FnExactLayWallCardSaid : Prop := Claim7.holds Tryd.pinned (.plain (OpenSpec.ofChange fnExactLayWallSpec)) fnExactLayWallCard

/-- THE TIED CARD OF 'laws.FnExactValidWall'. -/
def fnExactValidWallCard : Claim7 := { stood := { row := fnExactValidWallRow, standIns := [], harness := (true, "f8005e269720860756164103ac8f1ab26c775c0334836013443c3a3f5e0ab904"), looks := false }, kinds := [], alts := [], laidByText := true, laidKinds := [.data, .pinned], laidTests := true, laidLooks := .later }
def FnExactValidWallCardSaid : Prop := Claim7.holds Tryd.pinned (.plain (OpenSpec.ofChange fnExactValidWallSpec)) fnExactValidWallCard

/-- THE TIED CARD OF 'laws.FnExactFirstClash'. -/
def fnExactFirstClashCard : Claim7 := { stood := { row := fnExactFirstClashRow, standIns := [], harness := (true, "f8005e269720860756164103ac8f1ab26c775c0334836013443c3a3f5e0ab904"), looks := false }, kinds := [], alts := [], laidByText := true, laidKinds := [.data, .pinned], laidTests := true, laidLooks := .later }
def FnExactFirstClashCardSaid : Prop := Claim7.holds Tryd.pinned (.plain (OpenSpec.ofChange fnExactFirstClashSpec)) fnExactFirstClashCard

/-- THE TIED CARD OF 'laws.FnExactIsBonded'. -/
def fnExactIsBondedCard : Claim7 := { stood := { row := fnExactIsBondedRow, standIns := [], harness := (true, "f8005e269720860756164103ac8f1ab26c775c0334836013443c3a3f5e0ab904"), looks := false }, kinds := [], alts := [], laidByText := true, laidKinds := [.data, .pinned], laidTests := true, laidLooks := .later }
def FnExactIsBondedCardSaid : Prop := Claim7.holds Tryd.pinned (.plain (OpenSpec.ofChange fnExactIsBondedSpec)) fnExactIsBondedCard

/-- THE TIED CARD OF 'laws.FnExactCountPieces'. -/
def fnExactCountPiecesCard : Claim7 := { stood := { row := fnExactCountPiecesRow, standIns := [], harness := (true, "f8005e269720860756164103ac8f1ab26c775c0334836013443c3a3f5e0ab904"), looks := false }, kinds := [], alts := [], laidByText := true, laidKinds := [.data, .pinned], laidTests := true, laidLooks := .later }
def FnExactCountPiecesCardSaid : Prop := Claim7.holds Tryd.pinned (.plain (OpenSpec.ofChange fnExactCountPiecesSpec)) fnExactCountPiecesCard

/-- THE TIED CARD OF 'laws.FnExactCourseRuns'. -/
def fnExactCourseRunsCard : Claim7 := { stood := { row := fnExactCourseRunsRow, standIns := [], harness := (true, "f8005e269720860756164103ac8f1ab26c775c0334836013443c3a3f5e0ab904"), looks := false }, kinds := [], alts := [], laidByText := true, laidKinds := [.data, .data, .data, .data, .pinned], laidTests := true, laidLooks := .later }
def FnExactCourseRunsCardSaid : Prop := Claim7.holds Tryd.pinned (.plain (OpenSpec.ofChange fnExactCourseRunsSpec)) fnExactCourseRunsCard

/-- THE SECOND FORM's CARD OF 'laws.FnExactValidCourse'. -/
def fnExactValidCourseUptoCard : Claim7 := { stood := { row := fnExactValidCourseUptoRow, standIns := [], harness := (true, "f8005e269720860756164103ac8f1ab26c775c0334836013443c3a3f5e0ab904"), looks := false }, kinds := [], alts := [], laidByText := true, laidKinds := [.data, .pinned], laidTests := true, laidLooks := .later }
def FnExactValidCourseUptoCardSaid : Prop := Claim7.holds Tryd.pinned (.plain (OpenSpec.upto fnExactValidCourseSpec)) fnExactValidCourseUptoCard

/-- THE SECOND FORM's CARD OF 'laws.FnExactCourseLength'. -/
def fnExactCourseLengthUptoCard : Claim7 := { stood := { row := fnExactCourseLengthUptoRow, standIns := [], harness := (true, "f8005e269720860756164103ac8f1ab26c775c0334836013443c3a3f5e0ab904"), looks := false }, kinds := [], alts := [], laidByText := true, laidKinds := [.data, .pinned], laidTests := true, laidLooks := .later }
def FnExactCourseLengthUptoCardSaid : Prop := Claim7.holds Tryd.pinned (.plain (OpenSpec.upto fnExactCourseLengthSpec)) fnExactCourseLengthUptoCard

/-- THE SECOND FORM's CARD OF 'laws.FnExactCoursePerpends'. -/
def fnExactCoursePerpendsUptoCard : Claim7 := { stood := { row := fnExactCoursePerpendsUptoRow, standIns := [], harness := (true, "f8005e269720860756164103ac8f1ab26c775c0334836013443c3a3f5e0ab904"), looks := false }, kinds := [], alts := [], laidByText := true, laidKinds := [.data, .pinned], laidTests := true, laidLooks := .later }
def FnExactCoursePerpendsUptoCardSaid : Prop := Claim7.holds Tryd.pinned (.plain (OpenSpec.upto fnExactCoursePerpendsSpec)) fnExactCoursePerpendsUptoCard

/-- THE SECOND FORM's CARD OF 'laws.FnExactCutsIn'. -/
def fnExactCutsInUptoCard : Claim7 := { stood := { row := fnExactCutsInUptoRow, standIns := [], harness := (true, "f8005e269720860756164103ac8f1ab26c775c0334836013443c3a3f5e0ab904"), looks := false }, kinds := [], alts := [], laidByText := true, laidKinds := [.data, .pinned], laidTests := true, laidLooks := .later }
def FnExactCutsInUptoCardSaid : Prop := Claim7.holds Tryd.pinned (.plain (OpenSpec.upto fnExactCutsInSpec)) fnExactCutsInUptoCard

/-- THE SECOND FORM's CARD OF 'laws.FnExactMirrorCourse'. -/
def fnExactMirrorCourseUptoCard : Claim7 := { stood := { row := fnExactMirrorCourseUptoRow, standIns := [], harness := (true, "f8005e269720860756164103ac8f1ab26c775c0334836013443c3a3f5e0ab904"), looks := false }, kinds := [], alts := [], laidByText := true, laidKinds := [.data, .pinned], laidTests := true, laidLooks := .later }
def FnExactMirrorCourseUptoCardSaid : Prop := Claim7.holds Tryd.pinned (.plain (OpenSpec.upto fnExactMirrorCourseSpec)) fnExactMirrorCourseUptoCard

/-- THE SECOND FORM's CARD OF 'laws.FnExactLayCourse'. -/
def fnExactLayCourseUptoCard : Claim7 := { stood := { row := fnExactLayCourseUptoRow, standIns := [], harness := (true, "f8005e269720860756164103ac8f1ab26c775c0334836013443c3a3f5e0ab904"), looks := false }, kinds := [], alts := [], laidByText := true, laidKinds := [.data, .data, .pinned], laidTests := true, laidLooks := .later }
def FnExactLayCourseUptoCardSaid : Prop := Claim7.holds Tryd.pinned (.plain (OpenSpec.upto fnExactLayCourseSpec)) fnExactLayCourseUptoCard

/-- THE SECOND FORM's CARD OF 'laws.FnExactLayWall'. -/
def fnExactLayWallUptoCard : Claim7 := { stood := { row := fnExactLayWallUptoRow, standIns := [], harness := (true, "f8005e269720860756164103ac8f1ab26c775c0334836013443c3a3f5e0ab904"), looks := false }, kinds := [], alts := [], laidByText := true, laidKinds := [.data, .data, .pinned], laidTests := true, laidLooks := .later }
def FnExactLayWallUptoCardSaid : Prop := Claim7.holds Tryd.pinned (.plain (OpenSpec.upto fnExactLayWallSpec)) fnExactLayWallUptoCard

/-- THE SECOND FORM's CARD OF 'laws.FnExactValidWall'. -/
def fnExactValidWallUptoCard : Claim7 := { stood := { row := fnExactValidWallUptoRow, standIns := [], harness := (true, "f8005e269720860756164103ac8f1ab26c775c0334836013443c3a3f5e0ab904"), looks := false }, kinds := [], alts := [], laidByText := true, laidKinds := [.data, .pinned], laidTests := true, laidLooks := .later }
def FnExactValidWallUptoCardSaid : Prop := Claim7.holds Tryd.pinned (.plain (OpenSpec.upto fnExactValidWallSpec)) fnExactValidWallUptoCard

/-- THE SECOND FORM's CARD OF 'laws.FnExactFirstClash'. -/
def fnExactFirstClashUptoCard : Claim7 := { stood := { row := fnExactFirstClashUptoRow, standIns := [], harness := (true, "f8005e269720860756164103ac8f1ab26c775c0334836013443c3a3f5e0ab904"), looks := false }, kinds := [], alts := [], laidByText := true, laidKinds := [.data, .pinned], laidTests := true, laidLooks := .later }
def FnExactFirstClashUptoCardSaid : Prop := Claim7.holds Tryd.pinned (.plain (OpenSpec.upto fnExactFirstClashSpec)) fnExactFirstClashUptoCard

/-- THE SECOND FORM's CARD OF 'laws.FnExactIsBonded'. -/
def fnExactIsBondedUptoCard : Claim7 := { stood := { row := fnExactIsBondedUptoRow, standIns := [], harness := (true, "f8005e269720860756164103ac8f1ab26c775c0334836013443c3a3f5e0ab904"), looks := false }, kinds := [], alts := [], laidByText := true, laidKinds := [.data, .pinned], laidTests := true, laidLooks := .later }
def FnExactIsBondedUptoCardSaid : Prop := Claim7.holds Tryd.pinned (.plain (OpenSpec.upto fnExactIsBondedSpec)) fnExactIsBondedUptoCard

/-- THE SECOND FORM's CARD OF 'laws.FnExactCountPieces'. -/
def fnExactCountPiecesUptoCard : Claim7 := { stood := { row := fnExactCountPiecesUptoRow, standIns := [], harness := (true, "f8005e269720860756164103ac8f1ab26c775c0334836013443c3a3f5e0ab904"), looks := false }, kinds := [], alts := [], laidByText := true, laidKinds := [.data, .pinned], laidTests := true, laidLooks := .later }
def FnExactCountPiecesUptoCardSaid : Prop := Claim7.holds Tryd.pinned (.plain (OpenSpec.upto fnExactCountPiecesSpec)) fnExactCountPiecesUptoCard

/-- THE SECOND FORM's CARD OF 'laws.FnExactCourseRuns'. -/
def fnExactCourseRunsUptoCard : Claim7 := { stood := { row := fnExactCourseRunsUptoRow, standIns := [], harness := (true, "f8005e269720860756164103ac8f1ab26c775c0334836013443c3a3f5e0ab904"), looks := false }, kinds := [], alts := [], laidByText := true, laidKinds := [.data, .data, .data, .data, .pinned], laidTests := true, laidLooks := .later }
def FnExactCourseRunsUptoCardSaid : Prop := Claim7.holds Tryd.pinned (.plain (OpenSpec.upto fnExactCourseRunsSpec)) fnExactCourseRunsUptoCard
end Rows
end Go.Proofs.YtbhjdhkabhafmaaDoor
