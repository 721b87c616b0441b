/-
  DERIVED. GIVEN WITH THE SEED: THE CARDS: each row of YtohlilgnognmgaaGreatDoorRows.lean that lists a variable, with what it lists TIED to the program's text (the seventh form; the later family's looks); each row that meets fmt, with fmt's text TOLD by the authors' own Lean function (tested against real Go, not proved from fmt's source: count such statements apart). THE CARD IS WHAT COUNTS. Prove the row's statement (the work); the ties are given (YtohlilgnognmgaaGreatDoorTie.lean); close each card by the builder's one call (the guide's Derived/Test/ToyasCard.lean, 'card_holds'). Laid BY PROGRAM, IN A SANDBOX (cutbox-door.mjs). By AI agents, Wed Nov 11 2026. No macro, syntax, notation, axiom, sorry.
-/
import Derived.Test.YtohlilgnognmgaaGreatDoorRows
import GoSem.ClaimSeven
namespace Go.Proofs.YtohlilgnognmgaaGreatDoor
namespace Rows

/-- THE TIED CARD OF 'garmentlaw04.MeasureUnits'. -/
def measureUnitsCard : Claim7 := { stood := { row := measureUnitsRow, standIns := [], harness := (true, "dd00d2e57603db6c3e93e19b2fd105fad540bcaeeb6a934aad08dc475e2cf8b7"), looks := false }, kinds := [], alts := [], laidByText := true, laidKinds := [.data, .data, .data, .data, .pinned], laidTests := true, laidLooks := .later }
def MeasureUnitsCardSaid : Prop := Claim7.holds Tryz.pinned (.plain (OpenSpec.ofChange measureUnitsSpec)) measureUnitsCard

/-- THE TIED CARD OF 'garmentlaw04.MeasureRoundTrip'. -/
def measureRoundTripCard : Claim7 := { stood := { row := measureRoundTripRow, standIns := [], harness := (true, "dd00d2e57603db6c3e93e19b2fd105fad540bcaeeb6a934aad08dc475e2cf8b7"), looks := false }, kinds := [], alts := [], laidByText := true, laidKinds := [.data, .data, .data, .data, .pinned], laidTests := true, laidLooks := .later }
def MeasureRoundTripCardSaid : Prop := Claim7.holds Tryz.pinned (.plain (OpenSpec.ofChange measureRoundTripSpec)) measureRoundTripCard

/-- THE TIED CARD OF 'garmentlaw04.MeasureSigns'. -/
def measureSignsCard : Claim7 := { stood := { row := measureSignsRow, standIns := [], harness := (true, "dd00d2e57603db6c3e93e19b2fd105fad540bcaeeb6a934aad08dc475e2cf8b7"), looks := false }, kinds := [], alts := [], laidByText := true, laidKinds := [.data, .data, .data, .data, .pinned], laidTests := true, laidLooks := .later }
def MeasureSignsCardSaid : Prop := Claim7.holds Tryz.pinned (.plain (OpenSpec.ofChange measureSignsSpec)) measureSignsCard

/-- THE TIED CARD OF 'garmentlaw04.MeasureScales'. -/
def measureScalesCard : Claim7 := { stood := { row := measureScalesRow, standIns := [], harness := (true, "dd00d2e57603db6c3e93e19b2fd105fad540bcaeeb6a934aad08dc475e2cf8b7"), looks := false }, kinds := [], alts := [], laidByText := true, laidKinds := [.data, .data, .data, .data, .pinned], laidTests := true, laidLooks := .later }
def MeasureScalesCardSaid : Prop := Claim7.holds Tryz.pinned (.plain (OpenSpec.ofChange measureScalesSpec)) measureScalesCard

/-- THE TIED CARD OF 'garmentlaw04.MeasureMixed'. -/
def measureMixedCard : Claim7 := { stood := { row := measureMixedRow, standIns := [], harness := (true, "dd00d2e57603db6c3e93e19b2fd105fad540bcaeeb6a934aad08dc475e2cf8b7"), looks := false }, kinds := [], alts := [], laidByText := true, laidKinds := [.data, .data, .data, .data, .pinned], laidTests := true, laidLooks := .later }
def MeasureMixedCardSaid : Prop := Claim7.holds Tryz.pinned (.plain (OpenSpec.ofChange measureMixedSpec)) measureMixedCard

/-- THE TIED CARD OF 'garmentlaw04.MeasureRounds'. -/
def measureRoundsCard : Claim7 := { stood := { row := measureRoundsRow, standIns := [], harness := (true, "dd00d2e57603db6c3e93e19b2fd105fad540bcaeeb6a934aad08dc475e2cf8b7"), looks := false }, kinds := [], alts := [], laidByText := true, laidKinds := [.data, .data, .data, .data, .pinned], laidTests := true, laidLooks := .later }
def MeasureRoundsCardSaid : Prop := Claim7.holds Tryz.pinned (.plain (OpenSpec.ofChange measureRoundsSpec)) measureRoundsCard

/-- THE SECOND FORM's CARD OF 'garmentlaw04.MeasureUnits'. -/
def measureUnitsUptoCard : Claim7 := { stood := { row := measureUnitsUptoRow, standIns := [], harness := (true, "dd00d2e57603db6c3e93e19b2fd105fad540bcaeeb6a934aad08dc475e2cf8b7"), looks := false }, kinds := [], alts := [], laidByText := true, laidKinds := [.data, .data, .data, .data, .pinned], laidTests := true, laidLooks := .later }
def MeasureUnitsUptoCardSaid : Prop := Claim7.holds Tryz.pinned (.plain (OpenSpec.upto measureUnitsSpec)) measureUnitsUptoCard

/-- THE SECOND FORM's CARD OF 'garmentlaw04.MeasureRoundTrip'. -/
def measureRoundTripUptoCard : Claim7 := { stood := { row := measureRoundTripUptoRow, standIns := [], harness := (true, "dd00d2e57603db6c3e93e19b2fd105fad540bcaeeb6a934aad08dc475e2cf8b7"), looks := false }, kinds := [], alts := [], laidByText := true, laidKinds := [.data, .data, .data, .data, .pinned], laidTests := true, laidLooks := .later }
def MeasureRoundTripUptoCardSaid : Prop := Claim7.holds Tryz.pinned (.plain (OpenSpec.upto measureRoundTripSpec)) measureRoundTripUptoCard

/-- THE SECOND FORM's CARD OF 'garmentlaw04.MeasureSigns'. -/
def measureSignsUptoCard : Claim7 := { stood := { row := measureSignsUptoRow, standIns := [], harness := (true, "dd00d2e57603db6c3e93e19b2fd105fad540bcaeeb6a934aad08dc475e2cf8b7"), looks := false }, kinds := [], alts := [], laidByText := true, laidKinds := [.data, .data, .data, .data, .pinned], laidTests := true, laidLooks := .later }
def MeasureSignsUptoCardSaid : Prop := Claim7.holds Tryz.pinned (.plain (OpenSpec.upto measureSignsSpec)) measureSignsUptoCard

/-- THE SECOND FORM's CARD OF 'garmentlaw04.MeasureScales'. -/
def measureScalesUptoCard : Claim7 := { stood := { row := measureScalesUptoRow, standIns := [], harness := (true, "dd00d2e57603db6c3e93e19b2fd105fad540bcaeeb6a934aad08dc475e2cf8b7"), looks := false }, kinds := [], alts := [], laidByText := true, laidKinds := [.data, .data, .data, .data, .pinned], laidTests := true, laidLooks := .later }
def MeasureScalesUptoCardSaid : Prop := Claim7.holds Tryz.pinned (.plain (OpenSpec.upto measureScalesSpec)) measureScalesUptoCard

/-- THE SECOND FORM's CARD OF 'garmentlaw04.MeasureMixed'. -/
def measureMixedUptoCard : Claim7 := { stood := { row := measureMixedUptoRow, standIns := [], harness := (true, "dd00d2e57603db6c3e93e19b2fd105fad540bcaeeb6a934aad08dc475e2cf8b7"), looks := false }, kinds := [], alts := [], laidByText := true, laidKinds := [.data, .data, .data, .data, .pinned], laidTests := true, laidLooks := .later }
def MeasureMixedUptoCardSaid : Prop := Claim7.holds Tryz.pinned (.plain (OpenSpec.upto measureMixedSpec)) measureMixedUptoCard

/-- THE SECOND FORM's CARD OF 'garmentlaw04.MeasureRounds'. -/
def measureRoundsUptoCard : Claim7 := { stood := { row := measureRoundsUptoRow, standIns := [], harness := (true, "dd00d2e57603db6c3e93e19b2fd105fad540bcaeeb6a934aad08dc475e2cf8b7"), looks := false }, kinds := [], alts := [], laidByText := true, laidKinds := [.data, .data, .data, .data, .pinned], laidTests := true, laidLooks := .later }
def MeasureRoundsUptoCardSaid : Prop := Claim7.holds Tryz.pinned (.plain (OpenSpec.upto measureRoundsSpec)) measureRoundsUptoCard
end Rows
end Go.Proofs.YtohlilgnognmgaaGreatDoor
