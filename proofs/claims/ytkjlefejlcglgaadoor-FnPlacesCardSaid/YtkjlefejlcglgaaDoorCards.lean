/-
  DERIVED. GIVEN WITH THE SEED: THE CARDS: each row of YtkjlefejlcglgaaDoorRows.lean that lists a variable, with what it lists TIED to the program's text (the seventh form; the later family's looks); each row that meets fmt, with fmt's text TOLD by the authors' own Lean function (tested against real Go, not proved from fmt's source: count such statements apart). THE CARD IS WHAT COUNTS. Prove the row's statement (the work); the ties are given (YtkjlefejlcglgaaDoorTie.lean); close each card by the builder's one call (the guide's Derived/Test/ToyasCard.lean, 'card_holds'). Laid BY PROGRAM, IN A SANDBOX (cutbox-door.mjs). By AI agents, Wed Nov 11 2026. No macro, syntax, notation, axiom, sorry.
-/
import Derived.Test.YtkjlefejlcglgaaDoorRows
import GoSem.ClaimSeven
namespace Go.Proofs.YtkjlefejlcglgaaDoor
namespace Rows

/-- THE TIED CARD OF 'laws.FnRuneBack'. -/
def fnRuneBackCard : Claim7 := { stood := { row := fnRuneBackRow, standIns := [], harness := (true, "658612e18a96ec2587d6acf093229c95142990a98280d8290a6a774c3b593081"), looks := false }, kinds := [], alts := [], laidByText := true, laidKinds := [.data], laidTests := true, laidLooks := .later }
def FnRuneBackCardSaid : Prop := Claim7.holds Tryd.pinned (.plain (OpenSpec.ofChange fnRuneBackSpec)) fnRuneBackCard

/-- THE TIED CARD OF 'laws.FnPlaces'. -/
def fnPlacesCard : Claim7 := { stood := { row := fnPlacesRow, standIns := [], harness := (true, "658612e18a96ec2587d6acf093229c95142990a98280d8290a6a774c3b593081"), looks := false }, kinds := [], alts := [], laidByText := true, laidKinds := [.data], laidTests := true, laidLooks := .later }
def FnPlacesCardSaid : Prop := Claim7.holds Tryd.pinned (.plain (OpenSpec.ofChange fnPlacesSpec)) fnPlacesCard

/-- THE TIED CARD OF 'laws.FnExactRuneSize'. -/
def fnExactRuneSizeCard : Claim7 := { stood := { row := fnExactRuneSizeRow, standIns := [], harness := (true, "658612e18a96ec2587d6acf093229c95142990a98280d8290a6a774c3b593081"), looks := false }, kinds := [], alts := [], laidByText := true, laidKinds := [.data], laidTests := true, laidLooks := .later }
def FnExactRuneSizeCardSaid : Prop := Claim7.holds Tryd.pinned (.plain (OpenSpec.ofChange fnExactRuneSizeSpec)) fnExactRuneSizeCard

/-- THE TIED CARD OF 'laws.FnExactTextOk'. -/
def fnExactTextOkCard : Claim7 := { stood := { row := fnExactTextOkRow, standIns := [], harness := (true, "658612e18a96ec2587d6acf093229c95142990a98280d8290a6a774c3b593081"), looks := false }, kinds := [], alts := [], laidByText := true, laidKinds := [.data], laidTests := true, laidLooks := .later }
def FnExactTextOkCardSaid : Prop := Claim7.holds Tryd.pinned (.plain (OpenSpec.ofChange fnExactTextOkSpec)) fnExactTextOkCard

/-- THE TIED CARD OF 'laws.FnExactRuneAt'. -/
def fnExactRuneAtCard : Claim7 := { stood := { row := fnExactRuneAtRow, standIns := [], harness := (true, "658612e18a96ec2587d6acf093229c95142990a98280d8290a6a774c3b593081"), looks := false }, kinds := [], alts := [], laidByText := true, laidKinds := [.data], laidTests := true, laidLooks := .later }
def FnExactRuneAtCardSaid : Prop := Claim7.holds Tryd.pinned (.plain (OpenSpec.ofChange fnExactRuneAtSpec)) fnExactRuneAtCard

/-- THE TIED CARD OF 'laws.FnExactRuneBytes'. -/
def fnExactRuneBytesCard : Claim7 := { stood := { row := fnExactRuneBytesRow, standIns := [], harness := (true, "658612e18a96ec2587d6acf093229c95142990a98280d8290a6a774c3b593081"), looks := false }, kinds := [], alts := [], laidByText := true, laidKinds := [.data], laidTests := true, laidLooks := .later }
def FnExactRuneBytesCardSaid : Prop := Claim7.holds Tryd.pinned (.plain (OpenSpec.ofChange fnExactRuneBytesSpec)) fnExactRuneBytesCard

/-- THE TIED CARD OF 'laws.FnExactCutOk'. -/
def fnExactCutOkCard : Claim7 := { stood := { row := fnExactCutOkRow, standIns := [], harness := (true, "658612e18a96ec2587d6acf093229c95142990a98280d8290a6a774c3b593081"), looks := false }, kinds := [], alts := [], laidByText := true, laidKinds := [.data], laidTests := true, laidLooks := .later }
def FnExactCutOkCardSaid : Prop := Claim7.holds Tryd.pinned (.plain (OpenSpec.ofChange fnExactCutOkSpec)) fnExactCutOkCard

/-- THE TIED CARD OF 'laws.FnExactRuneCount'. -/
def fnExactRuneCountCard : Claim7 := { stood := { row := fnExactRuneCountRow, standIns := [], harness := (true, "658612e18a96ec2587d6acf093229c95142990a98280d8290a6a774c3b593081"), looks := false }, kinds := [], alts := [], laidByText := true, laidKinds := [.data], laidTests := true, laidLooks := .later }
def FnExactRuneCountCardSaid : Prop := Claim7.holds Tryd.pinned (.plain (OpenSpec.ofChange fnExactRuneCountSpec)) fnExactRuneCountCard

/-- THE TIED CARD OF 'laws.FnExactPlaceOf'. -/
def fnExactPlaceOfCard : Claim7 := { stood := { row := fnExactPlaceOfRow, standIns := [], harness := (true, "658612e18a96ec2587d6acf093229c95142990a98280d8290a6a774c3b593081"), looks := false }, kinds := [], alts := [], laidByText := true, laidKinds := [.data], laidTests := true, laidLooks := .later }
def FnExactPlaceOfCardSaid : Prop := Claim7.holds Tryd.pinned (.plain (OpenSpec.ofChange fnExactPlaceOfSpec)) fnExactPlaceOfCard

/-- THE TIED CARD OF 'laws.FnExactRunesTo'. -/
def fnExactRunesToCard : Claim7 := { stood := { row := fnExactRunesToRow, standIns := [], harness := (true, "658612e18a96ec2587d6acf093229c95142990a98280d8290a6a774c3b593081"), looks := false }, kinds := [], alts := [], laidByText := true, laidKinds := [.data], laidTests := true, laidLooks := .later }
def FnExactRunesToCardSaid : Prop := Claim7.holds Tryd.pinned (.plain (OpenSpec.ofChange fnExactRunesToSpec)) fnExactRunesToCard

/-- THE SECOND FORM's CARD OF 'laws.FnRuneBack'. -/
def fnRuneBackUptoCard : Claim7 := { stood := { row := fnRuneBackUptoRow, standIns := [], harness := (true, "658612e18a96ec2587d6acf093229c95142990a98280d8290a6a774c3b593081"), looks := false }, kinds := [], alts := [], laidByText := true, laidKinds := [.data], laidTests := true, laidLooks := .later }
def FnRuneBackUptoCardSaid : Prop := Claim7.holds Tryd.pinned (.plain (OpenSpec.upto fnRuneBackSpec)) fnRuneBackUptoCard

/-- THE SECOND FORM's CARD OF 'laws.FnPlaces'. -/
def fnPlacesUptoCard : Claim7 := { stood := { row := fnPlacesUptoRow, standIns := [], harness := (true, "658612e18a96ec2587d6acf093229c95142990a98280d8290a6a774c3b593081"), looks := false }, kinds := [], alts := [], laidByText := true, laidKinds := [.data], laidTests := true, laidLooks := .later }
def FnPlacesUptoCardSaid : Prop := Claim7.holds Tryd.pinned (.plain (OpenSpec.upto fnPlacesSpec)) fnPlacesUptoCard

/-- THE SECOND FORM's CARD OF 'laws.FnExactRuneSize'. -/
def fnExactRuneSizeUptoCard : Claim7 := { stood := { row := fnExactRuneSizeUptoRow, standIns := [], harness := (true, "658612e18a96ec2587d6acf093229c95142990a98280d8290a6a774c3b593081"), looks := false }, kinds := [], alts := [], laidByText := true, laidKinds := [.data], laidTests := true, laidLooks := .later }
def FnExactRuneSizeUptoCardSaid : Prop := Claim7.holds Tryd.pinned (.plain (OpenSpec.upto fnExactRuneSizeSpec)) fnExactRuneSizeUptoCard

/-- THE SECOND FORM's CARD OF 'laws.FnExactTextOk'. -/
def fnExactTextOkUptoCard : Claim7 := { stood := { row := fnExactTextOkUptoRow, standIns := [], harness := (true, "658612e18a96ec2587d6acf093229c95142990a98280d8290a6a774c3b593081"), looks := false }, kinds := [], alts := [], laidByText := true, laidKinds := [.data], laidTests := true, laidLooks := .later }
def FnExactTextOkUptoCardSaid : Prop := Claim7.holds Tryd.pinned (.plain (OpenSpec.upto fnExactTextOkSpec)) fnExactTextOkUptoCard

/-- THE SECOND FORM's CARD OF 'laws.FnExactRuneAt'. -/
def fnExactRuneAtUptoCard : Claim7 := { stood := { row := fnExactRuneAtUptoRow, standIns := [], harness := (true, "658612e18a96ec2587d6acf093229c95142990a98280d8290a6a774c3b593081"), looks := false }, kinds := [], alts := [], laidByText := true, laidKinds := [.data], laidTests := true, laidLooks := .later }
def FnExactRuneAtUptoCardSaid : Prop := Claim7.holds Tryd.pinned (.plain (OpenSpec.upto fnExactRuneAtSpec)) fnExactRuneAtUptoCard

/-- THE SECOND FORM's CARD OF 'laws.FnExactRuneBytes'. -/
def fnExactRuneBytesUptoCard : Claim7 := { stood := { row := fnExactRuneBytesUptoRow, standIns := [], harness := (true, "658612e18a96ec2587d6acf093229c95142990a98280d8290a6a774c3b593081"), looks := false }, kinds := [], alts := [], laidByText := true, laidKinds := [.data], laidTests := true, laidLooks := .later }
def FnExactRuneBytesUptoCardSaid : Prop := Claim7.holds Tryd.pinned (.plain (OpenSpec.upto fnExactRuneBytesSpec)) fnExactRuneBytesUptoCard

/-- THE SECOND FORM's CARD OF 'laws.FnExactCutOk'. -/
def fnExactCutOkUptoCard : Claim7 := { stood := { row := fnExactCutOkUptoRow, standIns := [], harness := (true, "658612e18a96ec2587d6acf093229c95142990a98280d8290a6a774c3b593081"), looks := false }, kinds := [], alts := [], laidByText := true, laidKinds := [.data], laidTests := true, laidLooks := .later }
def FnExactCutOkUptoCardSaid : Prop := Claim7.holds Tryd.pinned (.plain (OpenSpec.upto fnExactCutOkSpec)) fnExactCutOkUptoCard

/-- THE SECOND FORM's CARD OF 'laws.FnExactRuneCount'. -/
def fnExactRuneCountUptoCard : Claim7 := { stood := { row := fnExactRuneCountUptoRow, standIns := [], harness := (true, "658612e18a96ec2587d6acf093229c95142990a98280d8290a6a774c3b593081"), looks := false }, kinds := [], alts := [], laidByText := true, laidKinds := [.data], laidTests := true, laidLooks := .later }
def FnExactRuneCountUptoCardSaid : Prop := Claim7.holds Tryd.pinned (.plain (OpenSpec.upto fnExactRuneCountSpec)) fnExactRuneCountUptoCard

/-- THE SECOND FORM's CARD OF 'laws.FnExactPlaceOf'. -/
def fnExactPlaceOfUptoCard : Claim7 := { stood := { row := fnExactPlaceOfUptoRow, standIns := [], harness := (true, "658612e18a96ec2587d6acf093229c95142990a98280d8290a6a774c3b593081"), looks := false }, kinds := [], alts := [], laidByText := true, laidKinds := [.data], laidTests := true, laidLooks := .later }
def FnExactPlaceOfUptoCardSaid : Prop := Claim7.holds Tryd.pinned (.plain (OpenSpec.upto fnExactPlaceOfSpec)) fnExactPlaceOfUptoCard

/-- THE SECOND FORM's CARD OF 'laws.FnExactRunesTo'. -/
def fnExactRunesToUptoCard : Claim7 := { stood := { row := fnExactRunesToUptoRow, standIns := [], harness := (true, "658612e18a96ec2587d6acf093229c95142990a98280d8290a6a774c3b593081"), looks := false }, kinds := [], alts := [], laidByText := true, laidKinds := [.data], laidTests := true, laidLooks := .later }
def FnExactRunesToUptoCardSaid : Prop := Claim7.holds Tryd.pinned (.plain (OpenSpec.upto fnExactRunesToSpec)) fnExactRunesToUptoCard
end Rows
end Go.Proofs.YtkjlefejlcglgaaDoor
