/-
  DERIVED. GIVEN WITH THE SEED: THE CARDS: each row of YtpipkmnmdipeeaaDoorRows.lean that lists a variable, with what it lists TIED to the program's text (the seventh form; the later family's looks); each row that meets fmt, with fmt's text TOLD by the authors' own Lean function (tested against real Go, not proved from fmt's source: count such statements apart). THE CARD IS WHAT COUNTS. Prove the row's statement (the work); the ties are given (YtpipkmnmdipeeaaDoorTie.lean); close each card by the builder's one call (the guide's Derived/Test/ToyasCard.lean, 'card_holds'). Laid BY PROGRAM, IN A SANDBOX (cutbox-door.mjs). By AI agents, Wed Nov 11 2026. No macro, syntax, notation, axiom, sorry.
-/
import Derived.Test.YtpipkmnmdipeeaaDoorRows
import GoSem.ClaimSeven
namespace Go.Proofs.YtpipkmnmdipeeaaDoor
namespace Rows

/-- THE TIED CARD OF 'laws.FnExactRopeOk'. -/
def fnExactRopeOkCard : Claim7 := { stood := { row := fnExactRopeOkRow, standIns := [], harness := (true, "b5a4da3e5fce575eedd3d2a7a61290f81e7b4e0de288edc740ccbed20df54ffa"), looks := false }, kinds := [], alts := [], laidByText := true, laidKinds := [.data], laidTests := true, laidLooks := .later }
def FnExactRopeOkCardSaid : Prop := Claim7.holds Tryd.pinned (.plain (OpenSpec.ofChange fnExactRopeOkSpec)) fnExactRopeOkCard

/-- THE TIED CARD OF 'laws.FnExactRopeOf'. -/
def fnExactRopeOfCard : Claim7 := { stood := { row := fnExactRopeOfRow, standIns := [], harness := (true, "b5a4da3e5fce575eedd3d2a7a61290f81e7b4e0de288edc740ccbed20df54ffa"), looks := false }, kinds := [], alts := [], laidByText := true, laidKinds := [.data], laidTests := true, laidLooks := .later }
def FnExactRopeOfCardSaid : Prop := Claim7.holds Tryd.pinned (.plain (OpenSpec.ofChange fnExactRopeOfSpec)) fnExactRopeOfCard

/-- THE TIED CARD OF 'laws.FnExactRopeText'. -/
def fnExactRopeTextCard : Claim7 := { stood := { row := fnExactRopeTextRow, standIns := [], harness := (true, "b5a4da3e5fce575eedd3d2a7a61290f81e7b4e0de288edc740ccbed20df54ffa"), looks := false }, kinds := [], alts := [], laidByText := true, laidKinds := [.data], laidTests := true, laidLooks := .later }
def FnExactRopeTextCardSaid : Prop := Claim7.holds Tryd.pinned (.plain (OpenSpec.ofChange fnExactRopeTextSpec)) fnExactRopeTextCard

/-- THE TIED CARD OF 'laws.FnExactRopeMeas'. -/
def fnExactRopeMeasCard : Claim7 := { stood := { row := fnExactRopeMeasRow, standIns := [], harness := (true, "b5a4da3e5fce575eedd3d2a7a61290f81e7b4e0de288edc740ccbed20df54ffa"), looks := false }, kinds := [], alts := [], laidByText := true, laidKinds := [.data], laidTests := true, laidLooks := .later }
def FnExactRopeMeasCardSaid : Prop := Claim7.holds Tryd.pinned (.plain (OpenSpec.ofChange fnExactRopeMeasSpec)) fnExactRopeMeasCard

/-- THE TIED CARD OF 'laws.FnExactRopeEdit'. -/
def fnExactRopeEditCard : Claim7 := { stood := { row := fnExactRopeEditRow, standIns := [], harness := (true, "b5a4da3e5fce575eedd3d2a7a61290f81e7b4e0de288edc740ccbed20df54ffa"), looks := false }, kinds := [], alts := [], laidByText := true, laidKinds := [.data], laidTests := true, laidLooks := .later }
def FnExactRopeEditCardSaid : Prop := Claim7.holds Tryd.pinned (.plain (OpenSpec.ofChange fnExactRopeEditSpec)) fnExactRopeEditCard

/-- THE TIED CARD OF 'laws.FnExactRopeSlice'. -/
def fnExactRopeSliceCard : Claim7 := { stood := { row := fnExactRopeSliceRow, standIns := [], harness := (true, "b5a4da3e5fce575eedd3d2a7a61290f81e7b4e0de288edc740ccbed20df54ffa"), looks := false }, kinds := [], alts := [], laidByText := true, laidKinds := [.data], laidTests := true, laidLooks := .later }
def FnExactRopeSliceCardSaid : Prop := Claim7.holds Tryd.pinned (.plain (OpenSpec.ofChange fnExactRopeSliceSpec)) fnExactRopeSliceCard

/-- THE TIED CARD OF 'laws.FnExactRopeSplit'. -/
def fnExactRopeSplitCard : Claim7 := { stood := { row := fnExactRopeSplitRow, standIns := [], harness := (true, "b5a4da3e5fce575eedd3d2a7a61290f81e7b4e0de288edc740ccbed20df54ffa"), looks := false }, kinds := [], alts := [], laidByText := true, laidKinds := [.data], laidTests := true, laidLooks := .later }
def FnExactRopeSplitCardSaid : Prop := Claim7.holds Tryd.pinned (.plain (OpenSpec.ofChange fnExactRopeSplitSpec)) fnExactRopeSplitCard

/-- THE TIED CARD OF 'laws.FnExactRopeJoin'. -/
def fnExactRopeJoinCard : Claim7 := { stood := { row := fnExactRopeJoinRow, standIns := [], harness := (true, "b5a4da3e5fce575eedd3d2a7a61290f81e7b4e0de288edc740ccbed20df54ffa"), looks := false }, kinds := [], alts := [], laidByText := true, laidKinds := [.data], laidTests := true, laidLooks := .later }
def FnExactRopeJoinCardSaid : Prop := Claim7.holds Tryd.pinned (.plain (OpenSpec.ofChange fnExactRopeJoinSpec)) fnExactRopeJoinCard

/-- THE TIED CARD OF 'laws.FnExactRopeFind'. -/
def fnExactRopeFindCard : Claim7 := { stood := { row := fnExactRopeFindRow, standIns := [], harness := (true, "b5a4da3e5fce575eedd3d2a7a61290f81e7b4e0de288edc740ccbed20df54ffa"), looks := false }, kinds := [], alts := [], laidByText := true, laidKinds := [.data], laidTests := true, laidLooks := .later }
def FnExactRopeFindCardSaid : Prop := Claim7.holds Tryd.pinned (.plain (OpenSpec.ofChange fnExactRopeFindSpec)) fnExactRopeFindCard

/-- THE TIED CARD OF 'laws.FnExactRopeFindBack'. -/
def fnExactRopeFindBackCard : Claim7 := { stood := { row := fnExactRopeFindBackRow, standIns := [], harness := (true, "b5a4da3e5fce575eedd3d2a7a61290f81e7b4e0de288edc740ccbed20df54ffa"), looks := false }, kinds := [], alts := [], laidByText := true, laidKinds := [.data], laidTests := true, laidLooks := .later }
def FnExactRopeFindBackCardSaid : Prop := Claim7.holds Tryd.pinned (.plain (OpenSpec.ofChange fnExactRopeFindBackSpec)) fnExactRopeFindBackCard

/-- THE TIED CARD OF 'laws.FnExactRopeLine'. -/
def fnExactRopeLineCard : Claim7 := { stood := { row := fnExactRopeLineRow, standIns := [], harness := (true, "b5a4da3e5fce575eedd3d2a7a61290f81e7b4e0de288edc740ccbed20df54ffa"), looks := false }, kinds := [], alts := [], laidByText := true, laidKinds := [.data], laidTests := true, laidLooks := .later }
def FnExactRopeLineCardSaid : Prop := Claim7.holds Tryd.pinned (.plain (OpenSpec.ofChange fnExactRopeLineSpec)) fnExactRopeLineCard

/-- THE TIED CARD OF 'laws.FnExactRopePlace'. -/
def fnExactRopePlaceCard : Claim7 := { stood := { row := fnExactRopePlaceRow, standIns := [], harness := (true, "b5a4da3e5fce575eedd3d2a7a61290f81e7b4e0de288edc740ccbed20df54ffa"), looks := false }, kinds := [], alts := [], laidByText := true, laidKinds := [.data, .data, .pinned], laidTests := true, laidLooks := .later }
def FnExactRopePlaceCardSaid : Prop := Claim7.holds Tryd.pinned (.plain (OpenSpec.ofChange fnExactRopePlaceSpec)) fnExactRopePlaceCard

/-- THE SECOND FORM's CARD OF 'laws.FnExactRopeOk'. -/
def fnExactRopeOkUptoCard : Claim7 := { stood := { row := fnExactRopeOkUptoRow, standIns := [], harness := (true, "b5a4da3e5fce575eedd3d2a7a61290f81e7b4e0de288edc740ccbed20df54ffa"), looks := false }, kinds := [], alts := [], laidByText := true, laidKinds := [.data], laidTests := true, laidLooks := .later }
def FnExactRopeOkUptoCardSaid : Prop := Claim7.holds Tryd.pinned (.plain (OpenSpec.upto fnExactRopeOkSpec)) fnExactRopeOkUptoCard

/-- THE SECOND FORM's CARD OF 'laws.FnExactRopeOf'. -/
def fnExactRopeOfUptoCard : Claim7 := { stood := { row := fnExactRopeOfUptoRow, standIns := [], harness := (true, "b5a4da3e5fce575eedd3d2a7a61290f81e7b4e0de288edc740ccbed20df54ffa"), looks := false }, kinds := [], alts := [], laidByText := true, laidKinds := [.data], laidTests := true, laidLooks := .later }
def FnExactRopeOfUptoCardSaid : Prop := Claim7.holds Tryd.pinned (.plain (OpenSpec.upto fnExactRopeOfSpec)) fnExactRopeOfUptoCard

/-- THE SECOND FORM's CARD OF 'laws.FnExactRopeText'. -/
def fnExactRopeTextUptoCard : Claim7 := { stood := { row := fnExactRopeTextUptoRow, standIns := [], harness := (true, "b5a4da3e5fce575eedd3d2a7a61290f81e7b4e0de288edc740ccbed20df54ffa"), looks := false }, kinds := [], alts := [], laidByText := true, laidKinds := [.data], laidTests := true, laidLooks := .later }
def FnExactRopeTextUptoCardSaid : Prop := Claim7.holds Tryd.pinned (.plain (OpenSpec.upto fnExactRopeTextSpec)) fnExactRopeTextUptoCard

/-- THE SECOND FORM's CARD OF 'laws.FnExactRopeMeas'. -/
def fnExactRopeMeasUptoCard : Claim7 := { stood := { row := fnExactRopeMeasUptoRow, standIns := [], harness := (true, "b5a4da3e5fce575eedd3d2a7a61290f81e7b4e0de288edc740ccbed20df54ffa"), looks := false }, kinds := [], alts := [], laidByText := true, laidKinds := [.data], laidTests := true, laidLooks := .later }
def FnExactRopeMeasUptoCardSaid : Prop := Claim7.holds Tryd.pinned (.plain (OpenSpec.upto fnExactRopeMeasSpec)) fnExactRopeMeasUptoCard

/-- THE SECOND FORM's CARD OF 'laws.FnExactRopeEdit'. -/
def fnExactRopeEditUptoCard : Claim7 := { stood := { row := fnExactRopeEditUptoRow, standIns := [], harness := (true, "b5a4da3e5fce575eedd3d2a7a61290f81e7b4e0de288edc740ccbed20df54ffa"), looks := false }, kinds := [], alts := [], laidByText := true, laidKinds := [.data], laidTests := true, laidLooks := .later }
def FnExactRopeEditUptoCardSaid : Prop := Claim7.holds Tryd.pinned (.plain (OpenSpec.upto fnExactRopeEditSpec)) fnExactRopeEditUptoCard

/-- THE SECOND FORM's CARD OF 'laws.FnExactRopeSlice'. -/
def fnExactRopeSliceUptoCard : Claim7 := { stood := { row := fnExactRopeSliceUptoRow, standIns := [], harness := (true, "b5a4da3e5fce575eedd3d2a7a61290f81e7b4e0de288edc740ccbed20df54ffa"), looks := false }, kinds := [], alts := [], laidByText := true, laidKinds := [.data], laidTests := true, laidLooks := .later }
def FnExactRopeSliceUptoCardSaid : Prop := Claim7.holds Tryd.pinned (.plain (OpenSpec.upto fnExactRopeSliceSpec)) fnExactRopeSliceUptoCard

/-- THE SECOND FORM's CARD OF 'laws.FnExactRopeSplit'. -/
def fnExactRopeSplitUptoCard : Claim7 := { stood := { row := fnExactRopeSplitUptoRow, standIns := [], harness := (true, "b5a4da3e5fce575eedd3d2a7a61290f81e7b4e0de288edc740ccbed20df54ffa"), looks := false }, kinds := [], alts := [], laidByText := true, laidKinds := [.data], laidTests := true, laidLooks := .later }
def FnExactRopeSplitUptoCardSaid : Prop := Claim7.holds Tryd.pinned (.plain (OpenSpec.upto fnExactRopeSplitSpec)) fnExactRopeSplitUptoCard

/-- THE SECOND FORM's CARD OF 'laws.FnExactRopeJoin'. -/
def fnExactRopeJoinUptoCard : Claim7 := { stood := { row := fnExactRopeJoinUptoRow, standIns := [], harness := (true, "b5a4da3e5fce575eedd3d2a7a61290f81e7b4e0de288edc740ccbed20df54ffa"), looks := false }, kinds := [], alts := [], laidByText := true, laidKinds := [.data], laidTests := true, laidLooks := .later }
def FnExactRopeJoinUptoCardSaid : Prop := Claim7.holds Tryd.pinned (.plain (OpenSpec.upto fnExactRopeJoinSpec)) fnExactRopeJoinUptoCard

/-- THE SECOND FORM's CARD OF 'laws.FnExactRopeFind'. -/
def fnExactRopeFindUptoCard : Claim7 := { stood := { row := fnExactRopeFindUptoRow, standIns := [], harness := (true, "b5a4da3e5fce575eedd3d2a7a61290f81e7b4e0de288edc740ccbed20df54ffa"), looks := false }, kinds := [], alts := [], laidByText := true, laidKinds := [.data], laidTests := true, laidLooks := .later }
def FnExactRopeFindUptoCardSaid : Prop := Claim7.holds Tryd.pinned (.plain (OpenSpec.upto fnExactRopeFindSpec)) fnExactRopeFindUptoCard

/-- THE SECOND FORM's CARD OF 'laws.FnExactRopeFindBack'. -/
def fnExactRopeFindBackUptoCard : Claim7 := { stood := { row := fnExactRopeFindBackUptoRow, standIns := [], harness := (true, "b5a4da3e5fce575eedd3d2a7a61290f81e7b4e0de288edc740ccbed20df54ffa"), looks := false }, kinds := [], alts := [], laidByText := true, laidKinds := [.data], laidTests := true, laidLooks := .later }
def FnExactRopeFindBackUptoCardSaid : Prop := Claim7.holds Tryd.pinned (.plain (OpenSpec.upto fnExactRopeFindBackSpec)) fnExactRopeFindBackUptoCard

/-- THE SECOND FORM's CARD OF 'laws.FnExactRopeLine'. -/
def fnExactRopeLineUptoCard : Claim7 := { stood := { row := fnExactRopeLineUptoRow, standIns := [], harness := (true, "b5a4da3e5fce575eedd3d2a7a61290f81e7b4e0de288edc740ccbed20df54ffa"), looks := false }, kinds := [], alts := [], laidByText := true, laidKinds := [.data], laidTests := true, laidLooks := .later }
def FnExactRopeLineUptoCardSaid : Prop := Claim7.holds Tryd.pinned (.plain (OpenSpec.upto fnExactRopeLineSpec)) fnExactRopeLineUptoCard

/-- THE SECOND FORM's CARD OF 'laws.FnExactRopePlace'. -/
def fnExactRopePlaceUptoCard : Claim7 := { stood := { row := fnExactRopePlaceUptoRow, standIns := [], harness := (true, "b5a4da3e5fce575eedd3d2a7a61290f81e7b4e0de288edc740ccbed20df54ffa"), looks := false }, kinds := [], alts := [], laidByText := true, laidKinds := [.data, .data, .pinned], laidTests := true, laidLooks := .later }
def FnExactRopePlaceUptoCardSaid : Prop := Claim7.holds Tryd.pinned (.plain (OpenSpec.upto fnExactRopePlaceSpec)) fnExactRopePlaceUptoCard
end Rows
end Go.Proofs.YtpipkmnmdipeeaaDoor
