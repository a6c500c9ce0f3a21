/-
  DERIVED. GIVEN WITH THE SEED: THE CARDS: each row of YtkplfbhblbinaaaDoorRows.lean that lists a variable, with what it lists TIED to the program's text (the seventh form; the later family's looks); each row that meets fmt, with fmt's text TOLD by the authors' own Lean function (tested against real Go, not proved from fmt's source: count such statements apart). THE CARD IS WHAT COUNTS. Prove the row's statement (the work); the ties are given (YtkplfbhblbinaaaDoorTie.lean); close each card by the builder's one call (the guide's Derived/Test/ToyasCard.lean, 'card_holds'). Laid BY PROGRAM, IN A SANDBOX (cutbox-door.mjs). By AI agents, Wed Nov 11 2026. No macro, syntax, notation, axiom, sorry.
-/
import Derived.Test.YtkplfbhblbinaaaDoorRows
import GoSem.ClaimSeven
namespace Go.Proofs.YtkplfbhblbinaaaDoor
namespace Rows

/-- THE TIED CARD OF 'laws.FnEditBack'. -/
def fnEditBackCard : Claim7 := { stood := { row := fnEditBackRow, standIns := [], harness := (true, "8cb2d8d9a93de09405f558ef3b304da29374f999009815a25df8a6b025e318f8"), looks := false }, kinds := [], alts := [], laidByText := true, laidKinds := [.data], laidTests := true, laidLooks := .later }
def FnEditBackCardSaid : Prop := Claim7.holds Tryd.pinned (.plain (OpenSpec.ofChange fnEditBackSpec)) fnEditBackCard

/-- THE TIED CARD OF 'laws.FnEditOf'. -/
def fnEditOfCard : Claim7 := { stood := { row := fnEditOfRow, standIns := [], harness := (true, "8cb2d8d9a93de09405f558ef3b304da29374f999009815a25df8a6b025e318f8"), looks := false }, kinds := [], alts := [], laidByText := true, laidKinds := [.data], laidTests := true, laidLooks := .later }
def FnEditOfCardSaid : Prop := Claim7.holds Tryd.pinned (.plain (OpenSpec.ofChange fnEditOfSpec)) fnEditOfCard

/-- THE TIED CARD OF 'laws.FnEditJoin'. -/
def fnEditJoinCard : Claim7 := { stood := { row := fnEditJoinRow, standIns := [], harness := (true, "8cb2d8d9a93de09405f558ef3b304da29374f999009815a25df8a6b025e318f8"), looks := false }, kinds := [], alts := [], laidByText := true, laidKinds := [.data], laidTests := true, laidLooks := .later }
def FnEditJoinCardSaid : Prop := Claim7.holds Tryd.pinned (.plain (OpenSpec.ofChange fnEditJoinSpec)) fnEditJoinCard

/-- THE TIED CARD OF 'laws.FnEditsDo'. -/
def fnEditsDoCard : Claim7 := { stood := { row := fnEditsDoRow, standIns := [], harness := (true, "8cb2d8d9a93de09405f558ef3b304da29374f999009815a25df8a6b025e318f8"), looks := false }, kinds := [], alts := [], laidByText := true, laidKinds := [.data], laidTests := true, laidLooks := .later }
def FnEditsDoCardSaid : Prop := Claim7.holds Tryd.pinned (.plain (OpenSpec.ofChange fnEditsDoSpec)) fnEditsDoCard

/-- THE TIED CARD OF 'laws.FnMoved'. -/
def fnMovedCard : Claim7 := { stood := { row := fnMovedRow, standIns := [], harness := (true, "8cb2d8d9a93de09405f558ef3b304da29374f999009815a25df8a6b025e318f8"), looks := false }, kinds := [], alts := [], laidByText := true, laidKinds := [.data], laidTests := true, laidLooks := .later }
def FnMovedCardSaid : Prop := Claim7.holds Tryd.pinned (.plain (OpenSpec.ofChange fnMovedSpec)) fnMovedCard

/-- THE TIED CARD OF 'laws.FnExactEditOk'. -/
def fnExactEditOkCard : Claim7 := { stood := { row := fnExactEditOkRow, standIns := [], harness := (true, "8cb2d8d9a93de09405f558ef3b304da29374f999009815a25df8a6b025e318f8"), looks := false }, kinds := [], alts := [], laidByText := true, laidKinds := [.data], laidTests := true, laidLooks := .later }
def FnExactEditOkCardSaid : Prop := Claim7.holds Tryd.pinned (.plain (OpenSpec.ofChange fnExactEditOkSpec)) fnExactEditOkCard

/-- THE TIED CARD OF 'laws.FnExactEditDo'. -/
def fnExactEditDoCard : Claim7 := { stood := { row := fnExactEditDoRow, standIns := [], harness := (true, "8cb2d8d9a93de09405f558ef3b304da29374f999009815a25df8a6b025e318f8"), looks := false }, kinds := [], alts := [], laidByText := true, laidKinds := [.data], laidTests := true, laidLooks := .later }
def FnExactEditDoCardSaid : Prop := Claim7.holds Tryd.pinned (.plain (OpenSpec.ofChange fnExactEditDoSpec)) fnExactEditDoCard

/-- THE TIED CARD OF 'laws.FnExactEditBack'. -/
def fnExactEditBackCard : Claim7 := { stood := { row := fnExactEditBackRow, standIns := [], harness := (true, "8cb2d8d9a93de09405f558ef3b304da29374f999009815a25df8a6b025e318f8"), looks := false }, kinds := [], alts := [], laidByText := true, laidKinds := [.data], laidTests := true, laidLooks := .later }
def FnExactEditBackCardSaid : Prop := Claim7.holds Tryd.pinned (.plain (OpenSpec.ofChange fnExactEditBackSpec)) fnExactEditBackCard

/-- THE TIED CARD OF 'laws.FnExactEditsDo'. -/
def fnExactEditsDoCard : Claim7 := { stood := { row := fnExactEditsDoRow, standIns := [], harness := (true, "8cb2d8d9a93de09405f558ef3b304da29374f999009815a25df8a6b025e318f8"), looks := false }, kinds := [], alts := [], laidByText := true, laidKinds := [.data], laidTests := true, laidLooks := .later }
def FnExactEditsDoCardSaid : Prop := Claim7.holds Tryd.pinned (.plain (OpenSpec.ofChange fnExactEditsDoSpec)) fnExactEditsDoCard

/-- THE SECOND FORM's CARD OF 'laws.FnEditBack'. -/
def fnEditBackUptoCard : Claim7 := { stood := { row := fnEditBackUptoRow, standIns := [], harness := (true, "8cb2d8d9a93de09405f558ef3b304da29374f999009815a25df8a6b025e318f8"), looks := false }, kinds := [], alts := [], laidByText := true, laidKinds := [.data], laidTests := true, laidLooks := .later }
def FnEditBackUptoCardSaid : Prop := Claim7.holds Tryd.pinned (.plain (OpenSpec.upto fnEditBackSpec)) fnEditBackUptoCard

/-- THE SECOND FORM's CARD OF 'laws.FnEditOf'. -/
def fnEditOfUptoCard : Claim7 := { stood := { row := fnEditOfUptoRow, standIns := [], harness := (true, "8cb2d8d9a93de09405f558ef3b304da29374f999009815a25df8a6b025e318f8"), looks := false }, kinds := [], alts := [], laidByText := true, laidKinds := [.data], laidTests := true, laidLooks := .later }
def FnEditOfUptoCardSaid : Prop := Claim7.holds Tryd.pinned (.plain (OpenSpec.upto fnEditOfSpec)) fnEditOfUptoCard

/-- THE SECOND FORM's CARD OF 'laws.FnEditJoin'. -/
def fnEditJoinUptoCard : Claim7 := { stood := { row := fnEditJoinUptoRow, standIns := [], harness := (true, "8cb2d8d9a93de09405f558ef3b304da29374f999009815a25df8a6b025e318f8"), looks := false }, kinds := [], alts := [], laidByText := true, laidKinds := [.data], laidTests := true, laidLooks := .later }
def FnEditJoinUptoCardSaid : Prop := Claim7.holds Tryd.pinned (.plain (OpenSpec.upto fnEditJoinSpec)) fnEditJoinUptoCard

/-- THE SECOND FORM's CARD OF 'laws.FnEditsDo'. -/
def fnEditsDoUptoCard : Claim7 := { stood := { row := fnEditsDoUptoRow, standIns := [], harness := (true, "8cb2d8d9a93de09405f558ef3b304da29374f999009815a25df8a6b025e318f8"), looks := false }, kinds := [], alts := [], laidByText := true, laidKinds := [.data], laidTests := true, laidLooks := .later }
def FnEditsDoUptoCardSaid : Prop := Claim7.holds Tryd.pinned (.plain (OpenSpec.upto fnEditsDoSpec)) fnEditsDoUptoCard

/-- THE SECOND FORM's CARD OF 'laws.FnMoved'. -/
def fnMovedUptoCard : Claim7 := { stood := { row := fnMovedUptoRow, standIns := [], harness := (true, "8cb2d8d9a93de09405f558ef3b304da29374f999009815a25df8a6b025e318f8"), looks := false }, kinds := [], alts := [], laidByText := true, laidKinds := [.data], laidTests := true, laidLooks := .later }
def FnMovedUptoCardSaid : Prop := Claim7.holds Tryd.pinned (.plain (OpenSpec.upto fnMovedSpec)) fnMovedUptoCard

/-- THE SECOND FORM's CARD OF 'laws.FnExactEditOk'. -/
def fnExactEditOkUptoCard : Claim7 := { stood := { row := fnExactEditOkUptoRow, standIns := [], harness := (true, "8cb2d8d9a93de09405f558ef3b304da29374f999009815a25df8a6b025e318f8"), looks := false }, kinds := [], alts := [], laidByText := true, laidKinds := [.data], laidTests := true, laidLooks := .later }
def FnExactEditOkUptoCardSaid : Prop := Claim7.holds Tryd.pinned (.plain (OpenSpec.upto fnExactEditOkSpec)) fnExactEditOkUptoCard

/-- THE SECOND FORM's CARD OF 'laws.FnExactEditDo'. -/
def fnExactEditDoUptoCard : Claim7 := { stood := { row := fnExactEditDoUptoRow, standIns := [], harness := (true, "8cb2d8d9a93de09405f558ef3b304da29374f999009815a25df8a6b025e318f8"), looks := false }, kinds := [], alts := [], laidByText := true, laidKinds := [.data], laidTests := true, laidLooks := .later }
def FnExactEditDoUptoCardSaid : Prop := Claim7.holds Tryd.pinned (.plain (OpenSpec.upto fnExactEditDoSpec)) fnExactEditDoUptoCard

/-- THE SECOND FORM's CARD OF 'laws.FnExactEditBack'. -/
def fnExactEditBackUptoCard : Claim7 := { stood := { row := fnExactEditBackUptoRow, standIns := [], harness := (true, "8cb2d8d9a93de09405f558ef3b304da29374f999009815a25df8a6b025e318f8"), looks := false }, kinds := [], alts := [], laidByText := true, laidKinds := [.data], laidTests := true, laidLooks := .later }
def FnExactEditBackUptoCardSaid : Prop := Claim7.holds Tryd.pinned (.plain (OpenSpec.upto fnExactEditBackSpec)) fnExactEditBackUptoCard

/-- THE SECOND FORM's CARD OF 'laws.FnExactEditsDo'. -/
def fnExactEditsDoUptoCard : Claim7 := { stood := { row := fnExactEditsDoUptoRow, standIns := [], harness := (true, "8cb2d8d9a93de09405f558ef3b304da29374f999009815a25df8a6b025e318f8"), looks := false }, kinds := [], alts := [], laidByText := true, laidKinds := [.data], laidTests := true, laidLooks := .later }
def FnExactEditsDoUptoCardSaid : Prop := Claim7.holds Tryd.pinned (.plain (OpenSpec.upto fnExactEditsDoSpec)) fnExactEditsDoUptoCard
end Rows
end Go.Proofs.YtkplfbhblbinaaaDoor
