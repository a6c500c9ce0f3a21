/-
  DERIVED. GIVEN WITH THE SEED: THE CARDS: each row of YtepffgahgfipjaaDoorRows.lean that lists a variable, with what it lists TIED to the program's text (the seventh form; the later family's looks); each row that meets fmt, with fmt's text TOLD by the authors' own Lean function (tested against real Go, not proved from fmt's source: count such statements apart). THE CARD IS WHAT COUNTS. Prove the row's statement (the work); the ties are given (YtepffgahgfipjaaDoorTie.lean); close each card by the builder's one call (the guide's Derived/Test/ToyasCard.lean, 'card_holds'). Laid BY PROGRAM, IN A SANDBOX (cutbox-door.mjs). By AI agents, Wed Nov 11 2026. No macro, syntax, notation, axiom, sorry.
-/
import Derived.Test.YtepffgahgfipjaaDoorRows
import GoSem.ClaimSeven
namespace Go.Proofs.YtepffgahgfipjaaDoor
namespace Rows

/-- THE TIED CARD OF 'laws.FnEditBack'. -/
def fnEditBackCard : Claim7 := { stood := { row := fnEditBackRow, standIns := [], harness := (true, "bf84e81aa62d6392f4647a4269c33c14e9626cf313847940b002ceeef51cb8a5"), looks := false }, kinds := [], alts := [], laidByText := true, laidKinds := [.data], laidTests := true, laidLooks := .later }
def FnEditBackCardSaid : Prop := Claim7.holds Tryd.pinned (.plain (OpenSpec.ofChange fnEditBackSpec)) fnEditBackCard

/-- THE TIED CARD OF 'laws.FnEditOf'. -/
def fnEditOfCard : Claim7 := { stood := { row := fnEditOfRow, standIns := [], harness := (true, "bf84e81aa62d6392f4647a4269c33c14e9626cf313847940b002ceeef51cb8a5"), looks := false }, kinds := [], alts := [], laidByText := true, laidKinds := [.data], laidTests := true, laidLooks := .later }
def FnEditOfCardSaid : Prop := Claim7.holds Tryd.pinned (.plain (OpenSpec.ofChange fnEditOfSpec)) fnEditOfCard

/-- THE TIED CARD OF 'laws.FnEditJoin'. -/
def fnEditJoinCard : Claim7 := { stood := { row := fnEditJoinRow, standIns := [], harness := (true, "bf84e81aa62d6392f4647a4269c33c14e9626cf313847940b002ceeef51cb8a5"), looks := false }, kinds := [], alts := [], laidByText := true, laidKinds := [.data], laidTests := true, laidLooks := .later }
def FnEditJoinCardSaid : Prop := Claim7.holds Tryd.pinned (.plain (OpenSpec.ofChange fnEditJoinSpec)) fnEditJoinCard

/-- THE TIED CARD OF 'laws.FnEditsDo'. -/
def fnEditsDoCard : Claim7 := { stood := { row := fnEditsDoRow, standIns := [], harness := (true, "bf84e81aa62d6392f4647a4269c33c14e9626cf313847940b002ceeef51cb8a5"), looks := false }, kinds := [], alts := [], laidByText := true, laidKinds := [.data], laidTests := true, laidLooks := .later }
def FnEditsDoCardSaid : Prop := Claim7.holds Tryd.pinned (.plain (OpenSpec.ofChange fnEditsDoSpec)) fnEditsDoCard

/-- THE TIED CARD OF 'laws.FnExactEditOk'. -/
def fnExactEditOkCard : Claim7 := { stood := { row := fnExactEditOkRow, standIns := [], harness := (true, "bf84e81aa62d6392f4647a4269c33c14e9626cf313847940b002ceeef51cb8a5"), looks := false }, kinds := [], alts := [], laidByText := true, laidKinds := [.data], laidTests := true, laidLooks := .later }
def FnExactEditOkCardSaid : Prop := Claim7.holds Tryd.pinned (.plain (OpenSpec.ofChange fnExactEditOkSpec)) fnExactEditOkCard

/-- THE TIED CARD OF 'laws.FnExactEditDo'. -/
def fnExactEditDoCard : Claim7 := { stood := { row := fnExactEditDoRow, standIns := [], harness := (true, "bf84e81aa62d6392f4647a4269c33c14e9626cf313847940b002ceeef51cb8a5"), looks := false }, kinds := [], alts := [], laidByText := true, laidKinds := [.data], laidTests := true, laidLooks := .later }
def FnExactEditDoCardSaid : Prop := Claim7.holds Tryd.pinned (.plain (OpenSpec.ofChange fnExactEditDoSpec)) fnExactEditDoCard

/-- THE TIED CARD OF 'laws.FnExactEditBack'. -/
def fnExactEditBackCard : Claim7 := { stood := { row := fnExactEditBackRow, standIns := [], harness := (true, "bf84e81aa62d6392f4647a4269c33c14e9626cf313847940b002ceeef51cb8a5"), looks := false }, kinds := [], alts := [], laidByText := true, laidKinds := [.data], laidTests := true, laidLooks := .later }
def FnExactEditBackCardSaid : Prop := Claim7.holds Tryd.pinned (.plain (OpenSpec.ofChange fnExactEditBackSpec)) fnExactEditBackCard

/-- THE TIED CARD OF 'laws.FnExactEditsDo'. -/
def fnExactEditsDoCard : Claim7 := { stood := { row := fnExactEditsDoRow, standIns := [], harness := (true, "bf84e81aa62d6392f4647a4269c33c14e9626cf313847940b002ceeef51cb8a5"), looks := false }, kinds := [], alts := [], laidByText := true, laidKinds := [.data], laidTests := true, laidLooks := .later }
def FnExactEditsDoCardSaid : Prop := Claim7.holds Tryd.pinned (.plain (OpenSpec.ofChange fnExactEditsDoSpec)) fnExactEditsDoCard

/-- THE TIED CARD OF 'laws.FnExactEditOf'. -/
def fnExactEditOfCard : Claim7 := { stood := { row := fnExactEditOfRow, standIns := [], harness := (true, "bf84e81aa62d6392f4647a4269c33c14e9626cf313847940b002ceeef51cb8a5"), looks := false }, kinds := [], alts := [], laidByText := true, laidKinds := [.data], laidTests := true, laidLooks := .later }
def FnExactEditOfCardSaid : Prop := Claim7.holds Tryd.pinned (.plain (OpenSpec.ofChange fnExactEditOfSpec)) fnExactEditOfCard

/-- THE TIED CARD OF 'laws.FnRopeSplit'. -/
def fnRopeSplitCard : Claim7 := { stood := { row := fnRopeSplitRow, standIns := [], harness := (true, "bf84e81aa62d6392f4647a4269c33c14e9626cf313847940b002ceeef51cb8a5"), looks := false }, kinds := [], alts := [], laidByText := true, laidKinds := [.data], laidTests := true, laidLooks := .later }
def FnRopeSplitCardSaid : Prop := Claim7.holds Tryd.pinned (.plain (OpenSpec.ofChange fnRopeSplitSpec)) fnRopeSplitCard

/-- THE TIED CARD OF 'laws.FnExactRopeSplit'. -/
def fnExactRopeSplitCard : Claim7 := { stood := { row := fnExactRopeSplitRow, standIns := [], harness := (true, "bf84e81aa62d6392f4647a4269c33c14e9626cf313847940b002ceeef51cb8a5"), looks := false }, kinds := [], alts := [], laidByText := true, laidKinds := [.data], laidTests := true, laidLooks := .later }
def FnExactRopeSplitCardSaid : Prop := Claim7.holds Tryd.pinned (.plain (OpenSpec.ofChange fnExactRopeSplitSpec)) fnExactRopeSplitCard

/-- THE SECOND FORM's CARD OF 'laws.FnEditBack'. -/
def fnEditBackUptoCard : Claim7 := { stood := { row := fnEditBackUptoRow, standIns := [], harness := (true, "bf84e81aa62d6392f4647a4269c33c14e9626cf313847940b002ceeef51cb8a5"), looks := false }, kinds := [], alts := [], laidByText := true, laidKinds := [.data], laidTests := true, laidLooks := .later }
def FnEditBackUptoCardSaid : Prop := Claim7.holds Tryd.pinned (.plain (OpenSpec.upto fnEditBackSpec)) fnEditBackUptoCard

/-- THE SECOND FORM's CARD OF 'laws.FnEditOf'. -/
def fnEditOfUptoCard : Claim7 := { stood := { row := fnEditOfUptoRow, standIns := [], harness := (true, "bf84e81aa62d6392f4647a4269c33c14e9626cf313847940b002ceeef51cb8a5"), looks := false }, kinds := [], alts := [], laidByText := true, laidKinds := [.data], laidTests := true, laidLooks := .later }
def FnEditOfUptoCardSaid : Prop := Claim7.holds Tryd.pinned (.plain (OpenSpec.upto fnEditOfSpec)) fnEditOfUptoCard

/-- THE SECOND FORM's CARD OF 'laws.FnEditJoin'. -/
def fnEditJoinUptoCard : Claim7 := { stood := { row := fnEditJoinUptoRow, standIns := [], harness := (true, "bf84e81aa62d6392f4647a4269c33c14e9626cf313847940b002ceeef51cb8a5"), looks := false }, kinds := [], alts := [], laidByText := true, laidKinds := [.data], laidTests := true, laidLooks := .later }
def FnEditJoinUptoCardSaid : Prop := Claim7.holds Tryd.pinned (.plain (OpenSpec.upto fnEditJoinSpec)) fnEditJoinUptoCard

/-- THE SECOND FORM's CARD OF 'laws.FnEditsDo'. -/
def fnEditsDoUptoCard : Claim7 := { stood := { row := fnEditsDoUptoRow, standIns := [], harness := (true, "bf84e81aa62d6392f4647a4269c33c14e9626cf313847940b002ceeef51cb8a5"), looks := false }, kinds := [], alts := [], laidByText := true, laidKinds := [.data], laidTests := true, laidLooks := .later }
def FnEditsDoUptoCardSaid : Prop := Claim7.holds Tryd.pinned (.plain (OpenSpec.upto fnEditsDoSpec)) fnEditsDoUptoCard

/-- THE SECOND FORM's CARD OF 'laws.FnExactEditOk'. -/
def fnExactEditOkUptoCard : Claim7 := { stood := { row := fnExactEditOkUptoRow, standIns := [], harness := (true, "bf84e81aa62d6392f4647a4269c33c14e9626cf313847940b002ceeef51cb8a5"), looks := false }, kinds := [], alts := [], laidByText := true, laidKinds := [.data], laidTests := true, laidLooks := .later }
def FnExactEditOkUptoCardSaid : Prop := Claim7.holds Tryd.pinned (.plain (OpenSpec.upto fnExactEditOkSpec)) fnExactEditOkUptoCard

/-- THE SECOND FORM's CARD OF 'laws.FnExactEditDo'. -/
def fnExactEditDoUptoCard : Claim7 := { stood := { row := fnExactEditDoUptoRow, standIns := [], harness := (true, "bf84e81aa62d6392f4647a4269c33c14e9626cf313847940b002ceeef51cb8a5"), looks := false }, kinds := [], alts := [], laidByText := true, laidKinds := [.data], laidTests := true, laidLooks := .later }
def FnExactEditDoUptoCardSaid : Prop := Claim7.holds Tryd.pinned (.plain (OpenSpec.upto fnExactEditDoSpec)) fnExactEditDoUptoCard

/-- THE SECOND FORM's CARD OF 'laws.FnExactEditBack'. -/
def fnExactEditBackUptoCard : Claim7 := { stood := { row := fnExactEditBackUptoRow, standIns := [], harness := (true, "bf84e81aa62d6392f4647a4269c33c14e9626cf313847940b002ceeef51cb8a5"), looks := false }, kinds := [], alts := [], laidByText := true, laidKinds := [.data], laidTests := true, laidLooks := .later }
def FnExactEditBackUptoCardSaid : Prop := Claim7.holds Tryd.pinned (.plain (OpenSpec.upto fnExactEditBackSpec)) fnExactEditBackUptoCard

/-- THE SECOND FORM's CARD OF 'laws.FnExactEditsDo'. -/
def fnExactEditsDoUptoCard : Claim7 := { stood := { row := fnExactEditsDoUptoRow, standIns := [], harness := (true, "bf84e81aa62d6392f4647a4269c33c14e9626cf313847940b002ceeef51cb8a5"), looks := false }, kinds := [], alts := [], laidByText := true, laidKinds := [.data], laidTests := true, laidLooks := .later }
def FnExactEditsDoUptoCardSaid : Prop := Claim7.holds Tryd.pinned (.plain (OpenSpec.upto fnExactEditsDoSpec)) fnExactEditsDoUptoCard

/-- THE SECOND FORM's CARD OF 'laws.FnExactEditOf'. -/
def fnExactEditOfUptoCard : Claim7 := { stood := { row := fnExactEditOfUptoRow, standIns := [], harness := (true, "bf84e81aa62d6392f4647a4269c33c14e9626cf313847940b002ceeef51cb8a5"), looks := false }, kinds := [], alts := [], laidByText := true, laidKinds := [.data], laidTests := true, laidLooks := .later }
def FnExactEditOfUptoCardSaid : Prop := Claim7.holds Tryd.pinned (.plain (OpenSpec.upto fnExactEditOfSpec)) fnExactEditOfUptoCard

/-- THE SECOND FORM's CARD OF 'laws.FnRopeSplit'. -/
def fnRopeSplitUptoCard : Claim7 := { stood := { row := fnRopeSplitUptoRow, standIns := [], harness := (true, "bf84e81aa62d6392f4647a4269c33c14e9626cf313847940b002ceeef51cb8a5"), looks := false }, kinds := [], alts := [], laidByText := true, laidKinds := [.data], laidTests := true, laidLooks := .later }
def FnRopeSplitUptoCardSaid : Prop := Claim7.holds Tryd.pinned (.plain (OpenSpec.upto fnRopeSplitSpec)) fnRopeSplitUptoCard

/-- THE SECOND FORM's CARD OF 'laws.FnExactRopeSplit'. -/
def fnExactRopeSplitUptoCard : Claim7 := { stood := { row := fnExactRopeSplitUptoRow, standIns := [], harness := (true, "bf84e81aa62d6392f4647a4269c33c14e9626cf313847940b002ceeef51cb8a5"), looks := false }, kinds := [], alts := [], laidByText := true, laidKinds := [.data], laidTests := true, laidLooks := .later }
def FnExactRopeSplitUptoCardSaid : Prop := Claim7.holds Tryd.pinned (.plain (OpenSpec.upto fnExactRopeSplitSpec)) fnExactRopeSplitUptoCard
end Rows
end Go.Proofs.YtepffgahgfipjaaDoor
