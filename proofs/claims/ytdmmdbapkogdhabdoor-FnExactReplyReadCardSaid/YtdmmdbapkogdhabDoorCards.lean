/-
  DERIVED. GIVEN WITH THE SEED: THE CARDS: each row of YtdmmdbapkogdhabDoorRows.lean that lists a variable, with what it lists TIED to the program's text (the seventh form; the later family's looks); each row that meets fmt, with fmt's text TOLD by the authors' own Lean function (tested against real Go, not proved from fmt's source: count such statements apart). THE CARD IS WHAT COUNTS. Prove the row's statement (the work); the ties are given (YtdmmdbapkogdhabDoorTie.lean); close each card by the builder's one call (the guide's Derived/Test/ToyasCard.lean, 'card_holds'). Laid BY PROGRAM, IN A SANDBOX (cutbox-door.mjs). By AI agents, Wed Nov 11 2026. No macro, syntax, notation, axiom, sorry.
-/
import Derived.Test.YtdmmdbapkogdhabDoorRows
import GoSem.ClaimSeven
namespace Go.Proofs.YtdmmdbapkogdhabDoor
namespace Rows

/-- THE TIED CARD OF 'laws.FnExactReplyOk'. -/
def fnExactReplyOkCard : Claim7 := { stood := { row := fnExactReplyOkRow, standIns := [], harness := (true, "17532f25427184d48ac6853b486c332a8d71171145c4343857472f08a8095d9e"), looks := false }, kinds := [], alts := [], laidByText := true, laidKinds := [.data], laidTests := true, laidLooks := .later }
def FnExactReplyOkCardSaid : Prop := Claim7.holds Tryd.pinned (.plain (OpenSpec.ofChange fnExactReplyOkSpec)) fnExactReplyOkCard

/-- THE TIED CARD OF 'laws.FnExactReplyBytes'. -/
def fnExactReplyBytesCard : Claim7 := { stood := { row := fnExactReplyBytesRow, standIns := [], harness := (true, "17532f25427184d48ac6853b486c332a8d71171145c4343857472f08a8095d9e"), looks := false }, kinds := [], alts := [], laidByText := true, laidKinds := [.data], laidTests := true, laidLooks := .later }
def FnExactReplyBytesCardSaid : Prop := Claim7.holds Tryd.pinned (.plain (OpenSpec.ofChange fnExactReplyBytesSpec)) fnExactReplyBytesCard

/-- THE TIED CARD OF 'laws.FnExactReplyRead'. -/
def fnExactReplyReadCard : Claim7 := { stood := { row := fnExactReplyReadRow, standIns := [], harness := (true, "17532f25427184d48ac6853b486c332a8d71171145c4343857472f08a8095d9e"), looks := false }, kinds := [], alts := [], laidByText := true, laidKinds := [.data], laidTests := true, laidLooks := .later }
def FnExactReplyReadCardSaid : Prop := Claim7.holds Tryd.pinned (.plain (OpenSpec.ofChange fnExactReplyReadSpec)) fnExactReplyReadCard

/-- THE SECOND FORM's CARD OF 'laws.FnExactReplyOk'. -/
def fnExactReplyOkUptoCard : Claim7 := { stood := { row := fnExactReplyOkUptoRow, standIns := [], harness := (true, "17532f25427184d48ac6853b486c332a8d71171145c4343857472f08a8095d9e"), looks := false }, kinds := [], alts := [], laidByText := true, laidKinds := [.data], laidTests := true, laidLooks := .later }
def FnExactReplyOkUptoCardSaid : Prop := Claim7.holds Tryd.pinned (.plain (OpenSpec.upto fnExactReplyOkSpec)) fnExactReplyOkUptoCard

/-- THE SECOND FORM's CARD OF 'laws.FnExactReplyBytes'. -/
def fnExactReplyBytesUptoCard : Claim7 := { stood := { row := fnExactReplyBytesUptoRow, standIns := [], harness := (true, "17532f25427184d48ac6853b486c332a8d71171145c4343857472f08a8095d9e"), looks := false }, kinds := [], alts := [], laidByText := true, laidKinds := [.data], laidTests := true, laidLooks := .later }
def FnExactReplyBytesUptoCardSaid : Prop := Claim7.holds Tryd.pinned (.plain (OpenSpec.upto fnExactReplyBytesSpec)) fnExactReplyBytesUptoCard

/-- THE SECOND FORM's CARD OF 'laws.FnExactReplyRead'. -/
def fnExactReplyReadUptoCard : Claim7 := { stood := { row := fnExactReplyReadUptoRow, standIns := [], harness := (true, "17532f25427184d48ac6853b486c332a8d71171145c4343857472f08a8095d9e"), looks := false }, kinds := [], alts := [], laidByText := true, laidKinds := [.data], laidTests := true, laidLooks := .later }
def FnExactReplyReadUptoCardSaid : Prop := Claim7.holds Tryd.pinned (.plain (OpenSpec.upto fnExactReplyReadSpec)) fnExactReplyReadUptoCard
end Rows
end Go.Proofs.YtdmmdbapkogdhabDoor
