/-
  DERIVED. GIVEN WITH THE SEED: THE CARDS: each row of YtdmmdbapkogdhaaDoorRows.lean that lists a variable, with what it lists TIED to the program's text (the seventh form; the later family's looks); each row that meets fmt, with fmt's text TOLD by the authors' own Lean function (tested against real Go, not proved from fmt's source: count such statements apart). THE CARD IS WHAT COUNTS. Prove the row's statement (the work); the ties are given (YtdmmdbapkogdhaaDoorTie.lean); close each card by the builder's one call (the guide's Derived/Test/ToyasCard.lean, 'card_holds'). Laid BY PROGRAM, IN A SANDBOX (cutbox-door.mjs). By AI agents, Wed Nov 11 2026. No macro, syntax, notation, axiom, sorry.
-/
import Derived.Test.YtdmmdbapkogdhaaDoorRows
import GoSem.ClaimSeven
namespace Go.Proofs.YtdmmdbapkogdhaaDoor
namespace Rows

/-- THE TIED CARD OF 'laws.FnReqBack'. -/
def fnReqBackCard : Claim7 := { stood := { row := fnReqBackRow, standIns := [], harness := (true, "8971bd36bf3954aff6aa54cc1f9407b81353b7f32618719235841f30e31ba11c"), looks := true }, kinds := [], alts := [], laidByText := true, laidKinds := [.data], laidTests := true, laidLooks := .later }
def FnReqBackCardSaid : Prop := Claim7.holds Tryd.pinned (.plain (OpenSpec.ofChange fnReqBackSpec)) fnReqBackCard

/-- THE TIED CARD OF 'laws.FnExactReqOk'. -/
def fnExactReqOkCard : Claim7 := { stood := { row := fnExactReqOkRow, standIns := [], harness := (true, "8971bd36bf3954aff6aa54cc1f9407b81353b7f32618719235841f30e31ba11c"), looks := true }, kinds := [], alts := [], laidByText := true, laidKinds := [.data], laidTests := true, laidLooks := .later }
def FnExactReqOkCardSaid : Prop := Claim7.holds Tryd.pinned (.plain (OpenSpec.ofChange fnExactReqOkSpec)) fnExactReqOkCard

/-- THE TIED CARD OF 'laws.FnExactReqBytes'. -/
def fnExactReqBytesCard : Claim7 := { stood := { row := fnExactReqBytesRow, standIns := [], harness := (true, "8971bd36bf3954aff6aa54cc1f9407b81353b7f32618719235841f30e31ba11c"), looks := true }, kinds := [], alts := [], laidByText := true, laidKinds := [.data], laidTests := true, laidLooks := .later }
def FnExactReqBytesCardSaid : Prop := Claim7.holds Tryd.pinned (.plain (OpenSpec.ofChange fnExactReqBytesSpec)) fnExactReqBytesCard

/-- THE TIED CARD OF 'laws.FnExactReqParse'. -/
def fnExactReqParseCard : Claim7 := { stood := { row := fnExactReqParseRow, standIns := [], harness := (true, "8971bd36bf3954aff6aa54cc1f9407b81353b7f32618719235841f30e31ba11c"), looks := true }, kinds := [], alts := [], laidByText := true, laidKinds := [.data], laidTests := true, laidLooks := .later }
def FnExactReqParseCardSaid : Prop := Claim7.holds Tryd.pinned (.plain (OpenSpec.ofChange fnExactReqParseSpec)) fnExactReqParseCard

/-- THE SECOND FORM's CARD OF 'laws.FnReqBack'. -/
def fnReqBackUptoCard : Claim7 := { stood := { row := fnReqBackUptoRow, standIns := [], harness := (true, "8971bd36bf3954aff6aa54cc1f9407b81353b7f32618719235841f30e31ba11c"), looks := true }, kinds := [], alts := [], laidByText := true, laidKinds := [.data], laidTests := true, laidLooks := .later }
def FnReqBackUptoCardSaid : Prop := Claim7.holds Tryd.pinned (.plain (OpenSpec.upto fnReqBackSpec)) fnReqBackUptoCard

/-- THE SECOND FORM's CARD OF 'laws.FnExactReqOk'. -/
def fnExactReqOkUptoCard : Claim7 := { stood := { row := fnExactReqOkUptoRow, standIns := [], harness := (true, "8971bd36bf3954aff6aa54cc1f9407b81353b7f32618719235841f30e31ba11c"), looks := true }, kinds := [], alts := [], laidByText := true, laidKinds := [.data], laidTests := true, laidLooks := .later }
def FnExactReqOkUptoCardSaid : Prop := Claim7.holds Tryd.pinned (.plain (OpenSpec.upto fnExactReqOkSpec)) fnExactReqOkUptoCard

/-- THE SECOND FORM's CARD OF 'laws.FnExactReqBytes'. -/
def fnExactReqBytesUptoCard : Claim7 := { stood := { row := fnExactReqBytesUptoRow, standIns := [], harness := (true, "8971bd36bf3954aff6aa54cc1f9407b81353b7f32618719235841f30e31ba11c"), looks := true }, kinds := [], alts := [], laidByText := true, laidKinds := [.data], laidTests := true, laidLooks := .later }
def FnExactReqBytesUptoCardSaid : Prop := Claim7.holds Tryd.pinned (.plain (OpenSpec.upto fnExactReqBytesSpec)) fnExactReqBytesUptoCard

/-- THE SECOND FORM's CARD OF 'laws.FnExactReqParse'. -/
def fnExactReqParseUptoCard : Claim7 := { stood := { row := fnExactReqParseUptoRow, standIns := [], harness := (true, "8971bd36bf3954aff6aa54cc1f9407b81353b7f32618719235841f30e31ba11c"), looks := true }, kinds := [], alts := [], laidByText := true, laidKinds := [.data], laidTests := true, laidLooks := .later }
def FnExactReqParseUptoCardSaid : Prop := Claim7.holds Tryd.pinned (.plain (OpenSpec.upto fnExactReqParseSpec)) fnExactReqParseUptoCard
end Rows
end Go.Proofs.YtdmmdbapkogdhaaDoor
