/-
  DERIVED. GIVEN WITH THE SEED: THE CARDS: each row of YtoaimklllmelpabDoorRows.lean that lists a variable, with what it lists TIED to the program's text (the seventh form; the later family's looks); each row that meets fmt, with fmt's text TOLD by the authors' own Lean function (tested against real Go, not proved from fmt's source: count such statements apart). THE CARD IS WHAT COUNTS. Prove the row's statement (the work); the ties are given (YtoaimklllmelpabDoorTie.lean); close each card by the builder's one call (the guide's Derived/Test/ToyasCard.lean, 'card_holds'). Laid BY PROGRAM, IN A SANDBOX (cutbox-door.mjs). By AI agents, Wed Nov 11 2026. No macro, syntax, notation, axiom, sorry.
-/
import Derived.Test.YtoaimklllmelpabDoorRows
import GoSem.ClaimSeven
namespace Go.Proofs.YtoaimklllmelpabDoor
namespace Rows

/-- THE TIED CARD OF 'laws.FnSels'. -/
def fnSelsCard : Claim7 := { stood := { row := fnSelsRow, standIns := [], harness := (true, "9434c307a2f011c3c3aa99ee028062359180b0d2fcb4858e720986c8d8b68adc"), looks := false }, kinds := [], alts := [], laidByText := true, laidKinds := [.data], laidTests := true, laidLooks := .later }
def FnSelsCardSaid : Prop := Claim7.holds Tryd.pinned (.plain (OpenSpec.ofChange fnSelsSpec)) fnSelsCard

/-- THE TIED CARD OF 'laws.FnExactSelOk'. -/
def fnExactSelOkCard : Claim7 := { stood := { row := fnExactSelOkRow, standIns := [], harness := (true, "9434c307a2f011c3c3aa99ee028062359180b0d2fcb4858e720986c8d8b68adc"), looks := false }, kinds := [], alts := [], laidByText := true, laidKinds := [.data], laidTests := true, laidLooks := .later }
def FnExactSelOkCardSaid : Prop := Claim7.holds Tryd.pinned (.plain (OpenSpec.ofChange fnExactSelOkSpec)) fnExactSelOkCard

/-- THE TIED CARD OF 'laws.FnEditJoin'. -/
def fnEditJoinCard : Claim7 := { stood := { row := fnEditJoinRow, standIns := [], harness := (true, "9434c307a2f011c3c3aa99ee028062359180b0d2fcb4858e720986c8d8b68adc"), looks := false }, kinds := [], alts := [], laidByText := true, laidKinds := [.data], laidTests := true, laidLooks := .later }
def FnEditJoinCardSaid : Prop := Claim7.holds Tryd.pinned (.plain (OpenSpec.ofChange fnEditJoinSpec)) fnEditJoinCard

/-- THE TIED CARD OF 'laws.FnExactEditsDo'. -/
def fnExactEditsDoCard : Claim7 := { stood := { row := fnExactEditsDoRow, standIns := [], harness := (true, "9434c307a2f011c3c3aa99ee028062359180b0d2fcb4858e720986c8d8b68adc"), looks := false }, kinds := [], alts := [], laidByText := true, laidKinds := [.data], laidTests := true, laidLooks := .later }
def FnExactEditsDoCardSaid : Prop := Claim7.holds Tryd.pinned (.plain (OpenSpec.ofChange fnExactEditsDoSpec)) fnExactEditsDoCard

/-- THE TIED CARD OF 'laws.FnRopeSplit'. -/
def fnRopeSplitCard : Claim7 := { stood := { row := fnRopeSplitRow, standIns := [], harness := (true, "9434c307a2f011c3c3aa99ee028062359180b0d2fcb4858e720986c8d8b68adc"), looks := false }, kinds := [], alts := [], laidByText := true, laidKinds := [.data], laidTests := true, laidLooks := .later }
def FnRopeSplitCardSaid : Prop := Claim7.holds Tryd.pinned (.plain (OpenSpec.ofChange fnRopeSplitSpec)) fnRopeSplitCard

/-- THE TIED CARD OF 'laws.FnExactRopeSplit'. -/
def fnExactRopeSplitCard : Claim7 := { stood := { row := fnExactRopeSplitRow, standIns := [], harness := (true, "9434c307a2f011c3c3aa99ee028062359180b0d2fcb4858e720986c8d8b68adc"), looks := false }, kinds := [], alts := [], laidByText := true, laidKinds := [.data], laidTests := true, laidLooks := .later }
def FnExactRopeSplitCardSaid : Prop := Claim7.holds Tryd.pinned (.plain (OpenSpec.ofChange fnExactRopeSplitSpec)) fnExactRopeSplitCard

/-- THE SECOND FORM's CARD OF 'laws.FnSels'. -/
def fnSelsUptoCard : Claim7 := { stood := { row := fnSelsUptoRow, standIns := [], harness := (true, "9434c307a2f011c3c3aa99ee028062359180b0d2fcb4858e720986c8d8b68adc"), looks := false }, kinds := [], alts := [], laidByText := true, laidKinds := [.data], laidTests := true, laidLooks := .later }
def FnSelsUptoCardSaid : Prop := Claim7.holds Tryd.pinned (.plain (OpenSpec.upto fnSelsSpec)) fnSelsUptoCard

/-- THE SECOND FORM's CARD OF 'laws.FnExactSelOk'. -/
def fnExactSelOkUptoCard : Claim7 := { stood := { row := fnExactSelOkUptoRow, standIns := [], harness := (true, "9434c307a2f011c3c3aa99ee028062359180b0d2fcb4858e720986c8d8b68adc"), looks := false }, kinds := [], alts := [], laidByText := true, laidKinds := [.data], laidTests := true, laidLooks := .later }
def FnExactSelOkUptoCardSaid : Prop := Claim7.holds Tryd.pinned (.plain (OpenSpec.upto fnExactSelOkSpec)) fnExactSelOkUptoCard

/-- THE SECOND FORM's CARD OF 'laws.FnEditJoin'. -/
def fnEditJoinUptoCard : Claim7 := { stood := { row := fnEditJoinUptoRow, standIns := [], harness := (true, "9434c307a2f011c3c3aa99ee028062359180b0d2fcb4858e720986c8d8b68adc"), looks := false }, kinds := [], alts := [], laidByText := true, laidKinds := [.data], laidTests := true, laidLooks := .later }
def FnEditJoinUptoCardSaid : Prop := Claim7.holds Tryd.pinned (.plain (OpenSpec.upto fnEditJoinSpec)) fnEditJoinUptoCard

/-- THE SECOND FORM's CARD OF 'laws.FnExactEditsDo'. -/
def fnExactEditsDoUptoCard : Claim7 := { stood := { row := fnExactEditsDoUptoRow, standIns := [], harness := (true, "9434c307a2f011c3c3aa99ee028062359180b0d2fcb4858e720986c8d8b68adc"), looks := false }, kinds := [], alts := [], laidByText := true, laidKinds := [.data], laidTests := true, laidLooks := .later }
def FnExactEditsDoUptoCardSaid : Prop := Claim7.holds Tryd.pinned (.plain (OpenSpec.upto fnExactEditsDoSpec)) fnExactEditsDoUptoCard

/-- THE SECOND FORM's CARD OF 'laws.FnRopeSplit'. -/
def fnRopeSplitUptoCard : Claim7 := { stood := { row := fnRopeSplitUptoRow, standIns := [], harness := (true, "9434c307a2f011c3c3aa99ee028062359180b0d2fcb4858e720986c8d8b68adc"), looks := false }, kinds := [], alts := [], laidByText := true, laidKinds := [.data], laidTests := true, laidLooks := .later }
def FnRopeSplitUptoCardSaid : Prop := Claim7.holds Tryd.pinned (.plain (OpenSpec.upto fnRopeSplitSpec)) fnRopeSplitUptoCard

/-- THE SECOND FORM's CARD OF 'laws.FnExactRopeSplit'. -/
def fnExactRopeSplitUptoCard : Claim7 := { stood := { row := fnExactRopeSplitUptoRow, standIns := [], harness := (true, "9434c307a2f011c3c3aa99ee028062359180b0d2fcb4858e720986c8d8b68adc"), looks := false }, kinds := [], alts := [], laidByText := true, laidKinds := [.data], laidTests := true, laidLooks := .later }
def FnExactRopeSplitUptoCardSaid : Prop := Claim7.holds Tryd.pinned (.plain (OpenSpec.upto fnExactRopeSplitSpec)) fnExactRopeSplitUptoCard
end Rows
end Go.Proofs.YtoaimklllmelpabDoor
