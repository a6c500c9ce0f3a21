/-
  DERIVED. GIVEN WITH THE SEED: THE CARDS: each row of YtkplfbhblbinaabDoorRows.lean that lists a variable, with what it lists TIED to the program's text (the seventh form; the later family's looks); each row that meets fmt, with fmt's text TOLD by the authors' own Lean function (tested against real Go, not proved from fmt's source: count such statements apart). THE CARD IS WHAT COUNTS. Prove the row's statement (the work); the ties are given (YtkplfbhblbinaabDoorTie.lean); close each card by the builder's one call (the guide's Derived/Test/ToyasCard.lean, 'card_holds'). Laid BY PROGRAM, IN A SANDBOX (cutbox-door.mjs). By AI agents, Wed Nov 11 2026. No macro, syntax, notation, axiom, sorry.
-/
import Derived.Test.YtkplfbhblbinaabDoorRows
import GoSem.ClaimSeven
namespace Go.Proofs.YtkplfbhblbinaabDoor
namespace Rows

/-- THE TIED CARD OF 'laws.FnExactDocNew'. -/
def fnExactDocNewCard : Claim7 := { stood := { row := fnExactDocNewRow, standIns := [], harness := (true, "fe55d1e6371920e14eae88a672ea7b3d9507ba62cb85b6d1fc3b5f9130f97784"), looks := false }, kinds := [], alts := [], laidByText := true, laidKinds := [.data], laidTests := true, laidLooks := .later }
def FnExactDocNewCardSaid : Prop := Claim7.holds Tryd.pinned (.plain (OpenSpec.ofChange fnExactDocNewSpec)) fnExactDocNewCard

/-- THE SECOND FORM's CARD OF 'laws.FnExactDocNew'. -/
def fnExactDocNewUptoCard : Claim7 := { stood := { row := fnExactDocNewUptoRow, standIns := [], harness := (true, "fe55d1e6371920e14eae88a672ea7b3d9507ba62cb85b6d1fc3b5f9130f97784"), looks := false }, kinds := [], alts := [], laidByText := true, laidKinds := [.data], laidTests := true, laidLooks := .later }
def FnExactDocNewUptoCardSaid : Prop := Claim7.holds Tryd.pinned (.plain (OpenSpec.upto fnExactDocNewSpec)) fnExactDocNewUptoCard
end Rows
end Go.Proofs.YtkplfbhblbinaabDoor
