/-
  DERIVED. GIVEN WITH THE SEED: THE CARDS: each row of YtgpjjolgpppeeaaDoorRows.lean that lists a variable, with what it lists TIED to the program's text (the seventh form; the later family's looks); each row that meets fmt, with fmt's text TOLD by the authors' own Lean function (tested against real Go, not proved from fmt's source: count such statements apart). THE CARD IS WHAT COUNTS. Prove the row's statement (the work); the ties are given (YtgpjjolgpppeeaaDoorTie.lean); close each card by the builder's one call (the guide's Derived/Test/ToyasCard.lean, 'card_holds'). Laid BY PROGRAM, IN A SANDBOX (cutbox-door.mjs). By AI agents, Wed Nov 11 2026. No macro, syntax, notation, axiom, sorry.
-/
import Derived.Test.YtgpjjolgpppeeaaDoorRows
import GoSem.ClaimSeven
namespace Go.Proofs.YtgpjjolgpppeeaaDoor
namespace Rows

/-- THE TIED CARD OF 'laws.FnExactActOk'. -/
def fnExactActOkCard : Claim7 := { stood := { row := fnExactActOkRow, standIns := [], harness := (true, "911da39150395449a3d8d6a00a6b904c4141d7cb468e5a2744bd87fa41a0e16a"), looks := true }, kinds := [], alts := [], laidByText := true, laidKinds := [.data], laidTests := true, laidLooks := .later }
def FnExactActOkCardSaid : Prop := Claim7.holds Tryd.pinned (.plain (OpenSpec.ofChange fnExactActOkSpec)) fnExactActOkCard

/-- THE TIED CARD OF 'laws.FnExactOutsOk'. -/
def fnExactOutsOkCard : Claim7 := { stood := { row := fnExactOutsOkRow, standIns := [], harness := (true, "911da39150395449a3d8d6a00a6b904c4141d7cb468e5a2744bd87fa41a0e16a"), looks := true }, kinds := [], alts := [], laidByText := true, laidKinds := [.data], laidTests := true, laidLooks := .later }
def FnExactOutsOkCardSaid : Prop := Claim7.holds Tryd.pinned (.plain (OpenSpec.ofChange fnExactOutsOkSpec)) fnExactOutsOkCard

/-- THE TIED CARD OF 'laws.FnExactWaits'. -/
def fnExactWaitsCard : Claim7 := { stood := { row := fnExactWaitsRow, standIns := [], harness := (true, "911da39150395449a3d8d6a00a6b904c4141d7cb468e5a2744bd87fa41a0e16a"), looks := true }, kinds := [], alts := [], laidByText := true, laidKinds := [.data], laidTests := true, laidLooks := .later }
def FnExactWaitsCardSaid : Prop := Claim7.holds Tryd.pinned (.plain (OpenSpec.ofChange fnExactWaitsSpec)) fnExactWaitsCard

/-- THE TIED CARD OF 'laws.FnExactWitness'. -/
def fnExactWitnessCard : Claim7 := { stood := { row := fnExactWitnessRow, standIns := [], harness := (true, "911da39150395449a3d8d6a00a6b904c4141d7cb468e5a2744bd87fa41a0e16a"), looks := true }, kinds := [], alts := [], laidByText := true, laidKinds := [.data], laidTests := true, laidLooks := .later }
def FnExactWitnessCardSaid : Prop := Claim7.holds Tryd.pinned (.plain (OpenSpec.ofChange fnExactWitnessSpec)) fnExactWitnessCard

/-- THE TIED CARD OF 'laws.FnReqBack'. -/
def fnReqBackCard : Claim7 := { stood := { row := fnReqBackRow, standIns := [], harness := (true, "911da39150395449a3d8d6a00a6b904c4141d7cb468e5a2744bd87fa41a0e16a"), looks := true }, kinds := [], alts := [], laidByText := true, laidKinds := [.data], laidTests := true, laidLooks := .later }
def FnReqBackCardSaid : Prop := Claim7.holds Tryd.pinned (.plain (OpenSpec.ofChange fnReqBackSpec)) fnReqBackCard

/-- THE SECOND FORM's CARD OF 'laws.FnExactActOk'. -/
def fnExactActOkUptoCard : Claim7 := { stood := { row := fnExactActOkUptoRow, standIns := [], harness := (true, "911da39150395449a3d8d6a00a6b904c4141d7cb468e5a2744bd87fa41a0e16a"), looks := true }, kinds := [], alts := [], laidByText := true, laidKinds := [.data], laidTests := true, laidLooks := .later }
def FnExactActOkUptoCardSaid : Prop := Claim7.holds Tryd.pinned (.plain (OpenSpec.upto fnExactActOkSpec)) fnExactActOkUptoCard

/-- THE SECOND FORM's CARD OF 'laws.FnExactOutsOk'. -/
def fnExactOutsOkUptoCard : Claim7 := { stood := { row := fnExactOutsOkUptoRow, standIns := [], harness := (true, "911da39150395449a3d8d6a00a6b904c4141d7cb468e5a2744bd87fa41a0e16a"), looks := true }, kinds := [], alts := [], laidByText := true, laidKinds := [.data], laidTests := true, laidLooks := .later }
def FnExactOutsOkUptoCardSaid : Prop := Claim7.holds Tryd.pinned (.plain (OpenSpec.upto fnExactOutsOkSpec)) fnExactOutsOkUptoCard

/-- THE SECOND FORM's CARD OF 'laws.FnExactWaits'. -/
def fnExactWaitsUptoCard : Claim7 := { stood := { row := fnExactWaitsUptoRow, standIns := [], harness := (true, "911da39150395449a3d8d6a00a6b904c4141d7cb468e5a2744bd87fa41a0e16a"), looks := true }, kinds := [], alts := [], laidByText := true, laidKinds := [.data], laidTests := true, laidLooks := .later }
def FnExactWaitsUptoCardSaid : Prop := Claim7.holds Tryd.pinned (.plain (OpenSpec.upto fnExactWaitsSpec)) fnExactWaitsUptoCard

/-- THE SECOND FORM's CARD OF 'laws.FnExactWitness'. -/
def fnExactWitnessUptoCard : Claim7 := { stood := { row := fnExactWitnessUptoRow, standIns := [], harness := (true, "911da39150395449a3d8d6a00a6b904c4141d7cb468e5a2744bd87fa41a0e16a"), looks := true }, kinds := [], alts := [], laidByText := true, laidKinds := [.data], laidTests := true, laidLooks := .later }
def FnExactWitnessUptoCardSaid : Prop := Claim7.holds Tryd.pinned (.plain (OpenSpec.upto fnExactWitnessSpec)) fnExactWitnessUptoCard

/-- THE SECOND FORM's CARD OF 'laws.FnReqBack'. -/
def fnReqBackUptoCard : Claim7 := { stood := { row := fnReqBackUptoRow, standIns := [], harness := (true, "911da39150395449a3d8d6a00a6b904c4141d7cb468e5a2744bd87fa41a0e16a"), looks := true }, kinds := [], alts := [], laidByText := true, laidKinds := [.data], laidTests := true, laidLooks := .later }
def FnReqBackUptoCardSaid : Prop := Claim7.holds Tryd.pinned (.plain (OpenSpec.upto fnReqBackSpec)) fnReqBackUptoCard
end Rows
end Go.Proofs.YtgpjjolgpppeeaaDoor
