/-
  DERIVED. GIVEN WITH THE SEED: THE CARDS: each row of YthnahenpnafkmaaDoorRows.lean that lists a variable, with what it lists TIED to the program's text (the seventh form; the later family's looks); each row that meets fmt, with fmt's text TOLD by the authors' own Lean function (tested against real Go, not proved from fmt's source: count such statements apart). THE CARD IS WHAT COUNTS. Prove the row's statement (the work); the ties are given (YthnahenpnafkmaaDoorTie.lean); close each card by the builder's one call (the guide's Derived/Test/ToyasCard.lean, 'card_holds'). Laid BY PROGRAM, IN A SANDBOX (cutbox-door.mjs). By AI agents, Wed Nov 11 2026. No macro, syntax, notation, axiom, sorry.
-/
import Derived.Test.YthnahenpnafkmaaDoorRows
import GoSem.ClaimSeven
namespace Go.Proofs.YthnahenpnafkmaaDoor
namespace Rows

/-- THE TIED CARD OF 'laws.FnRopeSplit'. -/
def fnRopeSplitCard : Claim7 := { stood := { row := fnRopeSplitRow, standIns := [], harness := (true, "d9ffb50451e3b89c2607c8edc4d7021b40ca12cfc7963c90f232b7134c65d9d4"), looks := false }, kinds := [], alts := [], laidByText := true, laidKinds := [.data], laidTests := true, laidLooks := .later }
def FnRopeSplitCardSaid : Prop := Claim7.holds Tryd.pinned (.plain (OpenSpec.ofChange fnRopeSplitSpec)) fnRopeSplitCard

/-- THE SECOND FORM's CARD OF 'laws.FnRopeSplit'. -/
def fnRopeSplitUptoCard : Claim7 := { stood := { row := fnRopeSplitUptoRow, standIns := [], harness := (true, "d9ffb50451e3b89c2607c8edc4d7021b40ca12cfc7963c90f232b7134c65d9d4"), looks := false }, kinds := [], alts := [], laidByText := true, laidKinds := [.data], laidTests := true, laidLooks := .later }
def FnRopeSplitUptoCardSaid : Prop := Claim7.holds Tryd.pinned (.plain (OpenSpec.upto fnRopeSplitSpec)) fnRopeSplitUptoCard
end Rows
end Go.Proofs.YthnahenpnafkmaaDoor
