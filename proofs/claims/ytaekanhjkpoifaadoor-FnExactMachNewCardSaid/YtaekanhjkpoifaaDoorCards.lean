/-
  DERIVED. GIVEN WITH THE SEED: THE CARDS: each row of YtaekanhjkpoifaaDoorRows.lean that lists a variable, with what it lists TIED to the program's text (the seventh form; the later family's looks); each row that meets fmt, with fmt's text TOLD by the authors' own Lean function (tested against real Go, not proved from fmt's source: count such statements apart). THE CARD IS WHAT COUNTS. Prove the row's statement (the work); the ties are given (YtaekanhjkpoifaaDoorTie.lean); close each card by the builder's one call (the guide's Derived/Test/ToyasCard.lean, 'card_holds'). Laid BY PROGRAM, IN A SANDBOX (cutbox-door.mjs). By AI agents, Wed Nov 11 2026. No macro, syntax, notation, axiom, sorry.
-/
import Derived.Test.YtaekanhjkpoifaaDoorRows
import GoSem.ClaimSeven
namespace Go.Proofs.YtaekanhjkpoifaaDoor
namespace Rows

/-- THE TIED CARD OF 'laws.FnExactMachNew'. -/
def fnExactMachNewCard : Claim7 := { stood := { row := fnExactMachNewRow, standIns := [], harness := (true, "a3cfd330f70bf9a4ffd65398daf467d86d1df6abf05500382914a127c6e99894"), looks := false }, kinds := [], alts := [], laidByText := true, laidKinds := [.data], laidTests := true, laidLooks := .later }
def FnExactMachNewCardSaid : Prop := Claim7.holds Tryd.pinned (.plain (OpenSpec.ofChange fnExactMachNewSpec)) fnExactMachNewCard

/-- THE SECOND FORM's CARD OF 'laws.FnExactMachNew'. -/
def fnExactMachNewUptoCard : Claim7 := { stood := { row := fnExactMachNewUptoRow, standIns := [], harness := (true, "a3cfd330f70bf9a4ffd65398daf467d86d1df6abf05500382914a127c6e99894"), looks := false }, kinds := [], alts := [], laidByText := true, laidKinds := [.data], laidTests := true, laidLooks := .later }
def FnExactMachNewUptoCardSaid : Prop := Claim7.holds Tryd.pinned (.plain (OpenSpec.upto fnExactMachNewSpec)) fnExactMachNewUptoCard
end Rows
end Go.Proofs.YtaekanhjkpoifaaDoor
