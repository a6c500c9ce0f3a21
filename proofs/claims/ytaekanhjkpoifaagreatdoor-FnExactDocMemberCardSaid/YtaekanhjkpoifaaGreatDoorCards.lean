/-
  DERIVED. GIVEN WITH THE SEED: THE CARDS: each row of YtaekanhjkpoifaaGreatDoorRows.lean that lists a variable, with what it lists TIED to the program's text (the seventh form; the later family's looks); each row that meets fmt, with fmt's text TOLD by the authors' own Lean function (tested against real Go, not proved from fmt's source: count such statements apart). THE CARD IS WHAT COUNTS. Prove the row's statement (the work); the ties are given (YtaekanhjkpoifaaGreatDoorTie.lean); close each card by the builder's one call (the guide's Derived/Test/ToyasCard.lean, 'card_holds'). Laid BY PROGRAM, IN A SANDBOX (cutbox-door.mjs). By AI agents, Wed Nov 11 2026. No macro, syntax, notation, axiom, sorry.
-/
import Derived.Test.YtaekanhjkpoifaaGreatDoorRows
import GoSem.ClaimSeven
namespace Go.Proofs.YtaekanhjkpoifaaGreatDoor
namespace Rows

/-- THE TIED CARD OF 'laws.FnExactDocSince'. -/
def fnExactDocSinceCard : Claim7 := { stood := { row := fnExactDocSinceRow, standIns := [], harness := (true, "9f79e82aaee564bf8c10201167cc786fdf3eb43dee7792b1680e5269f43e4510"), looks := true }, kinds := [], alts := [], laidByText := true, laidKinds := [.data], laidTests := true, laidLooks := .later }
def FnExactDocSinceCardSaid : Prop := Claim7.holds Tryz.pinned (.plain (OpenSpec.ofChange fnExactDocSinceSpec)) fnExactDocSinceCard

/-- THE TIED CARD OF 'laws.FnExactDocTick'. -/
def fnExactDocTickCard : Claim7 := { stood := { row := fnExactDocTickRow, standIns := [], harness := (true, "9f79e82aaee564bf8c10201167cc786fdf3eb43dee7792b1680e5269f43e4510"), looks := true }, kinds := [], alts := [], laidByText := true, laidKinds := [.data], laidTests := true, laidLooks := .later }
def FnExactDocTickCardSaid : Prop := Claim7.holds Tryz.pinned (.plain (OpenSpec.ofChange fnExactDocTickSpec)) fnExactDocTickCard

/-- THE TIED CARD OF 'laws.FnExactDocMember'. -/
def fnExactDocMemberCard : Claim7 := { stood := { row := fnExactDocMemberRow, standIns := [], harness := (true, "9f79e82aaee564bf8c10201167cc786fdf3eb43dee7792b1680e5269f43e4510"), looks := true }, kinds := [], alts := [], laidByText := true, laidKinds := [.data], laidTests := true, laidLooks := .later }
def FnExactDocMemberCardSaid : Prop := Claim7.holds Tryz.pinned (.plain (OpenSpec.ofChange fnExactDocMemberSpec)) fnExactDocMemberCard

/-- THE SECOND FORM's CARD OF 'laws.FnExactDocSince'. -/
def fnExactDocSinceUptoCard : Claim7 := { stood := { row := fnExactDocSinceUptoRow, standIns := [], harness := (true, "9f79e82aaee564bf8c10201167cc786fdf3eb43dee7792b1680e5269f43e4510"), looks := true }, kinds := [], alts := [], laidByText := true, laidKinds := [.data], laidTests := true, laidLooks := .later }
def FnExactDocSinceUptoCardSaid : Prop := Claim7.holds Tryz.pinned (.plain (OpenSpec.upto fnExactDocSinceSpec)) fnExactDocSinceUptoCard

/-- THE SECOND FORM's CARD OF 'laws.FnExactDocTick'. -/
def fnExactDocTickUptoCard : Claim7 := { stood := { row := fnExactDocTickUptoRow, standIns := [], harness := (true, "9f79e82aaee564bf8c10201167cc786fdf3eb43dee7792b1680e5269f43e4510"), looks := true }, kinds := [], alts := [], laidByText := true, laidKinds := [.data], laidTests := true, laidLooks := .later }
def FnExactDocTickUptoCardSaid : Prop := Claim7.holds Tryz.pinned (.plain (OpenSpec.upto fnExactDocTickSpec)) fnExactDocTickUptoCard

/-- THE SECOND FORM's CARD OF 'laws.FnExactDocMember'. -/
def fnExactDocMemberUptoCard : Claim7 := { stood := { row := fnExactDocMemberUptoRow, standIns := [], harness := (true, "9f79e82aaee564bf8c10201167cc786fdf3eb43dee7792b1680e5269f43e4510"), looks := true }, kinds := [], alts := [], laidByText := true, laidKinds := [.data], laidTests := true, laidLooks := .later }
def FnExactDocMemberUptoCardSaid : Prop := Claim7.holds Tryz.pinned (.plain (OpenSpec.upto fnExactDocMemberSpec)) fnExactDocMemberUptoCard
end Rows
end Go.Proofs.YtaekanhjkpoifaaGreatDoor
