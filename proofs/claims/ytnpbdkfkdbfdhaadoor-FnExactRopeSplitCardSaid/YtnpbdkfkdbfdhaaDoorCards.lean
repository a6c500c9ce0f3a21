/-
  DERIVED. GIVEN WITH THE SEED: THE CARDS: each row of YtnpbdkfkdbfdhaaDoorRows.lean that lists a variable, with what it lists TIED to the program's text (the seventh form; the later family's looks); each row that meets fmt, with fmt's text TOLD by the authors' own Lean function (tested against real Go, not proved from fmt's source: count such statements apart). THE CARD IS WHAT COUNTS. Prove the row's statement (the work); the ties are given (YtnpbdkfkdbfdhaaDoorTie.lean); close each card by the builder's one call (the guide's Derived/Test/ToyasCard.lean, 'card_holds'). Laid BY PROGRAM, IN A SANDBOX (cutbox-door.mjs). By AI agents, Wed Nov 11 2026. No macro, syntax, notation, axiom, sorry.
-/
import Derived.Test.YtnpbdkfkdbfdhaaDoorRows
import GoSem.ClaimSeven
namespace Go.Proofs.YtnpbdkfkdbfdhaaDoor
namespace Rows

/-- THE TIED CARD OF 'laws.FnExactEditsDo'. -/
def fnExactEditsDoCard : Claim7 := { stood := { row := fnExactEditsDoRow, standIns := [], harness := (true, "f6fad13bfec1e0f9c18de637e4ca69b7187669e357095e45b6ca9ba0fa534d78"), looks := false }, kinds := [], alts := [], laidByText := true, laidKinds := [.data], laidTests := true, laidLooks := .later }
def FnExactEditsDoCardSaid : Prop := Claim7.holds Tryd.pinned (.plain (OpenSpec.ofChange fnExactEditsDoSpec)) fnExactEditsDoCard

/-- THE TIED CARD OF 'laws.FnRopeSplit'. -/
def fnRopeSplitCard : Claim7 := { stood := { row := fnRopeSplitRow, standIns := [], harness := (true, "f6fad13bfec1e0f9c18de637e4ca69b7187669e357095e45b6ca9ba0fa534d78"), looks := false }, kinds := [], alts := [], laidByText := true, laidKinds := [.data], laidTests := true, laidLooks := .later }
def FnRopeSplitCardSaid : Prop := Claim7.holds Tryd.pinned (.plain (OpenSpec.ofChange fnRopeSplitSpec)) fnRopeSplitCard

/-- THE TIED CARD OF 'laws.FnExactRopeSplit'. -/
def fnExactRopeSplitCard : Claim7 := { stood := { row := fnExactRopeSplitRow, standIns := [], harness := (true, "f6fad13bfec1e0f9c18de637e4ca69b7187669e357095e45b6ca9ba0fa534d78"), looks := false }, kinds := [], alts := [], laidByText := true, laidKinds := [.data], laidTests := true, laidLooks := .later }
def FnExactRopeSplitCardSaid : Prop := Claim7.holds Tryd.pinned (.plain (OpenSpec.ofChange fnExactRopeSplitSpec)) fnExactRopeSplitCard

/-- THE SECOND FORM's CARD OF 'laws.FnExactEditsDo'. -/
def fnExactEditsDoUptoCard : Claim7 := { stood := { row := fnExactEditsDoUptoRow, standIns := [], harness := (true, "f6fad13bfec1e0f9c18de637e4ca69b7187669e357095e45b6ca9ba0fa534d78"), looks := false }, kinds := [], alts := [], laidByText := true, laidKinds := [.data], laidTests := true, laidLooks := .later }
def FnExactEditsDoUptoCardSaid : Prop := Claim7.holds Tryd.pinned (.plain (OpenSpec.upto fnExactEditsDoSpec)) fnExactEditsDoUptoCard

/-- THE SECOND FORM's CARD OF 'laws.FnRopeSplit'. -/
def fnRopeSplitUptoCard : Claim7 := { stood := { row := fnRopeSplitUptoRow, standIns := [], harness := (true, "f6fad13bfec1e0f9c18de637e4ca69b7187669e357095e45b6ca9ba0fa534d78"), looks := false }, kinds := [], alts := [], laidByText := true, laidKinds := [.data], laidTests := true, laidLooks := .later }
def FnRopeSplitUptoCardSaid : Prop := Claim7.holds Tryd.pinned (.plain (OpenSpec.upto fnRopeSplitSpec)) fnRopeSplitUptoCard

/-- THE SECOND FORM's CARD OF 'laws.FnExactRopeSplit'. -/
def fnExactRopeSplitUptoCard : Claim7 := { stood := { row := fnExactRopeSplitUptoRow, standIns := [], harness := (true, "f6fad13bfec1e0f9c18de637e4ca69b7187669e357095e45b6ca9ba0fa534d78"), looks := false }, kinds := [], alts := [], laidByText := true, laidKinds := [.data], laidTests := true, laidLooks := .later }
def FnExactRopeSplitUptoCardSaid : Prop := Claim7.holds Tryd.pinned (.plain (OpenSpec.upto fnExactRopeSplitSpec)) fnExactRopeSplitUptoCard
end Rows
end Go.Proofs.YtnpbdkfkdbfdhaaDoor
