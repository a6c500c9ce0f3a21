/-
  DERIVED. GIVEN WITH THE SEED: THE CARDS: each row of YtfgbipomdfceeaaDoorRows.lean that lists a variable, with what it lists TIED to the program's text (the seventh form; the later family's looks); each row that meets fmt, with fmt's text TOLD by the authors' own Lean function (tested against real Go, not proved from fmt's source: count such statements apart). THE CARD IS WHAT COUNTS. Prove the row's statement (the work); the ties are given (YtfgbipomdfceeaaDoorTie.lean); close each card by the builder's one call (the guide's Derived/Test/ToyasCard.lean, 'card_holds'). Laid BY PROGRAM, IN A SANDBOX (cutbox-door.mjs). By AI agents, Wed Nov 11 2026. No macro, syntax, notation, axiom, sorry.
-/
import Derived.Test.YtfgbipomdfceeaaDoorRows
import GoSem.ClaimSeven
namespace Go.Proofs.YtfgbipomdfceeaaDoor
namespace Rows

/-- THE TIED CARD OF 'laws.FnRopeText'. -/
def fnRopeTextCard : Claim7 := { stood := { row := fnRopeTextRow, standIns := [], harness := (true, "d0d9d6aa630f616731c49394ce57effcbf1025829b438ce2d9af9957fff25fbd"), looks := false }, kinds := [], alts := [], laidByText := true, laidKinds := [.data], laidTests := true, laidLooks := .later }
def FnRopeTextCardSaid : Prop := Claim7.holds Tryd.pinned (.plain (OpenSpec.ofChange fnRopeTextSpec)) fnRopeTextCard

/-- THE TIED CARD OF 'laws.FnRopeSplit'. -/
def fnRopeSplitCard : Claim7 := { stood := { row := fnRopeSplitRow, standIns := [], harness := (true, "d0d9d6aa630f616731c49394ce57effcbf1025829b438ce2d9af9957fff25fbd"), looks := false }, kinds := [], alts := [], laidByText := true, laidKinds := [.data], laidTests := true, laidLooks := .later }
def FnRopeSplitCardSaid : Prop := Claim7.holds Tryd.pinned (.plain (OpenSpec.ofChange fnRopeSplitSpec)) fnRopeSplitCard

/-- THE TIED CARD OF 'laws.FnRopeFind'. -/
def fnRopeFindCard : Claim7 := { stood := { row := fnRopeFindRow, standIns := [], harness := (true, "d0d9d6aa630f616731c49394ce57effcbf1025829b438ce2d9af9957fff25fbd"), looks := false }, kinds := [], alts := [], laidByText := true, laidKinds := [.data], laidTests := true, laidLooks := .later }
def FnRopeFindCardSaid : Prop := Claim7.holds Tryd.pinned (.plain (OpenSpec.ofChange fnRopeFindSpec)) fnRopeFindCard

/-- THE TIED CARD OF 'laws.FnLines'. -/
def fnLinesCard : Claim7 := { stood := { row := fnLinesRow, standIns := [], harness := (true, "d0d9d6aa630f616731c49394ce57effcbf1025829b438ce2d9af9957fff25fbd"), looks := false }, kinds := [], alts := [], laidByText := true, laidKinds := [.data, .data, .pinned], laidTests := true, laidLooks := .later }
def FnLinesCardSaid : Prop := Claim7.holds Tryd.pinned (.plain (OpenSpec.ofChange fnLinesSpec)) fnLinesCard

/-- THE TIED CARD OF 'laws.FnExactRopeEdit'. -/
def fnExactRopeEditCard : Claim7 := { stood := { row := fnExactRopeEditRow, standIns := [], harness := (true, "d0d9d6aa630f616731c49394ce57effcbf1025829b438ce2d9af9957fff25fbd"), looks := false }, kinds := [], alts := [], laidByText := true, laidKinds := [.data], laidTests := true, laidLooks := .later }
def FnExactRopeEditCardSaid : Prop := Claim7.holds Tryd.pinned (.plain (OpenSpec.ofChange fnExactRopeEditSpec)) fnExactRopeEditCard

/-- THE TIED CARD OF 'laws.FnExactRopeSlice'. -/
def fnExactRopeSliceCard : Claim7 := { stood := { row := fnExactRopeSliceRow, standIns := [], harness := (true, "d0d9d6aa630f616731c49394ce57effcbf1025829b438ce2d9af9957fff25fbd"), looks := false }, kinds := [], alts := [], laidByText := true, laidKinds := [.data], laidTests := true, laidLooks := .later }
def FnExactRopeSliceCardSaid : Prop := Claim7.holds Tryd.pinned (.plain (OpenSpec.ofChange fnExactRopeSliceSpec)) fnExactRopeSliceCard

/-- THE TIED CARD OF 'laws.FnExactRopeSplit'. -/
def fnExactRopeSplitCard : Claim7 := { stood := { row := fnExactRopeSplitRow, standIns := [], harness := (true, "d0d9d6aa630f616731c49394ce57effcbf1025829b438ce2d9af9957fff25fbd"), looks := false }, kinds := [], alts := [], laidByText := true, laidKinds := [.data], laidTests := true, laidLooks := .later }
def FnExactRopeSplitCardSaid : Prop := Claim7.holds Tryd.pinned (.plain (OpenSpec.ofChange fnExactRopeSplitSpec)) fnExactRopeSplitCard

/-- THE SECOND FORM's CARD OF 'laws.FnRopeText'. -/
def fnRopeTextUptoCard : Claim7 := { stood := { row := fnRopeTextUptoRow, standIns := [], harness := (true, "d0d9d6aa630f616731c49394ce57effcbf1025829b438ce2d9af9957fff25fbd"), looks := false }, kinds := [], alts := [], laidByText := true, laidKinds := [.data], laidTests := true, laidLooks := .later }
def FnRopeTextUptoCardSaid : Prop := Claim7.holds Tryd.pinned (.plain (OpenSpec.upto fnRopeTextSpec)) fnRopeTextUptoCard

/-- THE SECOND FORM's CARD OF 'laws.FnRopeSplit'. -/
def fnRopeSplitUptoCard : Claim7 := { stood := { row := fnRopeSplitUptoRow, standIns := [], harness := (true, "d0d9d6aa630f616731c49394ce57effcbf1025829b438ce2d9af9957fff25fbd"), looks := false }, kinds := [], alts := [], laidByText := true, laidKinds := [.data], laidTests := true, laidLooks := .later }
def FnRopeSplitUptoCardSaid : Prop := Claim7.holds Tryd.pinned (.plain (OpenSpec.upto fnRopeSplitSpec)) fnRopeSplitUptoCard

/-- THE SECOND FORM's CARD OF 'laws.FnRopeFind'. -/
def fnRopeFindUptoCard : Claim7 := { stood := { row := fnRopeFindUptoRow, standIns := [], harness := (true, "d0d9d6aa630f616731c49394ce57effcbf1025829b438ce2d9af9957fff25fbd"), looks := false }, kinds := [], alts := [], laidByText := true, laidKinds := [.data], laidTests := true, laidLooks := .later }
def FnRopeFindUptoCardSaid : Prop := Claim7.holds Tryd.pinned (.plain (OpenSpec.upto fnRopeFindSpec)) fnRopeFindUptoCard

/-- THE SECOND FORM's CARD OF 'laws.FnLines'. -/
def fnLinesUptoCard : Claim7 := { stood := { row := fnLinesUptoRow, standIns := [], harness := (true, "d0d9d6aa630f616731c49394ce57effcbf1025829b438ce2d9af9957fff25fbd"), looks := false }, kinds := [], alts := [], laidByText := true, laidKinds := [.data, .data, .pinned], laidTests := true, laidLooks := .later }
def FnLinesUptoCardSaid : Prop := Claim7.holds Tryd.pinned (.plain (OpenSpec.upto fnLinesSpec)) fnLinesUptoCard

/-- THE SECOND FORM's CARD OF 'laws.FnExactRopeEdit'. -/
def fnExactRopeEditUptoCard : Claim7 := { stood := { row := fnExactRopeEditUptoRow, standIns := [], harness := (true, "d0d9d6aa630f616731c49394ce57effcbf1025829b438ce2d9af9957fff25fbd"), looks := false }, kinds := [], alts := [], laidByText := true, laidKinds := [.data], laidTests := true, laidLooks := .later }
def FnExactRopeEditUptoCardSaid : Prop := Claim7.holds Tryd.pinned (.plain (OpenSpec.upto fnExactRopeEditSpec)) fnExactRopeEditUptoCard

/-- THE SECOND FORM's CARD OF 'laws.FnExactRopeSlice'. -/
def fnExactRopeSliceUptoCard : Claim7 := { stood := { row := fnExactRopeSliceUptoRow, standIns := [], harness := (true, "d0d9d6aa630f616731c49394ce57effcbf1025829b438ce2d9af9957fff25fbd"), looks := false }, kinds := [], alts := [], laidByText := true, laidKinds := [.data], laidTests := true, laidLooks := .later }
def FnExactRopeSliceUptoCardSaid : Prop := Claim7.holds Tryd.pinned (.plain (OpenSpec.upto fnExactRopeSliceSpec)) fnExactRopeSliceUptoCard

/-- THE SECOND FORM's CARD OF 'laws.FnExactRopeSplit'. -/
def fnExactRopeSplitUptoCard : Claim7 := { stood := { row := fnExactRopeSplitUptoRow, standIns := [], harness := (true, "d0d9d6aa630f616731c49394ce57effcbf1025829b438ce2d9af9957fff25fbd"), looks := false }, kinds := [], alts := [], laidByText := true, laidKinds := [.data], laidTests := true, laidLooks := .later }
def FnExactRopeSplitUptoCardSaid : Prop := Claim7.holds Tryd.pinned (.plain (OpenSpec.upto fnExactRopeSplitSpec)) fnExactRopeSplitUptoCard
end Rows
end Go.Proofs.YtfgbipomdfceeaaDoor
