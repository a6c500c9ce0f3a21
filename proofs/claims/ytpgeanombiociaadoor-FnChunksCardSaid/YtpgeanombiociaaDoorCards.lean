/-
  DERIVED. GIVEN WITH THE SEED: THE CARDS: each row of YtpgeanombiociaaDoorRows.lean that lists a variable, with what it lists TIED to the program's text (the seventh form; the later family's looks); each row that meets fmt, with fmt's text TOLD by the authors' own Lean function (tested against real Go, not proved from fmt's source: count such statements apart). THE CARD IS WHAT COUNTS. Prove the row's statement (the work); the ties are given (YtpgeanombiociaaDoorTie.lean); close each card by the builder's one call (the guide's Derived/Test/ToyasCard.lean, 'card_holds'). Laid BY PROGRAM, IN A SANDBOX (cutbox-door.mjs). By AI agents, Wed Nov 11 2026. No macro, syntax, notation, axiom, sorry.
-/
import Derived.Test.YtpgeanombiociaaDoorRows
import GoSem.ClaimSeven
namespace Go.Proofs.YtpgeanombiociaaDoor
namespace Rows

/-- THE TIED CARD OF 'laws.FnRuneBack'. -/
def fnRuneBackCard : Claim7 := { stood := { row := fnRuneBackRow, standIns := [], harness := (true, "c2395c2d7cf8241dee407b25e3f656ea5d92b9ddcfbd386754c3fc9c150e3947"), looks := false }, kinds := [], alts := [], laidByText := true, laidKinds := [.data], laidTests := true, laidLooks := .later }
def FnRuneBackCardSaid : Prop := Claim7.holds Tryd.pinned (.plain (OpenSpec.ofChange fnRuneBackSpec)) fnRuneBackCard

/-- THE TIED CARD OF 'laws.FnChunks'. -/
def fnChunksCard : Claim7 := { stood := { row := fnChunksRow, standIns := [], harness := (true, "c2395c2d7cf8241dee407b25e3f656ea5d92b9ddcfbd386754c3fc9c150e3947"), looks := false }, kinds := [], alts := [], laidByText := true, laidKinds := [.data], laidTests := true, laidLooks := .later }
def FnChunksCardSaid : Prop := Claim7.holds Tryd.pinned (.plain (OpenSpec.ofChange fnChunksSpec)) fnChunksCard

/-- THE TIED CARD OF 'laws.FnChunkFor'. -/
def fnChunkForCard : Claim7 := { stood := { row := fnChunkForRow, standIns := [], harness := (true, "c2395c2d7cf8241dee407b25e3f656ea5d92b9ddcfbd386754c3fc9c150e3947"), looks := false }, kinds := [], alts := [], laidByText := true, laidKinds := [.data], laidTests := true, laidLooks := .later }
def FnChunkForCardSaid : Prop := Claim7.holds Tryd.pinned (.plain (OpenSpec.ofChange fnChunkForSpec)) fnChunkForCard

/-- THE TIED CARD OF 'laws.FnExactMeasOf'. -/
def fnExactMeasOfCard : Claim7 := { stood := { row := fnExactMeasOfRow, standIns := [], harness := (true, "c2395c2d7cf8241dee407b25e3f656ea5d92b9ddcfbd386754c3fc9c150e3947"), looks := false }, kinds := [], alts := [], laidByText := true, laidKinds := [.data], laidTests := true, laidLooks := .later }
def FnExactMeasOfCardSaid : Prop := Claim7.holds Tryd.pinned (.plain (OpenSpec.ofChange fnExactMeasOfSpec)) fnExactMeasOfCard

/-- THE TIED CARD OF 'laws.FnExactChunkOk'. -/
def fnExactChunkOkCard : Claim7 := { stood := { row := fnExactChunkOkRow, standIns := [], harness := (true, "c2395c2d7cf8241dee407b25e3f656ea5d92b9ddcfbd386754c3fc9c150e3947"), looks := false }, kinds := [], alts := [], laidByText := true, laidKinds := [.data], laidTests := true, laidLooks := .later }
def FnExactChunkOkCardSaid : Prop := Claim7.holds Tryd.pinned (.plain (OpenSpec.ofChange fnExactChunkOkSpec)) fnExactChunkOkCard

/-- THE TIED CARD OF 'laws.FnExactChunksOf'. -/
def fnExactChunksOfCard : Claim7 := { stood := { row := fnExactChunksOfRow, standIns := [], harness := (true, "c2395c2d7cf8241dee407b25e3f656ea5d92b9ddcfbd386754c3fc9c150e3947"), looks := false }, kinds := [], alts := [], laidByText := true, laidKinds := [.data], laidTests := true, laidLooks := .later }
def FnExactChunksOfCardSaid : Prop := Claim7.holds Tryd.pinned (.plain (OpenSpec.ofChange fnExactChunksOfSpec)) fnExactChunksOfCard

/-- THE TIED CARD OF 'laws.FnExactChunksOk'. -/
def fnExactChunksOkCard : Claim7 := { stood := { row := fnExactChunksOkRow, standIns := [], harness := (true, "c2395c2d7cf8241dee407b25e3f656ea5d92b9ddcfbd386754c3fc9c150e3947"), looks := false }, kinds := [], alts := [], laidByText := true, laidKinds := [.data], laidTests := true, laidLooks := .later }
def FnExactChunksOkCardSaid : Prop := Claim7.holds Tryd.pinned (.plain (OpenSpec.ofChange fnExactChunksOkSpec)) fnExactChunksOkCard

/-- THE TIED CARD OF 'laws.FnExactChunksText'. -/
def fnExactChunksTextCard : Claim7 := { stood := { row := fnExactChunksTextRow, standIns := [], harness := (true, "c2395c2d7cf8241dee407b25e3f656ea5d92b9ddcfbd386754c3fc9c150e3947"), looks := false }, kinds := [], alts := [], laidByText := true, laidKinds := [.data], laidTests := true, laidLooks := .later }
def FnExactChunksTextCardSaid : Prop := Claim7.holds Tryd.pinned (.plain (OpenSpec.ofChange fnExactChunksTextSpec)) fnExactChunksTextCard

/-- THE TIED CARD OF 'laws.FnExactChunkFor'. -/
def fnExactChunkForCard : Claim7 := { stood := { row := fnExactChunkForRow, standIns := [], harness := (true, "c2395c2d7cf8241dee407b25e3f656ea5d92b9ddcfbd386754c3fc9c150e3947"), looks := false }, kinds := [], alts := [], laidByText := true, laidKinds := [.data], laidTests := true, laidLooks := .later }
def FnExactChunkForCardSaid : Prop := Claim7.holds Tryd.pinned (.plain (OpenSpec.ofChange fnExactChunkForSpec)) fnExactChunkForCard

/-- THE SECOND FORM's CARD OF 'laws.FnRuneBack'. -/
def fnRuneBackUptoCard : Claim7 := { stood := { row := fnRuneBackUptoRow, standIns := [], harness := (true, "c2395c2d7cf8241dee407b25e3f656ea5d92b9ddcfbd386754c3fc9c150e3947"), looks := false }, kinds := [], alts := [], laidByText := true, laidKinds := [.data], laidTests := true, laidLooks := .later }
def FnRuneBackUptoCardSaid : Prop := Claim7.holds Tryd.pinned (.plain (OpenSpec.upto fnRuneBackSpec)) fnRuneBackUptoCard

/-- THE SECOND FORM's CARD OF 'laws.FnChunks'. -/
def fnChunksUptoCard : Claim7 := { stood := { row := fnChunksUptoRow, standIns := [], harness := (true, "c2395c2d7cf8241dee407b25e3f656ea5d92b9ddcfbd386754c3fc9c150e3947"), looks := false }, kinds := [], alts := [], laidByText := true, laidKinds := [.data], laidTests := true, laidLooks := .later }
def FnChunksUptoCardSaid : Prop := Claim7.holds Tryd.pinned (.plain (OpenSpec.upto fnChunksSpec)) fnChunksUptoCard

/-- THE SECOND FORM's CARD OF 'laws.FnChunkFor'. -/
def fnChunkForUptoCard : Claim7 := { stood := { row := fnChunkForUptoRow, standIns := [], harness := (true, "c2395c2d7cf8241dee407b25e3f656ea5d92b9ddcfbd386754c3fc9c150e3947"), looks := false }, kinds := [], alts := [], laidByText := true, laidKinds := [.data], laidTests := true, laidLooks := .later }
def FnChunkForUptoCardSaid : Prop := Claim7.holds Tryd.pinned (.plain (OpenSpec.upto fnChunkForSpec)) fnChunkForUptoCard

/-- THE SECOND FORM's CARD OF 'laws.FnExactMeasOf'. -/
def fnExactMeasOfUptoCard : Claim7 := { stood := { row := fnExactMeasOfUptoRow, standIns := [], harness := (true, "c2395c2d7cf8241dee407b25e3f656ea5d92b9ddcfbd386754c3fc9c150e3947"), looks := false }, kinds := [], alts := [], laidByText := true, laidKinds := [.data], laidTests := true, laidLooks := .later }
def FnExactMeasOfUptoCardSaid : Prop := Claim7.holds Tryd.pinned (.plain (OpenSpec.upto fnExactMeasOfSpec)) fnExactMeasOfUptoCard

/-- THE SECOND FORM's CARD OF 'laws.FnExactChunkOk'. -/
def fnExactChunkOkUptoCard : Claim7 := { stood := { row := fnExactChunkOkUptoRow, standIns := [], harness := (true, "c2395c2d7cf8241dee407b25e3f656ea5d92b9ddcfbd386754c3fc9c150e3947"), looks := false }, kinds := [], alts := [], laidByText := true, laidKinds := [.data], laidTests := true, laidLooks := .later }
def FnExactChunkOkUptoCardSaid : Prop := Claim7.holds Tryd.pinned (.plain (OpenSpec.upto fnExactChunkOkSpec)) fnExactChunkOkUptoCard

/-- THE SECOND FORM's CARD OF 'laws.FnExactChunksOf'. -/
def fnExactChunksOfUptoCard : Claim7 := { stood := { row := fnExactChunksOfUptoRow, standIns := [], harness := (true, "c2395c2d7cf8241dee407b25e3f656ea5d92b9ddcfbd386754c3fc9c150e3947"), looks := false }, kinds := [], alts := [], laidByText := true, laidKinds := [.data], laidTests := true, laidLooks := .later }
def FnExactChunksOfUptoCardSaid : Prop := Claim7.holds Tryd.pinned (.plain (OpenSpec.upto fnExactChunksOfSpec)) fnExactChunksOfUptoCard

/-- THE SECOND FORM's CARD OF 'laws.FnExactChunksOk'. -/
def fnExactChunksOkUptoCard : Claim7 := { stood := { row := fnExactChunksOkUptoRow, standIns := [], harness := (true, "c2395c2d7cf8241dee407b25e3f656ea5d92b9ddcfbd386754c3fc9c150e3947"), looks := false }, kinds := [], alts := [], laidByText := true, laidKinds := [.data], laidTests := true, laidLooks := .later }
def FnExactChunksOkUptoCardSaid : Prop := Claim7.holds Tryd.pinned (.plain (OpenSpec.upto fnExactChunksOkSpec)) fnExactChunksOkUptoCard

/-- THE SECOND FORM's CARD OF 'laws.FnExactChunksText'. -/
def fnExactChunksTextUptoCard : Claim7 := { stood := { row := fnExactChunksTextUptoRow, standIns := [], harness := (true, "c2395c2d7cf8241dee407b25e3f656ea5d92b9ddcfbd386754c3fc9c150e3947"), looks := false }, kinds := [], alts := [], laidByText := true, laidKinds := [.data], laidTests := true, laidLooks := .later }
def FnExactChunksTextUptoCardSaid : Prop := Claim7.holds Tryd.pinned (.plain (OpenSpec.upto fnExactChunksTextSpec)) fnExactChunksTextUptoCard

/-- THE SECOND FORM's CARD OF 'laws.FnExactChunkFor'. -/
def fnExactChunkForUptoCard : Claim7 := { stood := { row := fnExactChunkForUptoRow, standIns := [], harness := (true, "c2395c2d7cf8241dee407b25e3f656ea5d92b9ddcfbd386754c3fc9c150e3947"), looks := false }, kinds := [], alts := [], laidByText := true, laidKinds := [.data], laidTests := true, laidLooks := .later }
def FnExactChunkForUptoCardSaid : Prop := Claim7.holds Tryd.pinned (.plain (OpenSpec.upto fnExactChunkForSpec)) fnExactChunkForUptoCard
end Rows
end Go.Proofs.YtpgeanombiociaaDoor
