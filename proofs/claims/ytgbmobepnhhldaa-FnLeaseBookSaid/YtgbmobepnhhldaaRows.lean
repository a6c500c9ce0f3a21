/-
  No cell of these rows narrows 'for every input' (looked for: loops, veiled, ifaces, maps, wideKeys, modest, calm, conditions, laid).
  DERIVED. THE GIVEN ROWS OF THIS SEAT. 3 by the template 'for every input the law returns true; each argument reads behind the call as it read before'; 0 by the template 'total and deterministic' (their statements: YtgbmobepnhhldaaTotals.lean).
  GIVEN WITH THE SEED: the statements are not yours to turn. If you find one false, say at which input.
  Laid BY PROGRAM, IN A SANDBOX (cutbox-rows.mjs): the forced cells as the released guide's own fill.sh prints them over the translation 1935c29e7102de2b… (all of the seat's roots in one cut). By AI agents, Wed Nov 11 2026. No macro, syntax, notation, axiom, sorry.
-/
import Derived.Test.YtgbmobepnhhldaaChecked
import GoSem.Claim
import GoSem.ClaimJoined
import GoSem.ClaimMapViews
import Derived.JoinedTies
import Derived.KernelRfl
namespace Go.Proofs.Ytgbmobepnhhldaa
/- THE CELL 'sum', in the pinned program and in every row, IS THE sha256 OF THE DUMP (.gsa) THAT YtgbmobepnhhldaaProg.lean LOADS. Nothing in Lean hashes anything: it is a label: what it is worth is what the hold of that sum in a sandbox is worth. -/
noncomputable def Try.pinned : Pinned := { name := "ytgbmobepnhhldaa", sum := "1935c29e7102de2bf0329d3d8d01765232c2e42d82f2de3a4df5b96f56981080", checked := Try.checked }
namespace Rows
def none {H : Type} : Left H := { results := [], args := [] }

/-- 'laws.FnLeasesApart': WHATEVER THE INPUT: true; the input reads as it did. -/
def fnLeasesApartSpec : ChangeSpec := { name := "fnLeasesApart", fn := fun _ => fun
  | [d] => { results := [.lit (.bool true)], args := [d] }
  | _ => none }
def fnLeasesApartRow : OpenClaim := { program := "ytgbmobepnhhldaa", sum := "1935c29e7102de2bf0329d3d8d01765232c2e42d82f2de3a4df5b96f56981080", func := "loop.example/g00677/laws.FnLeasesApart", spec := "fnLeasesApart", inPlace := ["slices.overlaps[loop.example/g00677/impl.Lease]"], unfollowed := true, recurses := true, apart := false }
def FnLeasesApartSaid : Prop := fnLeasesApartRow.holds Try.pinned (OpenSpec.ofChange fnLeasesApartSpec)

/-- ITS FALSE NEIGHBOUR: 'it returns false'. Refute it at one input. -/
def fnLeasesApartWrong : ChangeSpec := { name := "fnLeasesApart", fn := fun _ => fun
  | [d] => { results := [.lit (.bool false)], args := [d] }
  | _ => none }
def FnLeasesApartWrongFalsely : Prop := fnLeasesApartRow.holds Try.pinned (OpenSpec.ofChange fnLeasesApartWrong)

/-- 'laws.FnBars': WHATEVER THE INPUT: true; the input reads as it did. -/
def fnBarsSpec : ChangeSpec := { name := "fnBars", fn := fun _ => fun
  | [d] => { results := [.lit (.bool true)], args := [d] }
  | _ => none }
def fnBarsRow : OpenClaim := { program := "ytgbmobepnhhldaa", sum := "1935c29e7102de2bf0329d3d8d01765232c2e42d82f2de3a4df5b96f56981080", func := "loop.example/g00677/laws.FnBars", spec := "fnBars", inPlace := ["slices.overlaps[loop.example/g00677/impl.Lease]"], unfollowed := true, recurses := true, apart := false }
def FnBarsSaid : Prop := fnBarsRow.holds Try.pinned (OpenSpec.ofChange fnBarsSpec)

/-- ITS FALSE NEIGHBOUR: 'it returns false'. Refute it at one input. -/
def fnBarsWrong : ChangeSpec := { name := "fnBars", fn := fun _ => fun
  | [d] => { results := [.lit (.bool false)], args := [d] }
  | _ => none }
def FnBarsWrongFalsely : Prop := fnBarsRow.holds Try.pinned (OpenSpec.ofChange fnBarsWrong)

/-- 'laws.FnLeaseBook': WHATEVER THE INPUT: true; the input reads as it did. -/
def fnLeaseBookSpec : ChangeSpec := { name := "fnLeaseBook", fn := fun _ => fun
  | [d] => { results := [.lit (.bool true)], args := [d] }
  | _ => none }
def fnLeaseBookRow : OpenClaim := { program := "ytgbmobepnhhldaa", sum := "1935c29e7102de2bf0329d3d8d01765232c2e42d82f2de3a4df5b96f56981080", func := "loop.example/g00677/laws.FnLeaseBook", spec := "fnLeaseBook", inPlace := ["slices.overlaps[loop.example/g00677/impl.Lease]"], unfollowed := true, recurses := true, apart := false }
def FnLeaseBookSaid : Prop := fnLeaseBookRow.holds Try.pinned (OpenSpec.ofChange fnLeaseBookSpec)

/-- ITS FALSE NEIGHBOUR: 'it returns false'. Refute it at one input. -/
def fnLeaseBookWrong : ChangeSpec := { name := "fnLeaseBook", fn := fun _ => fun
  | [d] => { results := [.lit (.bool false)], args := [d] }
  | _ => none }
def FnLeaseBookWrongFalsely : Prop := fnLeaseBookRow.holds Try.pinned (OpenSpec.ofChange fnLeaseBookWrong)

/- THE SECOND FORM. 'bulk': how many values and letters a reading holds, each counted each time it is reached (what is shared counts as often as it is met; a slice's spare places count too). A statement '..UptoSaid' is the law's where the arguments, and the package variables that the reading takes, are together of bulk at most 1048576: NARROWER than '..Said'. Prove '..Said' where nothing that the law and all that it calls make is longer than what came in: it says more and counts as full. Else prove '..UptoSaid'. A law counts once. -/
mutual
def uptoBulk {H : Type} : DataW H → Nat
  | .lit (.string bytes) => bytes.length + 1
  | .lit _ => 1
  | .nil => 1
  | .ptr d => uptoBulk d + 1
  | .slice elems spare => uptoBulkAll elems + uptoBulkAll spare + 1
  | .agg parts => uptoBulkAll parts + 1
  | .iface _ d => uptoBulk d + 1
  | .map entries => uptoBulkEntries entries + 1
  | .held _ => 1
def uptoBulkAll {H : Type} : List (DataW H) → Nat
  | [] => 0
  | d :: r => uptoBulk d + uptoBulkAll r
def uptoBulkEntries {H : Type} : List (Lit × DataW H) → Nat
  | [] => 0
  | x :: r => uptoBulkEntry x + uptoBulkEntries r
def uptoBulkEntry {H : Type} : Lit × DataW H → Nat
  | (.string bytes, d) => bytes.length + uptoBulk d + 1
  | (_, d) => uptoBulk d + 1
 end
def uptoSmall : (H : Type) → List (DataW H) → Bool := fun _ ds => decide (uptoBulkAll ds ≤ 1048576)
def OpenSpec.upto (s : _root_.Go.ChangeSpec) : _root_.Go.OpenSpec := { _root_.Go.OpenSpec.ofChange s with cond := some uptoSmall }

/-- 'laws.FnLeasesApart', WHERE WHAT IT READS IS OF BULK AT MOST 1048576: true; the input reads as it did. -/
def fnLeasesApartUptoRow : OpenClaim := { program := "ytgbmobepnhhldaa", sum := "1935c29e7102de2bf0329d3d8d01765232c2e42d82f2de3a4df5b96f56981080", func := "loop.example/g00677/laws.FnLeasesApart", spec := "fnLeasesApart", inPlace := ["slices.overlaps[loop.example/g00677/impl.Lease]"], unfollowed := true, recurses := true, apart := false, narrowed := true }
def FnLeasesApartUptoSaid : Prop := fnLeasesApartUptoRow.holds Try.pinned (OpenSpec.upto fnLeasesApartSpec)

/-- 'laws.FnBars', WHERE WHAT IT READS IS OF BULK AT MOST 1048576: true; the input reads as it did. -/
def fnBarsUptoRow : OpenClaim := { program := "ytgbmobepnhhldaa", sum := "1935c29e7102de2bf0329d3d8d01765232c2e42d82f2de3a4df5b96f56981080", func := "loop.example/g00677/laws.FnBars", spec := "fnBars", inPlace := ["slices.overlaps[loop.example/g00677/impl.Lease]"], unfollowed := true, recurses := true, apart := false, narrowed := true }
def FnBarsUptoSaid : Prop := fnBarsUptoRow.holds Try.pinned (OpenSpec.upto fnBarsSpec)

/-- 'laws.FnLeaseBook', WHERE WHAT IT READS IS OF BULK AT MOST 1048576: true; the input reads as it did. -/
def fnLeaseBookUptoRow : OpenClaim := { program := "ytgbmobepnhhldaa", sum := "1935c29e7102de2bf0329d3d8d01765232c2e42d82f2de3a4df5b96f56981080", func := "loop.example/g00677/laws.FnLeaseBook", spec := "fnLeaseBook", inPlace := ["slices.overlaps[loop.example/g00677/impl.Lease]"], unfollowed := true, recurses := true, apart := false, narrowed := true }
def FnLeaseBookUptoSaid : Prop := fnLeaseBookUptoRow.holds Try.pinned (OpenSpec.upto fnLeaseBookSpec)

end Rows
end Go.Proofs.Ytgbmobepnhhldaa
