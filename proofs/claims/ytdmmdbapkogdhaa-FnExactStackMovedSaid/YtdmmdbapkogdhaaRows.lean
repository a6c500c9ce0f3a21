/-
  No cell of these rows narrows 'for every input' (looked for: loops, veiled, ifaces, maps, wideKeys, modest, calm, conditions, laid).
  DERIVED. THE GIVEN ROWS OF THIS SEAT. 16 by the template 'for every input the law returns true; each argument reads behind the call as it read before'; 0 by the template 'total and deterministic' (their statements: YtdmmdbapkogdhaaTotals.lean).
  GIVEN WITH THE SEED: the statements are not yours to turn. If you find one false, say at which input.
  Laid BY PROGRAM, IN A SANDBOX (cutbox-rows.mjs): the forced cells as the released guide's own fill.sh prints them over the translation ad3b65302e81c96c… (all of the seat's roots in one cut). By AI agents, Wed Nov 11 2026. No macro, syntax, notation, axiom, sorry.
-/
import Derived.Test.YtdmmdbapkogdhaaChecked
import GoSem.Claim
import GoSem.ClaimJoined
import GoSem.ClaimMapViews
import Derived.JoinedTies
import Derived.KernelRfl
namespace Go.Proofs.Ytdmmdbapkogdhaa
/- THE CELL 'sum', in the pinned program and in every row, IS THE sha256 OF THE DUMP (.gsa) THAT YtdmmdbapkogdhaaProg.lean LOADS. Nothing in Lean hashes anything: it is a label: what it is worth is what the hold of that sum in a sandbox is worth. -/
noncomputable def Try.pinned : Pinned := { name := "ytdmmdbapkogdhaa", sum := "ad3b65302e81c96ce1ef6c2ba50d6dd239f1cba7993362d1d0c002e265069af3", checked := Try.checked }
namespace Rows
def none {H : Type} : Left H := { results := [], args := [] }

/-- 'laws.FnLeasesApart': WHATEVER THE INPUT: true; the input reads as it did. -/
def fnLeasesApartSpec : ChangeSpec := { name := "fnLeasesApart", fn := fun _ => fun
  | [d] => { results := [.lit (.bool true)], args := [d] }
  | _ => none }
def fnLeasesApartRow : OpenClaim := { program := "ytdmmdbapkogdhaa", sum := "ad3b65302e81c96ce1ef6c2ba50d6dd239f1cba7993362d1d0c002e265069af3", func := "loop.example/g00677/laws.FnLeasesApart", spec := "fnLeasesApart", inPlace := ["slices.overlaps[loop.example/g00677/impl.Lease]"], unfollowed := true, recurses := true, apart := false }
def FnLeasesApartSaid : Prop := fnLeasesApartRow.holds Try.pinned (OpenSpec.ofChange fnLeasesApartSpec)

/-- ITS FALSE NEIGHBOUR: 'it returns false'. Refute it at one input. -/
def fnLeasesApartWrong : ChangeSpec := { name := "fnLeasesApart", fn := fun _ => fun
  | [d] => { results := [.lit (.bool false)], args := [d] }
  | _ => none }
def FnLeasesApartWrongFalsely : Prop := fnLeasesApartRow.holds Try.pinned (OpenSpec.ofChange fnLeasesApartWrong)

/-- 'laws.FnBars': WHATEVER THE INPUT: true; the input reads as it did. -/
def fnBarsSpec : ChangeSpec := { name := "fnBars", fn := fun _ => fun
  | [d] => { results := [.lit (.bool true)], args := [d] }
  | _ => none }
def fnBarsRow : OpenClaim := { program := "ytdmmdbapkogdhaa", sum := "ad3b65302e81c96ce1ef6c2ba50d6dd239f1cba7993362d1d0c002e265069af3", func := "loop.example/g00677/laws.FnBars", spec := "fnBars", inPlace := ["slices.overlaps[loop.example/g00677/impl.Lease]"], unfollowed := true, recurses := true, apart := false }
def FnBarsSaid : Prop := fnBarsRow.holds Try.pinned (OpenSpec.ofChange fnBarsSpec)

/-- ITS FALSE NEIGHBOUR: 'it returns false'. Refute it at one input. -/
def fnBarsWrong : ChangeSpec := { name := "fnBars", fn := fun _ => fun
  | [d] => { results := [.lit (.bool false)], args := [d] }
  | _ => none }
def FnBarsWrongFalsely : Prop := fnBarsRow.holds Try.pinned (OpenSpec.ofChange fnBarsWrong)

/-- 'laws.FnLeaseBook': WHATEVER THE INPUT: true; the input reads as it did. -/
def fnLeaseBookSpec : ChangeSpec := { name := "fnLeaseBook", fn := fun _ => fun
  | [d] => { results := [.lit (.bool true)], args := [d] }
  | _ => none }
def fnLeaseBookRow : OpenClaim := { program := "ytdmmdbapkogdhaa", sum := "ad3b65302e81c96ce1ef6c2ba50d6dd239f1cba7993362d1d0c002e265069af3", func := "loop.example/g00677/laws.FnLeaseBook", spec := "fnLeaseBook", inPlace := ["slices.overlaps[loop.example/g00677/impl.Lease]"], unfollowed := true, recurses := true, apart := false }
def FnLeaseBookSaid : Prop := fnLeaseBookRow.holds Try.pinned (OpenSpec.ofChange fnLeaseBookSpec)

/-- ITS FALSE NEIGHBOUR: 'it returns false'. Refute it at one input. -/
def fnLeaseBookWrong : ChangeSpec := { name := "fnLeaseBook", fn := fun _ => fun
  | [d] => { results := [.lit (.bool false)], args := [d] }
  | _ => none }
def FnLeaseBookWrongFalsely : Prop := fnLeaseBookRow.holds Try.pinned (OpenSpec.ofChange fnLeaseBookWrong)

/-- 'laws.FnStack': WHATEVER THE INPUT: true; the input reads as it did. -/
def fnStackSpec : ChangeSpec := { name := "fnStack", fn := fun _ => fun
  | [d] => { results := [.lit (.bool true)], args := [d] }
  | _ => none }
def fnStackRow : OpenClaim := { program := "ytdmmdbapkogdhaa", sum := "ad3b65302e81c96ce1ef6c2ba50d6dd239f1cba7993362d1d0c002e265069af3", func := "loop.example/g00677/laws.FnStack", spec := "fnStack", unfollowed := true, recurses := true, apart := false }
def FnStackSaid : Prop := fnStackRow.holds Try.pinned (OpenSpec.ofChange fnStackSpec)

/-- ITS FALSE NEIGHBOUR: 'it returns false'. Refute it at one input. -/
def fnStackWrong : ChangeSpec := { name := "fnStack", fn := fun _ => fun
  | [d] => { results := [.lit (.bool false)], args := [d] }
  | _ => none }
def FnStackWrongFalsely : Prop := fnStackRow.holds Try.pinned (OpenSpec.ofChange fnStackWrong)

/-- 'laws.FnStackMoved': WHATEVER THE INPUT: true; the input reads as it did. -/
def fnStackMovedSpec : ChangeSpec := { name := "fnStackMoved", fn := fun _ => fun
  | [d] => { results := [.lit (.bool true)], args := [d] }
  | _ => none }
def fnStackMovedRow : OpenClaim := { program := "ytdmmdbapkogdhaa", sum := "ad3b65302e81c96ce1ef6c2ba50d6dd239f1cba7993362d1d0c002e265069af3", func := "loop.example/g00677/laws.FnStackMoved", spec := "fnStackMoved", unfollowed := true, recurses := true, apart := false }
def FnStackMovedSaid : Prop := fnStackMovedRow.holds Try.pinned (OpenSpec.ofChange fnStackMovedSpec)

/-- ITS FALSE NEIGHBOUR: 'it returns false'. Refute it at one input. -/
def fnStackMovedWrong : ChangeSpec := { name := "fnStackMoved", fn := fun _ => fun
  | [d] => { results := [.lit (.bool false)], args := [d] }
  | _ => none }
def FnStackMovedWrongFalsely : Prop := fnStackMovedRow.holds Try.pinned (OpenSpec.ofChange fnStackMovedWrong)

/-- 'laws.FnFrames': WHATEVER THE INPUT: true; the input reads as it did. -/
def fnFramesSpec : ChangeSpec := { name := "fnFrames", fn := fun _ => fun
  | [d] => { results := [.lit (.bool true)], args := [d] }
  | _ => none }
def fnFramesRow : OpenClaim := { program := "ytdmmdbapkogdhaa", sum := "ad3b65302e81c96ce1ef6c2ba50d6dd239f1cba7993362d1d0c002e265069af3", func := "loop.example/g00677/laws.FnFrames", spec := "fnFrames", apart := false }
def FnFramesSaid : Prop := fnFramesRow.holds Try.pinned (OpenSpec.ofChange fnFramesSpec)

/-- ITS FALSE NEIGHBOUR: 'it returns false'. Refute it at one input. -/
def fnFramesWrong : ChangeSpec := { name := "fnFrames", fn := fun _ => fun
  | [d] => { results := [.lit (.bool false)], args := [d] }
  | _ => none }
def FnFramesWrongFalsely : Prop := fnFramesRow.holds Try.pinned (OpenSpec.ofChange fnFramesWrong)

/-- 'laws.FnExactLeasesOk': WHATEVER THE INPUT: true; the input reads as it did. -/
def fnExactLeasesOkSpec : ChangeSpec := { name := "fnExactLeasesOk", fn := fun _ => fun
  | [d] => { results := [.lit (.bool true)], args := [d] }
  | _ => none }
def fnExactLeasesOkRow : OpenClaim := { program := "ytdmmdbapkogdhaa", sum := "ad3b65302e81c96ce1ef6c2ba50d6dd239f1cba7993362d1d0c002e265069af3", func := "loop.example/g00677/laws.FnExactLeasesOk", spec := "fnExactLeasesOk", apart := false }
def FnExactLeasesOkSaid : Prop := fnExactLeasesOkRow.holds Try.pinned (OpenSpec.ofChange fnExactLeasesOkSpec)

/-- ITS FALSE NEIGHBOUR: 'it returns false'. Refute it at one input. -/
def fnExactLeasesOkWrong : ChangeSpec := { name := "fnExactLeasesOk", fn := fun _ => fun
  | [d] => { results := [.lit (.bool false)], args := [d] }
  | _ => none }
def FnExactLeasesOkWrongFalsely : Prop := fnExactLeasesOkRow.holds Try.pinned (OpenSpec.ofChange fnExactLeasesOkWrong)

/-- 'laws.FnExactLeaseTake': WHATEVER THE INPUT: true; the input reads as it did. -/
def fnExactLeaseTakeSpec : ChangeSpec := { name := "fnExactLeaseTake", fn := fun _ => fun
  | [d1, d2, d3] => { results := [.lit (.bool true)], args := [d1, d2, d3] }
  | _ => none }
def fnExactLeaseTakeRow : OpenClaim := { program := "ytdmmdbapkogdhaa", sum := "ad3b65302e81c96ce1ef6c2ba50d6dd239f1cba7993362d1d0c002e265069af3", func := "loop.example/g00677/laws.FnExactLeaseTake", spec := "fnExactLeaseTake", inPlace := ["slices.overlaps[loop.example/g00677/impl.Lease]"], unfollowed := true, recurses := true, apart := false }
def FnExactLeaseTakeSaid : Prop := fnExactLeaseTakeRow.holds Try.pinned (OpenSpec.ofChange fnExactLeaseTakeSpec)

/-- ITS FALSE NEIGHBOUR: 'it returns false'. Refute it at one input. -/
def fnExactLeaseTakeWrong : ChangeSpec := { name := "fnExactLeaseTake", fn := fun _ => fun
  | [d1, d2, d3] => { results := [.lit (.bool false)], args := [d1, d2, d3] }
  | _ => none }
def FnExactLeaseTakeWrongFalsely : Prop := fnExactLeaseTakeRow.holds Try.pinned (OpenSpec.ofChange fnExactLeaseTakeWrong)

/-- 'laws.FnExactLeaseRenew': WHATEVER THE INPUT: true; the input reads as it did. -/
def fnExactLeaseRenewSpec : ChangeSpec := { name := "fnExactLeaseRenew", fn := fun _ => fun
  | [d1, d2, d3] => { results := [.lit (.bool true)], args := [d1, d2, d3] }
  | _ => none }
def fnExactLeaseRenewRow : OpenClaim := { program := "ytdmmdbapkogdhaa", sum := "ad3b65302e81c96ce1ef6c2ba50d6dd239f1cba7993362d1d0c002e265069af3", func := "loop.example/g00677/laws.FnExactLeaseRenew", spec := "fnExactLeaseRenew", inPlace := ["slices.overlaps[loop.example/g00677/impl.Lease]"], unfollowed := true, recurses := true, apart := false }
def FnExactLeaseRenewSaid : Prop := fnExactLeaseRenewRow.holds Try.pinned (OpenSpec.ofChange fnExactLeaseRenewSpec)

/-- ITS FALSE NEIGHBOUR: 'it returns false'. Refute it at one input. -/
def fnExactLeaseRenewWrong : ChangeSpec := { name := "fnExactLeaseRenew", fn := fun _ => fun
  | [d1, d2, d3] => { results := [.lit (.bool false)], args := [d1, d2, d3] }
  | _ => none }
def FnExactLeaseRenewWrongFalsely : Prop := fnExactLeaseRenewRow.holds Try.pinned (OpenSpec.ofChange fnExactLeaseRenewWrong)

/-- 'laws.FnExactLeaseDrop': WHATEVER THE INPUT: true; the input reads as it did. -/
def fnExactLeaseDropSpec : ChangeSpec := { name := "fnExactLeaseDrop", fn := fun _ => fun
  | [d1, d2] => { results := [.lit (.bool true)], args := [d1, d2] }
  | _ => none }
def fnExactLeaseDropRow : OpenClaim := { program := "ytdmmdbapkogdhaa", sum := "ad3b65302e81c96ce1ef6c2ba50d6dd239f1cba7993362d1d0c002e265069af3", func := "loop.example/g00677/laws.FnExactLeaseDrop", spec := "fnExactLeaseDrop", unfollowed := true, recurses := true, apart := false }
def FnExactLeaseDropSaid : Prop := fnExactLeaseDropRow.holds Try.pinned (OpenSpec.ofChange fnExactLeaseDropSpec)

/-- ITS FALSE NEIGHBOUR: 'it returns false'. Refute it at one input. -/
def fnExactLeaseDropWrong : ChangeSpec := { name := "fnExactLeaseDrop", fn := fun _ => fun
  | [d1, d2] => { results := [.lit (.bool false)], args := [d1, d2] }
  | _ => none }
def FnExactLeaseDropWrongFalsely : Prop := fnExactLeaseDropRow.holds Try.pinned (OpenSpec.ofChange fnExactLeaseDropWrong)

/-- 'laws.FnExactLeaseExpire': WHATEVER THE INPUT: true; the input reads as it did. -/
def fnExactLeaseExpireSpec : ChangeSpec := { name := "fnExactLeaseExpire", fn := fun _ => fun
  | [d1, d2] => { results := [.lit (.bool true)], args := [d1, d2] }
  | _ => none }
def fnExactLeaseExpireRow : OpenClaim := { program := "ytdmmdbapkogdhaa", sum := "ad3b65302e81c96ce1ef6c2ba50d6dd239f1cba7993362d1d0c002e265069af3", func := "loop.example/g00677/laws.FnExactLeaseExpire", spec := "fnExactLeaseExpire", inPlace := ["slices.overlaps[loop.example/g00677/impl.Lease]"], unfollowed := true, recurses := true, apart := false }
def FnExactLeaseExpireSaid : Prop := fnExactLeaseExpireRow.holds Try.pinned (OpenSpec.ofChange fnExactLeaseExpireSpec)

/-- ITS FALSE NEIGHBOUR: 'it returns false'. Refute it at one input. -/
def fnExactLeaseExpireWrong : ChangeSpec := { name := "fnExactLeaseExpire", fn := fun _ => fun
  | [d1, d2] => { results := [.lit (.bool false)], args := [d1, d2] }
  | _ => none }
def FnExactLeaseExpireWrongFalsely : Prop := fnExactLeaseExpireRow.holds Try.pinned (OpenSpec.ofChange fnExactLeaseExpireWrong)

/-- 'laws.FnExactLeaseBars': WHATEVER THE INPUT: true; the input reads as it did. -/
def fnExactLeaseBarsSpec : ChangeSpec := { name := "fnExactLeaseBars", fn := fun _ => fun
  | [d1, d2, d3, d4] => { results := [.lit (.bool true)], args := [d1, d2, d3, d4] }
  | _ => none }
def fnExactLeaseBarsRow : OpenClaim := { program := "ytdmmdbapkogdhaa", sum := "ad3b65302e81c96ce1ef6c2ba50d6dd239f1cba7993362d1d0c002e265069af3", func := "loop.example/g00677/laws.FnExactLeaseBars", spec := "fnExactLeaseBars", inPlace := ["slices.overlaps[loop.example/g00677/impl.Lease]"], unfollowed := true, recurses := true, apart := false }
def FnExactLeaseBarsSaid : Prop := fnExactLeaseBarsRow.holds Try.pinned (OpenSpec.ofChange fnExactLeaseBarsSpec)

/-- ITS FALSE NEIGHBOUR: 'it returns false'. Refute it at one input. -/
def fnExactLeaseBarsWrong : ChangeSpec := { name := "fnExactLeaseBars", fn := fun _ => fun
  | [d1, d2, d3, d4] => { results := [.lit (.bool false)], args := [d1, d2, d3, d4] }
  | _ => none }
def FnExactLeaseBarsWrongFalsely : Prop := fnExactLeaseBarsRow.holds Try.pinned (OpenSpec.ofChange fnExactLeaseBarsWrong)

/-- 'laws.FnExactLeaseMoved': WHATEVER THE INPUT: true; the input reads as it did. -/
def fnExactLeaseMovedSpec : ChangeSpec := { name := "fnExactLeaseMoved", fn := fun _ => fun
  | [d1, d2] => { results := [.lit (.bool true)], args := [d1, d2] }
  | _ => none }
def fnExactLeaseMovedRow : OpenClaim := { program := "ytdmmdbapkogdhaa", sum := "ad3b65302e81c96ce1ef6c2ba50d6dd239f1cba7993362d1d0c002e265069af3", func := "loop.example/g00677/laws.FnExactLeaseMoved", spec := "fnExactLeaseMoved", inPlace := ["slices.overlaps[loop.example/g00677/impl.Lease]"], unfollowed := true, recurses := true, apart := false }
def FnExactLeaseMovedSaid : Prop := fnExactLeaseMovedRow.holds Try.pinned (OpenSpec.ofChange fnExactLeaseMovedSpec)

/-- ITS FALSE NEIGHBOUR: 'it returns false'. Refute it at one input. -/
def fnExactLeaseMovedWrong : ChangeSpec := { name := "fnExactLeaseMoved", fn := fun _ => fun
  | [d1, d2] => { results := [.lit (.bool false)], args := [d1, d2] }
  | _ => none }
def FnExactLeaseMovedWrongFalsely : Prop := fnExactLeaseMovedRow.holds Try.pinned (OpenSpec.ofChange fnExactLeaseMovedWrong)

/-- 'laws.FnExactLeaseAll': WHATEVER THE INPUT: true; the input reads as it did. -/
def fnExactLeaseAllSpec : ChangeSpec := { name := "fnExactLeaseAll", fn := fun _ => fun
  | [d1, d2] => { results := [.lit (.bool true)], args := [d1, d2] }
  | _ => none }
def fnExactLeaseAllRow : OpenClaim := { program := "ytdmmdbapkogdhaa", sum := "ad3b65302e81c96ce1ef6c2ba50d6dd239f1cba7993362d1d0c002e265069af3", func := "loop.example/g00677/laws.FnExactLeaseAll", spec := "fnExactLeaseAll", unfollowed := true, recurses := true, apart := false }
def FnExactLeaseAllSaid : Prop := fnExactLeaseAllRow.holds Try.pinned (OpenSpec.ofChange fnExactLeaseAllSpec)

/-- ITS FALSE NEIGHBOUR: 'it returns false'. Refute it at one input. -/
def fnExactLeaseAllWrong : ChangeSpec := { name := "fnExactLeaseAll", fn := fun _ => fun
  | [d1, d2] => { results := [.lit (.bool false)], args := [d1, d2] }
  | _ => none }
def FnExactLeaseAllWrongFalsely : Prop := fnExactLeaseAllRow.holds Try.pinned (OpenSpec.ofChange fnExactLeaseAllWrong)

/-- 'laws.FnExactStackMoved': WHATEVER THE INPUT: true; the input reads as it did. -/
def fnExactStackMovedSpec : ChangeSpec := { name := "fnExactStackMoved", fn := fun _ => fun
  | [d1, d2] => { results := [.lit (.bool true)], args := [d1, d2] }
  | _ => none }
def fnExactStackMovedRow : OpenClaim := { program := "ytdmmdbapkogdhaa", sum := "ad3b65302e81c96ce1ef6c2ba50d6dd239f1cba7993362d1d0c002e265069af3", func := "loop.example/g00677/laws.FnExactStackMoved", spec := "fnExactStackMoved", unfollowed := true, recurses := true, apart := false }
def FnExactStackMovedSaid : Prop := fnExactStackMovedRow.holds Try.pinned (OpenSpec.ofChange fnExactStackMovedSpec)

/-- ITS FALSE NEIGHBOUR: 'it returns false'. Refute it at one input. -/
def fnExactStackMovedWrong : ChangeSpec := { name := "fnExactStackMoved", fn := fun _ => fun
  | [d1, d2] => { results := [.lit (.bool false)], args := [d1, d2] }
  | _ => none }
def FnExactStackMovedWrongFalsely : Prop := fnExactStackMovedRow.holds Try.pinned (OpenSpec.ofChange fnExactStackMovedWrong)

/-- 'laws.FnExactReqEdits': WHATEVER THE INPUT: true; the input reads as it did. -/
def fnExactReqEditsSpec : ChangeSpec := { name := "fnExactReqEdits", fn := fun _ => fun
  | [d] => { results := [.lit (.bool true)], args := [d] }
  | _ => none }
def fnExactReqEditsRow : OpenClaim := { program := "ytdmmdbapkogdhaa", sum := "ad3b65302e81c96ce1ef6c2ba50d6dd239f1cba7993362d1d0c002e265069af3", func := "loop.example/g00677/laws.FnExactReqEdits", spec := "fnExactReqEdits", apart := false }
def FnExactReqEditsSaid : Prop := fnExactReqEditsRow.holds Try.pinned (OpenSpec.ofChange fnExactReqEditsSpec)

/-- ITS FALSE NEIGHBOUR: 'it returns false'. Refute it at one input. -/
def fnExactReqEditsWrong : ChangeSpec := { name := "fnExactReqEdits", fn := fun _ => fun
  | [d] => { results := [.lit (.bool false)], args := [d] }
  | _ => none }
def FnExactReqEditsWrongFalsely : Prop := fnExactReqEditsRow.holds Try.pinned (OpenSpec.ofChange fnExactReqEditsWrong)

/- THE SECOND FORM. 'bulk': how many values and letters a reading holds, each counted each time it is reached (what is shared counts as often as it is met; a slice's spare places count too). A statement '..UptoSaid' is the law's where the arguments, and the package variables that the reading takes, are together of bulk at most 1048576: NARROWER than '..Said'. Prove '..Said' where nothing that the law and all that it calls make is longer than what came in: it says more and counts as full. Else prove '..UptoSaid'. A law counts once. -/
mutual
def uptoBulk {H : Type} : DataW H → Nat
  | .lit (.string bytes) => bytes.length + 1
  | .lit _ => 1
  | .nil => 1
  | .ptr d => uptoBulk d + 1
  | .slice elems spare => uptoBulkAll elems + uptoBulkAll spare + 1
  | .agg parts => uptoBulkAll parts + 1
  | .iface _ d => uptoBulk d + 1
  | .map entries => uptoBulkEntries entries + 1
  | .held _ => 1
def uptoBulkAll {H : Type} : List (DataW H) → Nat
  | [] => 0
  | d :: r => uptoBulk d + uptoBulkAll r
def uptoBulkEntries {H : Type} : List (Lit × DataW H) → Nat
  | [] => 0
  | x :: r => uptoBulkEntry x + uptoBulkEntries r
def uptoBulkEntry {H : Type} : Lit × DataW H → Nat
  | (.string bytes, d) => bytes.length + uptoBulk d + 1
  | (_, d) => uptoBulk d + 1
 end
def uptoSmall : (H : Type) → List (DataW H) → Bool := fun _ ds => decide (uptoBulkAll ds ≤ 1048576)
def OpenSpec.upto (s : _root_.Go.ChangeSpec) : _root_.Go.OpenSpec := { _root_.Go.OpenSpec.ofChange s with cond := some uptoSmall }

/-- 'laws.FnLeasesApart', WHERE WHAT IT READS IS OF BULK AT MOST 1048576: true; the input reads as it did. -/
def fnLeasesApartUptoRow : OpenClaim := { program := "ytdmmdbapkogdhaa", sum := "ad3b65302e81c96ce1ef6c2ba50d6dd239f1cba7993362d1d0c002e265069af3", func := "loop.example/g00677/laws.FnLeasesApart", spec := "fnLeasesApart", inPlace := ["slices.overlaps[loop.example/g00677/impl.Lease]"], unfollowed := true, recurses := true, apart := false, narrowed := true }
def FnLeasesApartUptoSaid : Prop := fnLeasesApartUptoRow.holds Try.pinned (OpenSpec.upto fnLeasesApartSpec)

/-- 'laws.FnBars', WHERE WHAT IT READS IS OF BULK AT MOST 1048576: true; the input reads as it did. -/
def fnBarsUptoRow : OpenClaim := { program := "ytdmmdbapkogdhaa", sum := "ad3b65302e81c96ce1ef6c2ba50d6dd239f1cba7993362d1d0c002e265069af3", func := "loop.example/g00677/laws.FnBars", spec := "fnBars", inPlace := ["slices.overlaps[loop.example/g00677/impl.Lease]"], unfollowed := true, recurses := true, apart := false, narrowed := true }
def FnBarsUptoSaid : Prop := fnBarsUptoRow.holds Try.pinned (OpenSpec.upto fnBarsSpec)

/-- 'laws.FnLeaseBook', WHERE WHAT IT READS IS OF BULK AT MOST 1048576: true; the input reads as it did. -/
def fnLeaseBookUptoRow : OpenClaim := { program := "ytdmmdbapkogdhaa", sum := "ad3b65302e81c96ce1ef6c2ba50d6dd239f1cba7993362d1d0c002e265069af3", func := "loop.example/g00677/laws.FnLeaseBook", spec := "fnLeaseBook", inPlace := ["slices.overlaps[loop.example/g00677/impl.Lease]"], unfollowed := true, recurses := true, apart := false, narrowed := true }
def FnLeaseBookUptoSaid : Prop := fnLeaseBookUptoRow.holds Try.pinned (OpenSpec.upto fnLeaseBookSpec)

/-- 'laws.FnStack', WHERE WHAT IT READS IS OF BULK AT MOST 1048576: true; the input reads as it did. -/
def fnStackUptoRow : OpenClaim := { program := "ytdmmdbapkogdhaa", sum := "ad3b65302e81c96ce1ef6c2ba50d6dd239f1cba7993362d1d0c002e265069af3", func := "loop.example/g00677/laws.FnStack", spec := "fnStack", unfollowed := true, recurses := true, apart := false, narrowed := true }
def FnStackUptoSaid : Prop := fnStackUptoRow.holds Try.pinned (OpenSpec.upto fnStackSpec)

/-- 'laws.FnStackMoved', WHERE WHAT IT READS IS OF BULK AT MOST 1048576: true; the input reads as it did. -/
def fnStackMovedUptoRow : OpenClaim := { program := "ytdmmdbapkogdhaa", sum := "ad3b65302e81c96ce1ef6c2ba50d6dd239f1cba7993362d1d0c002e265069af3", func := "loop.example/g00677/laws.FnStackMoved", spec := "fnStackMoved", unfollowed := true, recurses := true, apart := false, narrowed := true }
def FnStackMovedUptoSaid : Prop := fnStackMovedUptoRow.holds Try.pinned (OpenSpec.upto fnStackMovedSpec)

/-- 'laws.FnFrames', WHERE WHAT IT READS IS OF BULK AT MOST 1048576: true; the input reads as it did. -/
def fnFramesUptoRow : OpenClaim := { program := "ytdmmdbapkogdhaa", sum := "ad3b65302e81c96ce1ef6c2ba50d6dd239f1cba7993362d1d0c002e265069af3", func := "loop.example/g00677/laws.FnFrames", spec := "fnFrames", apart := false, narrowed := true }
def FnFramesUptoSaid : Prop := fnFramesUptoRow.holds Try.pinned (OpenSpec.upto fnFramesSpec)

/-- 'laws.FnExactLeasesOk', WHERE WHAT IT READS IS OF BULK AT MOST 1048576: true; the input reads as it did. -/
def fnExactLeasesOkUptoRow : OpenClaim := { program := "ytdmmdbapkogdhaa", sum := "ad3b65302e81c96ce1ef6c2ba50d6dd239f1cba7993362d1d0c002e265069af3", func := "loop.example/g00677/laws.FnExactLeasesOk", spec := "fnExactLeasesOk", apart := false, narrowed := true }
def FnExactLeasesOkUptoSaid : Prop := fnExactLeasesOkUptoRow.holds Try.pinned (OpenSpec.upto fnExactLeasesOkSpec)

/-- 'laws.FnExactLeaseTake', WHERE WHAT IT READS IS OF BULK AT MOST 1048576: true; the input reads as it did. -/
def fnExactLeaseTakeUptoRow : OpenClaim := { program := "ytdmmdbapkogdhaa", sum := "ad3b65302e81c96ce1ef6c2ba50d6dd239f1cba7993362d1d0c002e265069af3", func := "loop.example/g00677/laws.FnExactLeaseTake", spec := "fnExactLeaseTake", inPlace := ["slices.overlaps[loop.example/g00677/impl.Lease]"], unfollowed := true, recurses := true, apart := false, narrowed := true }
def FnExactLeaseTakeUptoSaid : Prop := fnExactLeaseTakeUptoRow.holds Try.pinned (OpenSpec.upto fnExactLeaseTakeSpec)

/-- 'laws.FnExactLeaseRenew', WHERE WHAT IT READS IS OF BULK AT MOST 1048576: true; the input reads as it did. -/
def fnExactLeaseRenewUptoRow : OpenClaim := { program := "ytdmmdbapkogdhaa", sum := "ad3b65302e81c96ce1ef6c2ba50d6dd239f1cba7993362d1d0c002e265069af3", func := "loop.example/g00677/laws.FnExactLeaseRenew", spec := "fnExactLeaseRenew", inPlace := ["slices.overlaps[loop.example/g00677/impl.Lease]"], unfollowed := true, recurses := true, apart := false, narrowed := true }
def FnExactLeaseRenewUptoSaid : Prop := fnExactLeaseRenewUptoRow.holds Try.pinned (OpenSpec.upto fnExactLeaseRenewSpec)

/-- 'laws.FnExactLeaseDrop', WHERE WHAT IT READS IS OF BULK AT MOST 1048576: true; the input reads as it did. -/
def fnExactLeaseDropUptoRow : OpenClaim := { program := "ytdmmdbapkogdhaa", sum := "ad3b65302e81c96ce1ef6c2ba50d6dd239f1cba7993362d1d0c002e265069af3", func := "loop.example/g00677/laws.FnExactLeaseDrop", spec := "fnExactLeaseDrop", unfollowed := true, recurses := true, apart := false, narrowed := true }
def FnExactLeaseDropUptoSaid : Prop := fnExactLeaseDropUptoRow.holds Try.pinned (OpenSpec.upto fnExactLeaseDropSpec)

/-- 'laws.FnExactLeaseExpire', WHERE WHAT IT READS IS OF BULK AT MOST 1048576: true; the input reads as it did. -/
def fnExactLeaseExpireUptoRow : OpenClaim := { program := "ytdmmdbapkogdhaa", sum := "ad3b65302e81c96ce1ef6c2ba50d6dd239f1cba7993362d1d0c002e265069af3", func := "loop.example/g00677/laws.FnExactLeaseExpire", spec := "fnExactLeaseExpire", inPlace := ["slices.overlaps[loop.example/g00677/impl.Lease]"], unfollowed := true, recurses := true, apart := false, narrowed := true }
def FnExactLeaseExpireUptoSaid : Prop := fnExactLeaseExpireUptoRow.holds Try.pinned (OpenSpec.upto fnExactLeaseExpireSpec)

/-- 'laws.FnExactLeaseBars', WHERE WHAT IT READS IS OF BULK AT MOST 1048576: true; the input reads as it did. -/
def fnExactLeaseBarsUptoRow : OpenClaim := { program := "ytdmmdbapkogdhaa", sum := "ad3b65302e81c96ce1ef6c2ba50d6dd239f1cba7993362d1d0c002e265069af3", func := "loop.example/g00677/laws.FnExactLeaseBars", spec := "fnExactLeaseBars", inPlace := ["slices.overlaps[loop.example/g00677/impl.Lease]"], unfollowed := true, recurses := true, apart := false, narrowed := true }
def FnExactLeaseBarsUptoSaid : Prop := fnExactLeaseBarsUptoRow.holds Try.pinned (OpenSpec.upto fnExactLeaseBarsSpec)

/-- 'laws.FnExactLeaseMoved', WHERE WHAT IT READS IS OF BULK AT MOST 1048576: true; the input reads as it did. -/
def fnExactLeaseMovedUptoRow : OpenClaim := { program := "ytdmmdbapkogdhaa", sum := "ad3b65302e81c96ce1ef6c2ba50d6dd239f1cba7993362d1d0c002e265069af3", func := "loop.example/g00677/laws.FnExactLeaseMoved", spec := "fnExactLeaseMoved", inPlace := ["slices.overlaps[loop.example/g00677/impl.Lease]"], unfollowed := true, recurses := true, apart := false, narrowed := true }
def FnExactLeaseMovedUptoSaid : Prop := fnExactLeaseMovedUptoRow.holds Try.pinned (OpenSpec.upto fnExactLeaseMovedSpec)

/-- 'laws.FnExactLeaseAll', WHERE WHAT IT READS IS OF BULK AT MOST 1048576: true; the input reads as it did. -/
def fnExactLeaseAllUptoRow : OpenClaim := { program := "ytdmmdbapkogdhaa", sum := "ad3b65302e81c96ce1ef6c2ba50d6dd239f1cba7993362d1d0c002e265069af3", func := "loop.example/g00677/laws.FnExactLeaseAll", spec := "fnExactLeaseAll", unfollowed := true, recurses := true, apart := false, narrowed := true }
def FnExactLeaseAllUptoSaid : Prop := fnExactLeaseAllUptoRow.holds Try.pinned (OpenSpec.upto fnExactLeaseAllSpec)

/-- 'laws.FnExactStackMoved', WHERE WHAT IT READS IS OF BULK AT MOST 1048576: true; the input reads as it did. -/
def fnExactStackMovedUptoRow : OpenClaim := { program := "ytdmmdbapkogdhaa", sum := "ad3b65302e81c96ce1ef6c2ba50d6dd239f1cba7993362d1d0c002e265069af3", func := "loop.example/g00677/laws.FnExactStackMoved", spec := "fnExactStackMoved", unfollowed := true, recurses := true, apart := false, narrowed := true }
def FnExactStackMovedUptoSaid : Prop := fnExactStackMovedUptoRow.holds Try.pinned (OpenSpec.upto fnExactStackMovedSpec)

/-- 'laws.FnExactReqEdits', WHERE WHAT IT READS IS OF BULK AT MOST 1048576: true; the input reads as it did. -/
def fnExactReqEditsUptoRow : OpenClaim := { program := "ytdmmdbapkogdhaa", sum := "ad3b65302e81c96ce1ef6c2ba50d6dd239f1cba7993362d1d0c002e265069af3", func := "loop.example/g00677/laws.FnExactReqEdits", spec := "fnExactReqEdits", apart := false, narrowed := true }
def FnExactReqEditsUptoSaid : Prop := fnExactReqEditsUptoRow.holds Try.pinned (OpenSpec.upto fnExactReqEditsSpec)

end Rows
end Go.Proofs.Ytdmmdbapkogdhaa
