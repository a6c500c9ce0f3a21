/-
  No cell of these rows narrows 'for every input' (looked for: loops, veiled, ifaces, maps, wideKeys, modest, calm, conditions, laid).
  DERIVED. THE GIVEN ROWS OF THIS SEAT. 12 by the template 'for every input the law returns true; each argument reads behind the call as it read before'; 0 by the template 'total and deterministic' (their statements: YtalcjgmmlmhngaaTotals.lean).
  GIVEN WITH THE SEED: the statements are not yours to turn. If you find one false, say at which input.
  Laid BY PROGRAM, IN A SANDBOX (cutbox-rows.mjs): the forced cells as the released guide's own fill.sh prints them over the translation 3c55129e9118d67a… (all of the seat's roots in one cut). By AI agents, Wed Nov 11 2026. No macro, syntax, notation, axiom, sorry.
-/
import Derived.Test.YtalcjgmmlmhngaaChecked
import GoSem.Claim
import GoSem.ClaimJoined
import GoSem.ClaimMapViews
import Derived.JoinedTies
import Derived.KernelRfl
namespace Go.Proofs.Ytalcjgmmlmhngaa
/- THE CELL 'sum', in the pinned program and in every row, IS THE sha256 OF THE DUMP (.gsa) THAT YtalcjgmmlmhngaaProg.lean LOADS. Nothing in Lean hashes anything: it is a label: what it is worth is what the hold of that sum in a sandbox is worth. -/
noncomputable def Try.pinned : Pinned := { name := "ytalcjgmmlmhngaa", sum := "3c55129e9118d67a20e5212ba256f9ab9da2f0cf4755c403ee3dc8a257086b39", checked := Try.checked }
namespace Rows
def none {H : Type} : Left H := { results := [], args := [] }

/-- 'laws.FnExactLeaseExpire': WHATEVER THE INPUT: true; the input reads as it did. -/
def fnExactLeaseExpireSpec : ChangeSpec := { name := "fnExactLeaseExpire", fn := fun _ => fun
  | [d1, d2] => { results := [.lit (.bool true)], args := [d1, d2] }
  | _ => none }
def fnExactLeaseExpireRow : OpenClaim := { program := "ytalcjgmmlmhngaa", sum := "3c55129e9118d67a20e5212ba256f9ab9da2f0cf4755c403ee3dc8a257086b39", func := "loop.example/g00677/laws.FnExactLeaseExpire", spec := "fnExactLeaseExpire", inPlace := ["slices.overlaps[loop.example/g00677/impl.Lease]"], unfollowed := true, recurses := true, apart := false }
def FnExactLeaseExpireSaid : Prop := fnExactLeaseExpireRow.holds Try.pinned (OpenSpec.ofChange fnExactLeaseExpireSpec)

/-- ITS FALSE NEIGHBOUR: 'it returns false'. Refute it at one input. -/
def fnExactLeaseExpireWrong : ChangeSpec := { name := "fnExactLeaseExpire", fn := fun _ => fun
  | [d1, d2] => { results := [.lit (.bool false)], args := [d1, d2] }
  | _ => none }
def FnExactLeaseExpireWrongFalsely : Prop := fnExactLeaseExpireRow.holds Try.pinned (OpenSpec.ofChange fnExactLeaseExpireWrong)

/-- 'laws.FnExactLeaseTake': WHATEVER THE INPUT: true; the input reads as it did. -/
def fnExactLeaseTakeSpec : ChangeSpec := { name := "fnExactLeaseTake", fn := fun _ => fun
  | [d1, d2, d3] => { results := [.lit (.bool true)], args := [d1, d2, d3] }
  | _ => none }
def fnExactLeaseTakeRow : OpenClaim := { program := "ytalcjgmmlmhngaa", sum := "3c55129e9118d67a20e5212ba256f9ab9da2f0cf4755c403ee3dc8a257086b39", func := "loop.example/g00677/laws.FnExactLeaseTake", spec := "fnExactLeaseTake", inPlace := ["slices.overlaps[loop.example/g00677/impl.Lease]"], unfollowed := true, recurses := true, apart := false }
def FnExactLeaseTakeSaid : Prop := fnExactLeaseTakeRow.holds Try.pinned (OpenSpec.ofChange fnExactLeaseTakeSpec)

/-- ITS FALSE NEIGHBOUR: 'it returns false'. Refute it at one input. -/
def fnExactLeaseTakeWrong : ChangeSpec := { name := "fnExactLeaseTake", fn := fun _ => fun
  | [d1, d2, d3] => { results := [.lit (.bool false)], args := [d1, d2, d3] }
  | _ => none }
def FnExactLeaseTakeWrongFalsely : Prop := fnExactLeaseTakeRow.holds Try.pinned (OpenSpec.ofChange fnExactLeaseTakeWrong)

/-- 'laws.FnExactLeaseRenew': WHATEVER THE INPUT: true; the input reads as it did. -/
def fnExactLeaseRenewSpec : ChangeSpec := { name := "fnExactLeaseRenew", fn := fun _ => fun
  | [d1, d2, d3] => { results := [.lit (.bool true)], args := [d1, d2, d3] }
  | _ => none }
def fnExactLeaseRenewRow : OpenClaim := { program := "ytalcjgmmlmhngaa", sum := "3c55129e9118d67a20e5212ba256f9ab9da2f0cf4755c403ee3dc8a257086b39", func := "loop.example/g00677/laws.FnExactLeaseRenew", spec := "fnExactLeaseRenew", inPlace := ["slices.overlaps[loop.example/g00677/impl.Lease]"], unfollowed := true, recurses := true, apart := false }
def FnExactLeaseRenewSaid : Prop := fnExactLeaseRenewRow.holds Try.pinned (OpenSpec.ofChange fnExactLeaseRenewSpec)

/-- ITS FALSE NEIGHBOUR: 'it returns false'. Refute it at one input. -/
def fnExactLeaseRenewWrong : ChangeSpec := { name := "fnExactLeaseRenew", fn := fun _ => fun
  | [d1, d2, d3] => { results := [.lit (.bool false)], args := [d1, d2, d3] }
  | _ => none }
def FnExactLeaseRenewWrongFalsely : Prop := fnExactLeaseRenewRow.holds Try.pinned (OpenSpec.ofChange fnExactLeaseRenewWrong)

/-- 'laws.FnExactLeaseBars': WHATEVER THE INPUT: true; the input reads as it did. -/
def fnExactLeaseBarsSpec : ChangeSpec := { name := "fnExactLeaseBars", fn := fun _ => fun
  | [d1, d2, d3, d4] => { results := [.lit (.bool true)], args := [d1, d2, d3, d4] }
  | _ => none }
def fnExactLeaseBarsRow : OpenClaim := { program := "ytalcjgmmlmhngaa", sum := "3c55129e9118d67a20e5212ba256f9ab9da2f0cf4755c403ee3dc8a257086b39", func := "loop.example/g00677/laws.FnExactLeaseBars", spec := "fnExactLeaseBars", inPlace := ["slices.overlaps[loop.example/g00677/impl.Lease]"], unfollowed := true, recurses := true, apart := false }
def FnExactLeaseBarsSaid : Prop := fnExactLeaseBarsRow.holds Try.pinned (OpenSpec.ofChange fnExactLeaseBarsSpec)

/-- ITS FALSE NEIGHBOUR: 'it returns false'. Refute it at one input. -/
def fnExactLeaseBarsWrong : ChangeSpec := { name := "fnExactLeaseBars", fn := fun _ => fun
  | [d1, d2, d3, d4] => { results := [.lit (.bool false)], args := [d1, d2, d3, d4] }
  | _ => none }
def FnExactLeaseBarsWrongFalsely : Prop := fnExactLeaseBarsRow.holds Try.pinned (OpenSpec.ofChange fnExactLeaseBarsWrong)

/-- 'laws.FnExactLeaseMoved': WHATEVER THE INPUT: true; the input reads as it did. -/
def fnExactLeaseMovedSpec : ChangeSpec := { name := "fnExactLeaseMoved", fn := fun _ => fun
  | [d1, d2] => { results := [.lit (.bool true)], args := [d1, d2] }
  | _ => none }
def fnExactLeaseMovedRow : OpenClaim := { program := "ytalcjgmmlmhngaa", sum := "3c55129e9118d67a20e5212ba256f9ab9da2f0cf4755c403ee3dc8a257086b39", func := "loop.example/g00677/laws.FnExactLeaseMoved", spec := "fnExactLeaseMoved", inPlace := ["slices.overlaps[loop.example/g00677/impl.Lease]"], unfollowed := true, recurses := true, apart := false }
def FnExactLeaseMovedSaid : Prop := fnExactLeaseMovedRow.holds Try.pinned (OpenSpec.ofChange fnExactLeaseMovedSpec)

/-- ITS FALSE NEIGHBOUR: 'it returns false'. Refute it at one input. -/
def fnExactLeaseMovedWrong : ChangeSpec := { name := "fnExactLeaseMoved", fn := fun _ => fun
  | [d1, d2] => { results := [.lit (.bool false)], args := [d1, d2] }
  | _ => none }
def FnExactLeaseMovedWrongFalsely : Prop := fnExactLeaseMovedRow.holds Try.pinned (OpenSpec.ofChange fnExactLeaseMovedWrong)

/-- 'laws.FnExactStackOk': WHATEVER THE INPUT: true; the input reads as it did. -/
def fnExactStackOkSpec : ChangeSpec := { name := "fnExactStackOk", fn := fun _ => fun
  | [d] => { results := [.lit (.bool true)], args := [d] }
  | _ => none }
def fnExactStackOkRow : OpenClaim := { program := "ytalcjgmmlmhngaa", sum := "3c55129e9118d67a20e5212ba256f9ab9da2f0cf4755c403ee3dc8a257086b39", func := "loop.example/g00677/laws.FnExactStackOk", spec := "fnExactStackOk", unfollowed := true, recurses := true, apart := false }
def FnExactStackOkSaid : Prop := fnExactStackOkRow.holds Try.pinned (OpenSpec.ofChange fnExactStackOkSpec)

/-- ITS FALSE NEIGHBOUR: 'it returns false'. Refute it at one input. -/
def fnExactStackOkWrong : ChangeSpec := { name := "fnExactStackOk", fn := fun _ => fun
  | [d] => { results := [.lit (.bool false)], args := [d] }
  | _ => none }
def FnExactStackOkWrongFalsely : Prop := fnExactStackOkRow.holds Try.pinned (OpenSpec.ofChange fnExactStackOkWrong)

/-- 'laws.FnExactStackTop': WHATEVER THE INPUT: true; the input reads as it did. -/
def fnExactStackTopSpec : ChangeSpec := { name := "fnExactStackTop", fn := fun _ => fun
  | [d1, d2] => { results := [.lit (.bool true)], args := [d1, d2] }
  | _ => none }
def fnExactStackTopRow : OpenClaim := { program := "ytalcjgmmlmhngaa", sum := "3c55129e9118d67a20e5212ba256f9ab9da2f0cf4755c403ee3dc8a257086b39", func := "loop.example/g00677/laws.FnExactStackTop", spec := "fnExactStackTop", unfollowed := true, recurses := true, apart := false }
def FnExactStackTopSaid : Prop := fnExactStackTopRow.holds Try.pinned (OpenSpec.ofChange fnExactStackTopSpec)

/-- ITS FALSE NEIGHBOUR: 'it returns false'. Refute it at one input. -/
def fnExactStackTopWrong : ChangeSpec := { name := "fnExactStackTop", fn := fun _ => fun
  | [d1, d2] => { results := [.lit (.bool false)], args := [d1, d2] }
  | _ => none }
def FnExactStackTopWrongFalsely : Prop := fnExactStackTopRow.holds Try.pinned (OpenSpec.ofChange fnExactStackTopWrong)

/-- 'laws.FnExactStackPush': WHATEVER THE INPUT: true; the input reads as it did. -/
def fnExactStackPushSpec : ChangeSpec := { name := "fnExactStackPush", fn := fun _ => fun
  | [d1, d2] => { results := [.lit (.bool true)], args := [d1, d2] }
  | _ => none }
def fnExactStackPushRow : OpenClaim := { program := "ytalcjgmmlmhngaa", sum := "3c55129e9118d67a20e5212ba256f9ab9da2f0cf4755c403ee3dc8a257086b39", func := "loop.example/g00677/laws.FnExactStackPush", spec := "fnExactStackPush", unfollowed := true, recurses := true, apart := false }
def FnExactStackPushSaid : Prop := fnExactStackPushRow.holds Try.pinned (OpenSpec.ofChange fnExactStackPushSpec)

/-- ITS FALSE NEIGHBOUR: 'it returns false'. Refute it at one input. -/
def fnExactStackPushWrong : ChangeSpec := { name := "fnExactStackPush", fn := fun _ => fun
  | [d1, d2] => { results := [.lit (.bool false)], args := [d1, d2] }
  | _ => none }
def FnExactStackPushWrongFalsely : Prop := fnExactStackPushRow.holds Try.pinned (OpenSpec.ofChange fnExactStackPushWrong)

/-- 'laws.FnExactStackTurn': WHATEVER THE INPUT: true; the input reads as it did. -/
def fnExactStackTurnSpec : ChangeSpec := { name := "fnExactStackTurn", fn := fun _ => fun
  | [d1, d2, d3] => { results := [.lit (.bool true)], args := [d1, d2, d3] }
  | _ => none }
def fnExactStackTurnRow : OpenClaim := { program := "ytalcjgmmlmhngaa", sum := "3c55129e9118d67a20e5212ba256f9ab9da2f0cf4755c403ee3dc8a257086b39", func := "loop.example/g00677/laws.FnExactStackTurn", spec := "fnExactStackTurn", unfollowed := true, recurses := true, apart := false }
def FnExactStackTurnSaid : Prop := fnExactStackTurnRow.holds Try.pinned (OpenSpec.ofChange fnExactStackTurnSpec)

/-- ITS FALSE NEIGHBOUR: 'it returns false'. Refute it at one input. -/
def fnExactStackTurnWrong : ChangeSpec := { name := "fnExactStackTurn", fn := fun _ => fun
  | [d1, d2, d3] => { results := [.lit (.bool false)], args := [d1, d2, d3] }
  | _ => none }
def FnExactStackTurnWrongFalsely : Prop := fnExactStackTurnRow.holds Try.pinned (OpenSpec.ofChange fnExactStackTurnWrong)

/-- 'laws.FnExactStackMoved': WHATEVER THE INPUT: true; the input reads as it did. -/
def fnExactStackMovedSpec : ChangeSpec := { name := "fnExactStackMoved", fn := fun _ => fun
  | [d1, d2] => { results := [.lit (.bool true)], args := [d1, d2] }
  | _ => none }
def fnExactStackMovedRow : OpenClaim := { program := "ytalcjgmmlmhngaa", sum := "3c55129e9118d67a20e5212ba256f9ab9da2f0cf4755c403ee3dc8a257086b39", func := "loop.example/g00677/laws.FnExactStackMoved", spec := "fnExactStackMoved", unfollowed := true, recurses := true, apart := false }
def FnExactStackMovedSaid : Prop := fnExactStackMovedRow.holds Try.pinned (OpenSpec.ofChange fnExactStackMovedSpec)

/-- ITS FALSE NEIGHBOUR: 'it returns false'. Refute it at one input. -/
def fnExactStackMovedWrong : ChangeSpec := { name := "fnExactStackMoved", fn := fun _ => fun
  | [d1, d2] => { results := [.lit (.bool false)], args := [d1, d2] }
  | _ => none }
def FnExactStackMovedWrongFalsely : Prop := fnExactStackMovedRow.holds Try.pinned (OpenSpec.ofChange fnExactStackMovedWrong)

/-- 'laws.FnStack': WHATEVER THE INPUT: true; the input reads as it did. -/
def fnStackSpec : ChangeSpec := { name := "fnStack", fn := fun _ => fun
  | [d] => { results := [.lit (.bool true)], args := [d] }
  | _ => none }
def fnStackRow : OpenClaim := { program := "ytalcjgmmlmhngaa", sum := "3c55129e9118d67a20e5212ba256f9ab9da2f0cf4755c403ee3dc8a257086b39", func := "loop.example/g00677/laws.FnStack", spec := "fnStack", unfollowed := true, recurses := true, apart := false }
def FnStackSaid : Prop := fnStackRow.holds Try.pinned (OpenSpec.ofChange fnStackSpec)

/-- ITS FALSE NEIGHBOUR: 'it returns false'. Refute it at one input. -/
def fnStackWrong : ChangeSpec := { name := "fnStack", fn := fun _ => fun
  | [d] => { results := [.lit (.bool false)], args := [d] }
  | _ => none }
def FnStackWrongFalsely : Prop := fnStackRow.holds Try.pinned (OpenSpec.ofChange fnStackWrong)

/-- 'laws.FnStackMoved': WHATEVER THE INPUT: true; the input reads as it did. -/
def fnStackMovedSpec : ChangeSpec := { name := "fnStackMoved", fn := fun _ => fun
  | [d] => { results := [.lit (.bool true)], args := [d] }
  | _ => none }
def fnStackMovedRow : OpenClaim := { program := "ytalcjgmmlmhngaa", sum := "3c55129e9118d67a20e5212ba256f9ab9da2f0cf4755c403ee3dc8a257086b39", func := "loop.example/g00677/laws.FnStackMoved", spec := "fnStackMoved", unfollowed := true, recurses := true, apart := false }
def FnStackMovedSaid : Prop := fnStackMovedRow.holds Try.pinned (OpenSpec.ofChange fnStackMovedSpec)

/-- ITS FALSE NEIGHBOUR: 'it returns false'. Refute it at one input. -/
def fnStackMovedWrong : ChangeSpec := { name := "fnStackMoved", fn := fun _ => fun
  | [d] => { results := [.lit (.bool false)], args := [d] }
  | _ => none }
def FnStackMovedWrongFalsely : Prop := fnStackMovedRow.holds Try.pinned (OpenSpec.ofChange fnStackMovedWrong)

/- THE SECOND FORM. 'bulk': how many values and letters a reading holds, each counted each time it is reached (what is shared counts as often as it is met; a slice's spare places count too). A statement '..UptoSaid' is the law's where the arguments, and the package variables that the reading takes, are together of bulk at most 1048576: NARROWER than '..Said'. Prove '..Said' where nothing that the law and all that it calls make is longer than what came in: it says more and counts as full. Else prove '..UptoSaid'. A law counts once. -/
mutual
def uptoBulk {H : Type} : DataW H → Nat
  | .lit (.string bytes) => bytes.length + 1
  | .lit _ => 1
  | .nil => 1
  | .ptr d => uptoBulk d + 1
  | .slice elems spare => uptoBulkAll elems + uptoBulkAll spare + 1
  | .agg parts => uptoBulkAll parts + 1
  | .iface _ d => uptoBulk d + 1
  | .map entries => uptoBulkEntries entries + 1
  | .held _ => 1
def uptoBulkAll {H : Type} : List (DataW H) → Nat
  | [] => 0
  | d :: r => uptoBulk d + uptoBulkAll r
def uptoBulkEntries {H : Type} : List (Lit × DataW H) → Nat
  | [] => 0
  | x :: r => uptoBulkEntry x + uptoBulkEntries r
def uptoBulkEntry {H : Type} : Lit × DataW H → Nat
  | (.string bytes, d) => bytes.length + uptoBulk d + 1
  | (_, d) => uptoBulk d + 1
 end
def uptoSmall : (H : Type) → List (DataW H) → Bool := fun _ ds => decide (uptoBulkAll ds ≤ 1048576)
def OpenSpec.upto (s : _root_.Go.ChangeSpec) : _root_.Go.OpenSpec := { _root_.Go.OpenSpec.ofChange s with cond := some uptoSmall }

/-- 'laws.FnExactLeaseExpire', WHERE WHAT IT READS IS OF BULK AT MOST 1048576: true; the input reads as it did. -/
def fnExactLeaseExpireUptoRow : OpenClaim := { program := "ytalcjgmmlmhngaa", sum := "3c55129e9118d67a20e5212ba256f9ab9da2f0cf4755c403ee3dc8a257086b39", func := "loop.example/g00677/laws.FnExactLeaseExpire", spec := "fnExactLeaseExpire", inPlace := ["slices.overlaps[loop.example/g00677/impl.Lease]"], unfollowed := true, recurses := true, apart := false, narrowed := true }
def FnExactLeaseExpireUptoSaid : Prop := fnExactLeaseExpireUptoRow.holds Try.pinned (OpenSpec.upto fnExactLeaseExpireSpec)

/-- 'laws.FnExactLeaseTake', WHERE WHAT IT READS IS OF BULK AT MOST 1048576: true; the input reads as it did. -/
def fnExactLeaseTakeUptoRow : OpenClaim := { program := "ytalcjgmmlmhngaa", sum := "3c55129e9118d67a20e5212ba256f9ab9da2f0cf4755c403ee3dc8a257086b39", func := "loop.example/g00677/laws.FnExactLeaseTake", spec := "fnExactLeaseTake", inPlace := ["slices.overlaps[loop.example/g00677/impl.Lease]"], unfollowed := true, recurses := true, apart := false, narrowed := true }
def FnExactLeaseTakeUptoSaid : Prop := fnExactLeaseTakeUptoRow.holds Try.pinned (OpenSpec.upto fnExactLeaseTakeSpec)

/-- 'laws.FnExactLeaseRenew', WHERE WHAT IT READS IS OF BULK AT MOST 1048576: true; the input reads as it did. -/
def fnExactLeaseRenewUptoRow : OpenClaim := { program := "ytalcjgmmlmhngaa", sum := "3c55129e9118d67a20e5212ba256f9ab9da2f0cf4755c403ee3dc8a257086b39", func := "loop.example/g00677/laws.FnExactLeaseRenew", spec := "fnExactLeaseRenew", inPlace := ["slices.overlaps[loop.example/g00677/impl.Lease]"], unfollowed := true, recurses := true, apart := false, narrowed := true }
def FnExactLeaseRenewUptoSaid : Prop := fnExactLeaseRenewUptoRow.holds Try.pinned (OpenSpec.upto fnExactLeaseRenewSpec)

/-- 'laws.FnExactLeaseBars', WHERE WHAT IT READS IS OF BULK AT MOST 1048576: true; the input reads as it did. -/
def fnExactLeaseBarsUptoRow : OpenClaim := { program := "ytalcjgmmlmhngaa", sum := "3c55129e9118d67a20e5212ba256f9ab9da2f0cf4755c403ee3dc8a257086b39", func := "loop.example/g00677/laws.FnExactLeaseBars", spec := "fnExactLeaseBars", inPlace := ["slices.overlaps[loop.example/g00677/impl.Lease]"], unfollowed := true, recurses := true, apart := false, narrowed := true }
def FnExactLeaseBarsUptoSaid : Prop := fnExactLeaseBarsUptoRow.holds Try.pinned (OpenSpec.upto fnExactLeaseBarsSpec)

/-- 'laws.FnExactLeaseMoved', WHERE WHAT IT READS IS OF BULK AT MOST 1048576: true; the input reads as it did. -/
def fnExactLeaseMovedUptoRow : OpenClaim := { program := "ytalcjgmmlmhngaa", sum := "3c55129e9118d67a20e5212ba256f9ab9da2f0cf4755c403ee3dc8a257086b39", func := "loop.example/g00677/laws.FnExactLeaseMoved", spec := "fnExactLeaseMoved", inPlace := ["slices.overlaps[loop.example/g00677/impl.Lease]"], unfollowed := true, recurses := true, apart := false, narrowed := true }
def FnExactLeaseMovedUptoSaid : Prop := fnExactLeaseMovedUptoRow.holds Try.pinned (OpenSpec.upto fnExactLeaseMovedSpec)

/-- 'laws.FnExactStackOk', WHERE WHAT IT READS IS OF BULK AT MOST 1048576: true; the input reads as it did. -/
def fnExactStackOkUptoRow : OpenClaim := { program := "ytalcjgmmlmhngaa", sum := "3c55129e9118d67a20e5212ba256f9ab9da2f0cf4755c403ee3dc8a257086b39", func := "loop.example/g00677/laws.FnExactStackOk", spec := "fnExactStackOk", unfollowed := true, recurses := true, apart := false, narrowed := true }
def FnExactStackOkUptoSaid : Prop := fnExactStackOkUptoRow.holds Try.pinned (OpenSpec.upto fnExactStackOkSpec)

/-- 'laws.FnExactStackTop', WHERE WHAT IT READS IS OF BULK AT MOST 1048576: true; the input reads as it did. -/
def fnExactStackTopUptoRow : OpenClaim := { program := "ytalcjgmmlmhngaa", sum := "3c55129e9118d67a20e5212ba256f9ab9da2f0cf4755c403ee3dc8a257086b39", func := "loop.example/g00677/laws.FnExactStackTop", spec := "fnExactStackTop", unfollowed := true, recurses := true, apart := false, narrowed := true }
def FnExactStackTopUptoSaid : Prop := fnExactStackTopUptoRow.holds Try.pinned (OpenSpec.upto fnExactStackTopSpec)

/-- 'laws.FnExactStackPush', WHERE WHAT IT READS IS OF BULK AT MOST 1048576: true; the input reads as it did. -/
def fnExactStackPushUptoRow : OpenClaim := { program := "ytalcjgmmlmhngaa", sum := "3c55129e9118d67a20e5212ba256f9ab9da2f0cf4755c403ee3dc8a257086b39", func := "loop.example/g00677/laws.FnExactStackPush", spec := "fnExactStackPush", unfollowed := true, recurses := true, apart := false, narrowed := true }
def FnExactStackPushUptoSaid : Prop := fnExactStackPushUptoRow.holds Try.pinned (OpenSpec.upto fnExactStackPushSpec)

/-- 'laws.FnExactStackTurn', WHERE WHAT IT READS IS OF BULK AT MOST 1048576: true; the input reads as it did. -/
def fnExactStackTurnUptoRow : OpenClaim := { program := "ytalcjgmmlmhngaa", sum := "3c55129e9118d67a20e5212ba256f9ab9da2f0cf4755c403ee3dc8a257086b39", func := "loop.example/g00677/laws.FnExactStackTurn", spec := "fnExactStackTurn", unfollowed := true, recurses := true, apart := false, narrowed := true }
def FnExactStackTurnUptoSaid : Prop := fnExactStackTurnUptoRow.holds Try.pinned (OpenSpec.upto fnExactStackTurnSpec)

/-- 'laws.FnExactStackMoved', WHERE WHAT IT READS IS OF BULK AT MOST 1048576: true; the input reads as it did. -/
def fnExactStackMovedUptoRow : OpenClaim := { program := "ytalcjgmmlmhngaa", sum := "3c55129e9118d67a20e5212ba256f9ab9da2f0cf4755c403ee3dc8a257086b39", func := "loop.example/g00677/laws.FnExactStackMoved", spec := "fnExactStackMoved", unfollowed := true, recurses := true, apart := false, narrowed := true }
def FnExactStackMovedUptoSaid : Prop := fnExactStackMovedUptoRow.holds Try.pinned (OpenSpec.upto fnExactStackMovedSpec)

/-- 'laws.FnStack', WHERE WHAT IT READS IS OF BULK AT MOST 1048576: true; the input reads as it did. -/
def fnStackUptoRow : OpenClaim := { program := "ytalcjgmmlmhngaa", sum := "3c55129e9118d67a20e5212ba256f9ab9da2f0cf4755c403ee3dc8a257086b39", func := "loop.example/g00677/laws.FnStack", spec := "fnStack", unfollowed := true, recurses := true, apart := false, narrowed := true }
def FnStackUptoSaid : Prop := fnStackUptoRow.holds Try.pinned (OpenSpec.upto fnStackSpec)

/-- 'laws.FnStackMoved', WHERE WHAT IT READS IS OF BULK AT MOST 1048576: true; the input reads as it did. -/
def fnStackMovedUptoRow : OpenClaim := { program := "ytalcjgmmlmhngaa", sum := "3c55129e9118d67a20e5212ba256f9ab9da2f0cf4755c403ee3dc8a257086b39", func := "loop.example/g00677/laws.FnStackMoved", spec := "fnStackMoved", unfollowed := true, recurses := true, apart := false, narrowed := true }
def FnStackMovedUptoSaid : Prop := fnStackMovedUptoRow.holds Try.pinned (OpenSpec.upto fnStackMovedSpec)

end Rows
end Go.Proofs.Ytalcjgmmlmhngaa
