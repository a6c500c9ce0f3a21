/-
  NARROWER THAN 'FOR EVERY INPUT', by the rows' own cells (each row's printed sentence says how): FnExactActOk: laid · FnExactOutsOk: laid · FnExactWaits: laid · FnExactWitness: laid · FnReqBack: laid.
  DERIVED. THE GIVEN ROWS OF THIS SEAT. 5 by the template 'for every input the law returns true; each argument reads behind the call as it read before'; 0 by the template 'total and deterministic' (their statements: YtgpjjolgpppeeaaDoorTotals.lean).
  GIVEN WITH THE SEED: the statements are not yours to turn. If you find one false, say at which input.
  Laid BY PROGRAM, IN A SANDBOX (cutbox-rows.mjs): the forced cells as the released guide's own fill.sh prints them over the translation 1b1a8b0a6c443d40… (all of the seat's roots in one cut). By AI agents, Wed Nov 11 2026. No macro, syntax, notation, axiom, sorry.
-/
import Derived.Test.YtgpjjolgpppeeaaDoorChecked
import GoSem.Claim
import GoSem.ClaimJoined
import GoSem.ClaimMapViews
import Derived.JoinedTies
import Derived.KernelRfl
namespace Go.Proofs.YtgpjjolgpppeeaaDoor
/- THE CELL 'sum', in the pinned program and in every row, IS THE sha256 OF THE DUMP (.gsa) THAT YtgpjjolgpppeeaaDoorProg.lean LOADS. Nothing in Lean hashes anything: it is a label: what it is worth is what the hold of that sum in a sandbox is worth. -/
noncomputable def Tryd.pinned : Pinned := { name := "ytgpjjolgpppeeaadoor", sum := "1b1a8b0a6c443d4063d9e68920c9c36cdafa5875ba1f0f0507cd285de9f42f02", checked := Tryd.checked }
namespace Rows
def none {H : Type} : Left H := { results := [], args := [] }

/- WHAT THE LISTED PACKAGE-LEVEL VARIABLES READ AS WHEN THE CALL BEGINS. Each datum BY PROGRAM (the guide's laid-datum.mjs) off the statement by which the dump's own 'gosem.cut.vars' lays the variable. In a bare row this is a premise. The card (YtgpjjolgpppeeaaDoorCards.lean) ties it to the program's text. -/
def laid_loop_example_g00677_impl_leadMarks {H : Type} : DataW H := .agg [.lit (.int .u8 0), .lit (.int .u8 0), .lit (.int .u8 192), .lit (.int .u8 224), .lit (.int .u8 240)]

/-- 'laws.FnExactActOk': WHATEVER THE INPUT: true; the input reads as it did. -/
def fnExactActOkSpec : ChangeSpec := { name := "fnExactActOk", vars := ["loop.example/g00677/impl.leadMarks"], fn := fun _ => fun
  | [d, g1] => { results := [.lit (.bool true)], args := [d], vars := [g1] }
  | _ => none }
def fnExactActOkRow : OpenClaim := { program := "ytgpjjolgpppeeaadoor", sum := "1b1a8b0a6c443d4063d9e68920c9c36cdafa5875ba1f0f0507cd285de9f42f02", func := "loop.example/g00677/laws.FnExactActOk", spec := "fnExactActOk", unfollowed := true, recurses := true, named := ["loop.example/g00677/impl.leadMarks"], apart := false, laid := [("loop.example/g00677/impl.leadMarks", laid_loop_example_g00677_impl_leadMarks)] }
def FnExactActOkSaid : Prop := fnExactActOkRow.holds Tryd.pinned (OpenSpec.ofChange fnExactActOkSpec)

/-- ITS FALSE NEIGHBOUR: 'it returns false'. Refute it at one input. -/
def fnExactActOkWrong : ChangeSpec := { name := "fnExactActOk", vars := ["loop.example/g00677/impl.leadMarks"], fn := fun _ => fun
  | [d, g1] => { results := [.lit (.bool false)], args := [d], vars := [g1] }
  | _ => none }
def FnExactActOkWrongFalsely : Prop := fnExactActOkRow.holds Tryd.pinned (OpenSpec.ofChange fnExactActOkWrong)

/-- 'laws.FnExactOutsOk': WHATEVER THE INPUT: true; the input reads as it did. -/
def fnExactOutsOkSpec : ChangeSpec := { name := "fnExactOutsOk", vars := ["loop.example/g00677/impl.leadMarks"], fn := fun _ => fun
  | [d1, d2, g1] => { results := [.lit (.bool true)], args := [d1, d2], vars := [g1] }
  | _ => none }
def fnExactOutsOkRow : OpenClaim := { program := "ytgpjjolgpppeeaadoor", sum := "1b1a8b0a6c443d4063d9e68920c9c36cdafa5875ba1f0f0507cd285de9f42f02", func := "loop.example/g00677/laws.FnExactOutsOk", spec := "fnExactOutsOk", unfollowed := true, recurses := true, named := ["loop.example/g00677/impl.leadMarks"], apart := false, laid := [("loop.example/g00677/impl.leadMarks", laid_loop_example_g00677_impl_leadMarks)] }
def FnExactOutsOkSaid : Prop := fnExactOutsOkRow.holds Tryd.pinned (OpenSpec.ofChange fnExactOutsOkSpec)

/-- ITS FALSE NEIGHBOUR: 'it returns false'. Refute it at one input. -/
def fnExactOutsOkWrong : ChangeSpec := { name := "fnExactOutsOk", vars := ["loop.example/g00677/impl.leadMarks"], fn := fun _ => fun
  | [d1, d2, g1] => { results := [.lit (.bool false)], args := [d1, d2], vars := [g1] }
  | _ => none }
def FnExactOutsOkWrongFalsely : Prop := fnExactOutsOkRow.holds Tryd.pinned (OpenSpec.ofChange fnExactOutsOkWrong)

/-- 'laws.FnExactWaits': WHATEVER THE INPUT: true; the input reads as it did. -/
def fnExactWaitsSpec : ChangeSpec := { name := "fnExactWaits", vars := ["loop.example/g00677/impl.leadMarks"], fn := fun _ => fun
  | [d1, d2, d3, g1] => { results := [.lit (.bool true)], args := [d1, d2, d3], vars := [g1] }
  | _ => none }
def fnExactWaitsRow : OpenClaim := { program := "ytgpjjolgpppeeaadoor", sum := "1b1a8b0a6c443d4063d9e68920c9c36cdafa5875ba1f0f0507cd285de9f42f02", func := "loop.example/g00677/laws.FnExactWaits", spec := "fnExactWaits", unfollowed := true, recurses := true, named := ["loop.example/g00677/impl.leadMarks"], apart := false, laid := [("loop.example/g00677/impl.leadMarks", laid_loop_example_g00677_impl_leadMarks)] }
def FnExactWaitsSaid : Prop := fnExactWaitsRow.holds Tryd.pinned (OpenSpec.ofChange fnExactWaitsSpec)

/-- ITS FALSE NEIGHBOUR: 'it returns false'. Refute it at one input. -/
def fnExactWaitsWrong : ChangeSpec := { name := "fnExactWaits", vars := ["loop.example/g00677/impl.leadMarks"], fn := fun _ => fun
  | [d1, d2, d3, g1] => { results := [.lit (.bool false)], args := [d1, d2, d3], vars := [g1] }
  | _ => none }
def FnExactWaitsWrongFalsely : Prop := fnExactWaitsRow.holds Tryd.pinned (OpenSpec.ofChange fnExactWaitsWrong)

/-- 'laws.FnExactWitness': WHATEVER THE INPUT: true; the input reads as it did. -/
def fnExactWitnessSpec : ChangeSpec := { name := "fnExactWitness", vars := ["loop.example/g00677/impl.leadMarks"], fn := fun _ => fun
  | [d1, d2, g1] => { results := [.lit (.bool true)], args := [d1, d2], vars := [g1] }
  | _ => none }
def fnExactWitnessRow : OpenClaim := { program := "ytgpjjolgpppeeaadoor", sum := "1b1a8b0a6c443d4063d9e68920c9c36cdafa5875ba1f0f0507cd285de9f42f02", func := "loop.example/g00677/laws.FnExactWitness", spec := "fnExactWitness", unfollowed := true, recurses := true, named := ["loop.example/g00677/impl.leadMarks"], apart := false, laid := [("loop.example/g00677/impl.leadMarks", laid_loop_example_g00677_impl_leadMarks)] }
def FnExactWitnessSaid : Prop := fnExactWitnessRow.holds Tryd.pinned (OpenSpec.ofChange fnExactWitnessSpec)

/-- ITS FALSE NEIGHBOUR: 'it returns false'. Refute it at one input. -/
def fnExactWitnessWrong : ChangeSpec := { name := "fnExactWitness", vars := ["loop.example/g00677/impl.leadMarks"], fn := fun _ => fun
  | [d1, d2, g1] => { results := [.lit (.bool false)], args := [d1, d2], vars := [g1] }
  | _ => none }
def FnExactWitnessWrongFalsely : Prop := fnExactWitnessRow.holds Tryd.pinned (OpenSpec.ofChange fnExactWitnessWrong)

/-- 'laws.FnReqBack': WHATEVER THE INPUT: true; the input reads as it did. -/
def fnReqBackSpec : ChangeSpec := { name := "fnReqBack", vars := ["loop.example/g00677/impl.leadMarks"], fn := fun _ => fun
  | [d, g1] => { results := [.lit (.bool true)], args := [d], vars := [g1] }
  | _ => none }
def fnReqBackRow : OpenClaim := { program := "ytgpjjolgpppeeaadoor", sum := "1b1a8b0a6c443d4063d9e68920c9c36cdafa5875ba1f0f0507cd285de9f42f02", func := "loop.example/g00677/laws.FnReqBack", spec := "fnReqBack", unfollowed := true, recurses := true, named := ["loop.example/g00677/impl.leadMarks"], apart := false, laid := [("loop.example/g00677/impl.leadMarks", laid_loop_example_g00677_impl_leadMarks)] }
def FnReqBackSaid : Prop := fnReqBackRow.holds Tryd.pinned (OpenSpec.ofChange fnReqBackSpec)

/-- ITS FALSE NEIGHBOUR: 'it returns false'. Refute it at one input. -/
def fnReqBackWrong : ChangeSpec := { name := "fnReqBack", vars := ["loop.example/g00677/impl.leadMarks"], fn := fun _ => fun
  | [d, g1] => { results := [.lit (.bool false)], args := [d], vars := [g1] }
  | _ => none }
def FnReqBackWrongFalsely : Prop := fnReqBackRow.holds Tryd.pinned (OpenSpec.ofChange fnReqBackWrong)

/- THE SECOND FORM. 'bulk': how many values and letters a reading holds, each counted each time it is reached (what is shared counts as often as it is met; a slice's spare places count too). A statement '..UptoSaid' is the law's where the arguments, and the package variables that the reading takes, are together of bulk at most 1048576: NARROWER than '..Said'. Prove '..Said' where nothing that the law and all that it calls make is longer than what came in: it says more and counts as full. Else prove '..UptoSaid'. A law counts once. -/
mutual
def uptoBulk {H : Type} : DataW H → Nat
  | .lit (.string bytes) => bytes.length + 1
  | .lit _ => 1
  | .nil => 1
  | .ptr d => uptoBulk d + 1
  | .slice elems spare => uptoBulkAll elems + uptoBulkAll spare + 1
  | .agg parts => uptoBulkAll parts + 1
  | .iface _ d => uptoBulk d + 1
  | .map entries => uptoBulkEntries entries + 1
  | .held _ => 1
def uptoBulkAll {H : Type} : List (DataW H) → Nat
  | [] => 0
  | d :: r => uptoBulk d + uptoBulkAll r
def uptoBulkEntries {H : Type} : List (Lit × DataW H) → Nat
  | [] => 0
  | x :: r => uptoBulkEntry x + uptoBulkEntries r
def uptoBulkEntry {H : Type} : Lit × DataW H → Nat
  | (.string bytes, d) => bytes.length + uptoBulk d + 1
  | (_, d) => uptoBulk d + 1
 end
def uptoSmall : (H : Type) → List (DataW H) → Bool := fun _ ds => decide (uptoBulkAll ds ≤ 1048576)
def OpenSpec.upto (s : _root_.Go.ChangeSpec) : _root_.Go.OpenSpec := { _root_.Go.OpenSpec.ofChange s with cond := some uptoSmall }

/-- 'laws.FnExactActOk', WHERE WHAT IT READS IS OF BULK AT MOST 1048576: true; the input reads as it did. -/
def fnExactActOkUptoRow : OpenClaim := { program := "ytgpjjolgpppeeaadoor", sum := "1b1a8b0a6c443d4063d9e68920c9c36cdafa5875ba1f0f0507cd285de9f42f02", func := "loop.example/g00677/laws.FnExactActOk", spec := "fnExactActOk", unfollowed := true, recurses := true, named := ["loop.example/g00677/impl.leadMarks"], apart := false, laid := [("loop.example/g00677/impl.leadMarks", laid_loop_example_g00677_impl_leadMarks)], narrowed := true }
def FnExactActOkUptoSaid : Prop := fnExactActOkUptoRow.holds Tryd.pinned (OpenSpec.upto fnExactActOkSpec)

/-- 'laws.FnExactOutsOk', WHERE WHAT IT READS IS OF BULK AT MOST 1048576: true; the input reads as it did. -/
def fnExactOutsOkUptoRow : OpenClaim := { program := "ytgpjjolgpppeeaadoor", sum := "1b1a8b0a6c443d4063d9e68920c9c36cdafa5875ba1f0f0507cd285de9f42f02", func := "loop.example/g00677/laws.FnExactOutsOk", spec := "fnExactOutsOk", unfollowed := true, recurses := true, named := ["loop.example/g00677/impl.leadMarks"], apart := false, laid := [("loop.example/g00677/impl.leadMarks", laid_loop_example_g00677_impl_leadMarks)], narrowed := true }
def FnExactOutsOkUptoSaid : Prop := fnExactOutsOkUptoRow.holds Tryd.pinned (OpenSpec.upto fnExactOutsOkSpec)

/-- 'laws.FnExactWaits', WHERE WHAT IT READS IS OF BULK AT MOST 1048576: true; the input reads as it did. -/
def fnExactWaitsUptoRow : OpenClaim := { program := "ytgpjjolgpppeeaadoor", sum := "1b1a8b0a6c443d4063d9e68920c9c36cdafa5875ba1f0f0507cd285de9f42f02", func := "loop.example/g00677/laws.FnExactWaits", spec := "fnExactWaits", unfollowed := true, recurses := true, named := ["loop.example/g00677/impl.leadMarks"], apart := false, laid := [("loop.example/g00677/impl.leadMarks", laid_loop_example_g00677_impl_leadMarks)], narrowed := true }
def FnExactWaitsUptoSaid : Prop := fnExactWaitsUptoRow.holds Tryd.pinned (OpenSpec.upto fnExactWaitsSpec)

/-- 'laws.FnExactWitness', WHERE WHAT IT READS IS OF BULK AT MOST 1048576: true; the input reads as it did. -/
def fnExactWitnessUptoRow : OpenClaim := { program := "ytgpjjolgpppeeaadoor", sum := "1b1a8b0a6c443d4063d9e68920c9c36cdafa5875ba1f0f0507cd285de9f42f02", func := "loop.example/g00677/laws.FnExactWitness", spec := "fnExactWitness", unfollowed := true, recurses := true, named := ["loop.example/g00677/impl.leadMarks"], apart := false, laid := [("loop.example/g00677/impl.leadMarks", laid_loop_example_g00677_impl_leadMarks)], narrowed := true }
def FnExactWitnessUptoSaid : Prop := fnExactWitnessUptoRow.holds Tryd.pinned (OpenSpec.upto fnExactWitnessSpec)

/-- 'laws.FnReqBack', WHERE WHAT IT READS IS OF BULK AT MOST 1048576: true; the input reads as it did. -/
def fnReqBackUptoRow : OpenClaim := { program := "ytgpjjolgpppeeaadoor", sum := "1b1a8b0a6c443d4063d9e68920c9c36cdafa5875ba1f0f0507cd285de9f42f02", func := "loop.example/g00677/laws.FnReqBack", spec := "fnReqBack", unfollowed := true, recurses := true, named := ["loop.example/g00677/impl.leadMarks"], apart := false, laid := [("loop.example/g00677/impl.leadMarks", laid_loop_example_g00677_impl_leadMarks)], narrowed := true }
def FnReqBackUptoSaid : Prop := fnReqBackUptoRow.holds Tryd.pinned (OpenSpec.upto fnReqBackSpec)

end Rows
end Go.Proofs.YtgpjjolgpppeeaaDoor
