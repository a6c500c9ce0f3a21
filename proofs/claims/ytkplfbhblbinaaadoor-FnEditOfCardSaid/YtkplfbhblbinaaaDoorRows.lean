/-
  NARROWER THAN 'FOR EVERY INPUT', by the rows' own cells (each row's printed sentence says how): FnEditBack: laid · FnEditOf: laid · FnEditJoin: laid · FnEditsDo: laid · FnMoved: laid · FnExactEditOk: laid · FnExactEditDo: laid · FnExactEditBack: laid · FnExactEditsDo: laid.
  DERIVED. THE GIVEN ROWS OF THIS SEAT. 9 by the template 'for every input the law returns true; each argument reads behind the call as it read before'; 0 by the template 'total and deterministic' (their statements: YtkplfbhblbinaaaDoorTotals.lean).
  GIVEN WITH THE SEED: the statements are not yours to turn. If you find one false, say at which input.
  Laid BY PROGRAM, IN A SANDBOX (cutbox-rows.mjs): the forced cells as the released guide's own fill.sh prints them over the translation 5d8928e1afb11582… (all of the seat's roots in one cut). By AI agents, Wed Nov 11 2026. No macro, syntax, notation, axiom, sorry.
-/
import Derived.Test.YtkplfbhblbinaaaDoorChecked
import GoSem.Claim
import GoSem.ClaimJoined
import GoSem.ClaimMapViews
import Derived.JoinedTies
import Derived.KernelRfl
namespace Go.Proofs.YtkplfbhblbinaaaDoor
/- THE CELL 'sum', in the pinned program and in every row, IS THE sha256 OF THE DUMP (.gsa) THAT YtkplfbhblbinaaaDoorProg.lean LOADS. Nothing in Lean hashes anything: it is a label: what it is worth is what the hold of that sum in a sandbox is worth. -/
noncomputable def Tryd.pinned : Pinned := { name := "ytkplfbhblbinaaadoor", sum := "5d8928e1afb11582d88cfc81eea56cf2dd107744bb311f01dc2977655d61f355", checked := Tryd.checked }
namespace Rows
def none {H : Type} : Left H := { results := [], args := [] }

/- WHAT THE LISTED PACKAGE-LEVEL VARIABLES READ AS WHEN THE CALL BEGINS. Each datum BY PROGRAM (the guide's laid-datum.mjs) off the statement by which the dump's own 'gosem.cut.vars' lays the variable. In a bare row this is a premise. The card (YtkplfbhblbinaaaDoorCards.lean) ties it to the program's text. -/
def laid_loop_example_g00677_impl_leadMarks {H : Type} : DataW H := .agg [.lit (.int .u8 0), .lit (.int .u8 0), .lit (.int .u8 192), .lit (.int .u8 224), .lit (.int .u8 240)]

/-- 'laws.FnEditBack': WHATEVER THE INPUT: true; the input reads as it did. -/
def fnEditBackSpec : ChangeSpec := { name := "fnEditBack", vars := ["loop.example/g00677/impl.leadMarks"], fn := fun _ => fun
  | [d, g1] => { results := [.lit (.bool true)], args := [d], vars := [g1] }
  | _ => none }
def fnEditBackRow : OpenClaim := { program := "ytkplfbhblbinaaadoor", sum := "5d8928e1afb11582d88cfc81eea56cf2dd107744bb311f01dc2977655d61f355", func := "loop.example/g00677/laws.FnEditBack", spec := "fnEditBack", unfollowed := true, recurses := true, named := ["loop.example/g00677/impl.leadMarks"], apart := false, laid := [("loop.example/g00677/impl.leadMarks", laid_loop_example_g00677_impl_leadMarks)] }
def FnEditBackSaid : Prop := fnEditBackRow.holds Tryd.pinned (OpenSpec.ofChange fnEditBackSpec)

/-- ITS FALSE NEIGHBOUR: 'it returns false'. Refute it at one input. -/
def fnEditBackWrong : ChangeSpec := { name := "fnEditBack", vars := ["loop.example/g00677/impl.leadMarks"], fn := fun _ => fun
  | [d, g1] => { results := [.lit (.bool false)], args := [d], vars := [g1] }
  | _ => none }
def FnEditBackWrongFalsely : Prop := fnEditBackRow.holds Tryd.pinned (OpenSpec.ofChange fnEditBackWrong)

/-- 'laws.FnEditOf': WHATEVER THE INPUT: true; the input reads as it did. -/
def fnEditOfSpec : ChangeSpec := { name := "fnEditOf", vars := ["loop.example/g00677/impl.leadMarks"], fn := fun _ => fun
  | [d, g1] => { results := [.lit (.bool true)], args := [d], vars := [g1] }
  | _ => none }
def fnEditOfRow : OpenClaim := { program := "ytkplfbhblbinaaadoor", sum := "5d8928e1afb11582d88cfc81eea56cf2dd107744bb311f01dc2977655d61f355", func := "loop.example/g00677/laws.FnEditOf", spec := "fnEditOf", unfollowed := true, recurses := true, named := ["loop.example/g00677/impl.leadMarks"], apart := false, laid := [("loop.example/g00677/impl.leadMarks", laid_loop_example_g00677_impl_leadMarks)] }
def FnEditOfSaid : Prop := fnEditOfRow.holds Tryd.pinned (OpenSpec.ofChange fnEditOfSpec)

/-- ITS FALSE NEIGHBOUR: 'it returns false'. Refute it at one input. -/
def fnEditOfWrong : ChangeSpec := { name := "fnEditOf", vars := ["loop.example/g00677/impl.leadMarks"], fn := fun _ => fun
  | [d, g1] => { results := [.lit (.bool false)], args := [d], vars := [g1] }
  | _ => none }
def FnEditOfWrongFalsely : Prop := fnEditOfRow.holds Tryd.pinned (OpenSpec.ofChange fnEditOfWrong)

/-- 'laws.FnEditJoin': WHATEVER THE INPUT: true; the input reads as it did. -/
def fnEditJoinSpec : ChangeSpec := { name := "fnEditJoin", vars := ["loop.example/g00677/impl.leadMarks"], fn := fun _ => fun
  | [d, g1] => { results := [.lit (.bool true)], args := [d], vars := [g1] }
  | _ => none }
def fnEditJoinRow : OpenClaim := { program := "ytkplfbhblbinaaadoor", sum := "5d8928e1afb11582d88cfc81eea56cf2dd107744bb311f01dc2977655d61f355", func := "loop.example/g00677/laws.FnEditJoin", spec := "fnEditJoin", unfollowed := true, recurses := true, named := ["loop.example/g00677/impl.leadMarks"], apart := false, laid := [("loop.example/g00677/impl.leadMarks", laid_loop_example_g00677_impl_leadMarks)] }
def FnEditJoinSaid : Prop := fnEditJoinRow.holds Tryd.pinned (OpenSpec.ofChange fnEditJoinSpec)

/-- ITS FALSE NEIGHBOUR: 'it returns false'. Refute it at one input. -/
def fnEditJoinWrong : ChangeSpec := { name := "fnEditJoin", vars := ["loop.example/g00677/impl.leadMarks"], fn := fun _ => fun
  | [d, g1] => { results := [.lit (.bool false)], args := [d], vars := [g1] }
  | _ => none }
def FnEditJoinWrongFalsely : Prop := fnEditJoinRow.holds Tryd.pinned (OpenSpec.ofChange fnEditJoinWrong)

/-- 'laws.FnEditsDo': WHATEVER THE INPUT: true; the input reads as it did. -/
def fnEditsDoSpec : ChangeSpec := { name := "fnEditsDo", vars := ["loop.example/g00677/impl.leadMarks"], fn := fun _ => fun
  | [d, g1] => { results := [.lit (.bool true)], args := [d], vars := [g1] }
  | _ => none }
def fnEditsDoRow : OpenClaim := { program := "ytkplfbhblbinaaadoor", sum := "5d8928e1afb11582d88cfc81eea56cf2dd107744bb311f01dc2977655d61f355", func := "loop.example/g00677/laws.FnEditsDo", spec := "fnEditsDo", unfollowed := true, recurses := true, named := ["loop.example/g00677/impl.leadMarks"], apart := false, laid := [("loop.example/g00677/impl.leadMarks", laid_loop_example_g00677_impl_leadMarks)] }
def FnEditsDoSaid : Prop := fnEditsDoRow.holds Tryd.pinned (OpenSpec.ofChange fnEditsDoSpec)

/-- ITS FALSE NEIGHBOUR: 'it returns false'. Refute it at one input. -/
def fnEditsDoWrong : ChangeSpec := { name := "fnEditsDo", vars := ["loop.example/g00677/impl.leadMarks"], fn := fun _ => fun
  | [d, g1] => { results := [.lit (.bool false)], args := [d], vars := [g1] }
  | _ => none }
def FnEditsDoWrongFalsely : Prop := fnEditsDoRow.holds Tryd.pinned (OpenSpec.ofChange fnEditsDoWrong)

/-- 'laws.FnMoved': WHATEVER THE INPUT: true; the input reads as it did. -/
def fnMovedSpec : ChangeSpec := { name := "fnMoved", vars := ["loop.example/g00677/impl.leadMarks"], fn := fun _ => fun
  | [d, g1] => { results := [.lit (.bool true)], args := [d], vars := [g1] }
  | _ => none }
def fnMovedRow : OpenClaim := { program := "ytkplfbhblbinaaadoor", sum := "5d8928e1afb11582d88cfc81eea56cf2dd107744bb311f01dc2977655d61f355", func := "loop.example/g00677/laws.FnMoved", spec := "fnMoved", unfollowed := true, recurses := true, named := ["loop.example/g00677/impl.leadMarks"], apart := false, laid := [("loop.example/g00677/impl.leadMarks", laid_loop_example_g00677_impl_leadMarks)] }
def FnMovedSaid : Prop := fnMovedRow.holds Tryd.pinned (OpenSpec.ofChange fnMovedSpec)

/-- ITS FALSE NEIGHBOUR: 'it returns false'. Refute it at one input. -/
def fnMovedWrong : ChangeSpec := { name := "fnMoved", vars := ["loop.example/g00677/impl.leadMarks"], fn := fun _ => fun
  | [d, g1] => { results := [.lit (.bool false)], args := [d], vars := [g1] }
  | _ => none }
def FnMovedWrongFalsely : Prop := fnMovedRow.holds Tryd.pinned (OpenSpec.ofChange fnMovedWrong)

/-- 'laws.FnExactEditOk': WHATEVER THE INPUT: true; the input reads as it did. -/
def fnExactEditOkSpec : ChangeSpec := { name := "fnExactEditOk", vars := ["loop.example/g00677/impl.leadMarks"], fn := fun _ => fun
  | [d1, d2, g1] => { results := [.lit (.bool true)], args := [d1, d2], vars := [g1] }
  | _ => none }
def fnExactEditOkRow : OpenClaim := { program := "ytkplfbhblbinaaadoor", sum := "5d8928e1afb11582d88cfc81eea56cf2dd107744bb311f01dc2977655d61f355", func := "loop.example/g00677/laws.FnExactEditOk", spec := "fnExactEditOk", named := ["loop.example/g00677/impl.leadMarks"], apart := false, laid := [("loop.example/g00677/impl.leadMarks", laid_loop_example_g00677_impl_leadMarks)] }
def FnExactEditOkSaid : Prop := fnExactEditOkRow.holds Tryd.pinned (OpenSpec.ofChange fnExactEditOkSpec)

/-- ITS FALSE NEIGHBOUR: 'it returns false'. Refute it at one input. -/
def fnExactEditOkWrong : ChangeSpec := { name := "fnExactEditOk", vars := ["loop.example/g00677/impl.leadMarks"], fn := fun _ => fun
  | [d1, d2, g1] => { results := [.lit (.bool false)], args := [d1, d2], vars := [g1] }
  | _ => none }
def FnExactEditOkWrongFalsely : Prop := fnExactEditOkRow.holds Tryd.pinned (OpenSpec.ofChange fnExactEditOkWrong)

/-- 'laws.FnExactEditDo': WHATEVER THE INPUT: true; the input reads as it did. -/
def fnExactEditDoSpec : ChangeSpec := { name := "fnExactEditDo", vars := ["loop.example/g00677/impl.leadMarks"], fn := fun _ => fun
  | [d1, d2, g1] => { results := [.lit (.bool true)], args := [d1, d2], vars := [g1] }
  | _ => none }
def fnExactEditDoRow : OpenClaim := { program := "ytkplfbhblbinaaadoor", sum := "5d8928e1afb11582d88cfc81eea56cf2dd107744bb311f01dc2977655d61f355", func := "loop.example/g00677/laws.FnExactEditDo", spec := "fnExactEditDo", unfollowed := true, recurses := true, named := ["loop.example/g00677/impl.leadMarks"], apart := false, laid := [("loop.example/g00677/impl.leadMarks", laid_loop_example_g00677_impl_leadMarks)] }
def FnExactEditDoSaid : Prop := fnExactEditDoRow.holds Tryd.pinned (OpenSpec.ofChange fnExactEditDoSpec)

/-- ITS FALSE NEIGHBOUR: 'it returns false'. Refute it at one input. -/
def fnExactEditDoWrong : ChangeSpec := { name := "fnExactEditDo", vars := ["loop.example/g00677/impl.leadMarks"], fn := fun _ => fun
  | [d1, d2, g1] => { results := [.lit (.bool false)], args := [d1, d2], vars := [g1] }
  | _ => none }
def FnExactEditDoWrongFalsely : Prop := fnExactEditDoRow.holds Tryd.pinned (OpenSpec.ofChange fnExactEditDoWrong)

/-- 'laws.FnExactEditBack': WHATEVER THE INPUT: true; the input reads as it did. -/
def fnExactEditBackSpec : ChangeSpec := { name := "fnExactEditBack", vars := ["loop.example/g00677/impl.leadMarks"], fn := fun _ => fun
  | [d1, d2, g1] => { results := [.lit (.bool true)], args := [d1, d2], vars := [g1] }
  | _ => none }
def fnExactEditBackRow : OpenClaim := { program := "ytkplfbhblbinaaadoor", sum := "5d8928e1afb11582d88cfc81eea56cf2dd107744bb311f01dc2977655d61f355", func := "loop.example/g00677/laws.FnExactEditBack", spec := "fnExactEditBack", unfollowed := true, recurses := true, named := ["loop.example/g00677/impl.leadMarks"], apart := false, laid := [("loop.example/g00677/impl.leadMarks", laid_loop_example_g00677_impl_leadMarks)] }
def FnExactEditBackSaid : Prop := fnExactEditBackRow.holds Tryd.pinned (OpenSpec.ofChange fnExactEditBackSpec)

/-- ITS FALSE NEIGHBOUR: 'it returns false'. Refute it at one input. -/
def fnExactEditBackWrong : ChangeSpec := { name := "fnExactEditBack", vars := ["loop.example/g00677/impl.leadMarks"], fn := fun _ => fun
  | [d1, d2, g1] => { results := [.lit (.bool false)], args := [d1, d2], vars := [g1] }
  | _ => none }
def FnExactEditBackWrongFalsely : Prop := fnExactEditBackRow.holds Tryd.pinned (OpenSpec.ofChange fnExactEditBackWrong)

/-- 'laws.FnExactEditsDo': WHATEVER THE INPUT: true; the input reads as it did. -/
def fnExactEditsDoSpec : ChangeSpec := { name := "fnExactEditsDo", vars := ["loop.example/g00677/impl.leadMarks"], fn := fun _ => fun
  | [d1, d2, g1] => { results := [.lit (.bool true)], args := [d1, d2], vars := [g1] }
  | _ => none }
def fnExactEditsDoRow : OpenClaim := { program := "ytkplfbhblbinaaadoor", sum := "5d8928e1afb11582d88cfc81eea56cf2dd107744bb311f01dc2977655d61f355", func := "loop.example/g00677/laws.FnExactEditsDo", spec := "fnExactEditsDo", unfollowed := true, recurses := true, named := ["loop.example/g00677/impl.leadMarks"], apart := false, laid := [("loop.example/g00677/impl.leadMarks", laid_loop_example_g00677_impl_leadMarks)] }
def FnExactEditsDoSaid : Prop := fnExactEditsDoRow.holds Tryd.pinned (OpenSpec.ofChange fnExactEditsDoSpec)

/-- ITS FALSE NEIGHBOUR: 'it returns false'. Refute it at one input. -/
def fnExactEditsDoWrong : ChangeSpec := { name := "fnExactEditsDo", vars := ["loop.example/g00677/impl.leadMarks"], fn := fun _ => fun
  | [d1, d2, g1] => { results := [.lit (.bool false)], args := [d1, d2], vars := [g1] }
  | _ => none }
def FnExactEditsDoWrongFalsely : Prop := fnExactEditsDoRow.holds Tryd.pinned (OpenSpec.ofChange fnExactEditsDoWrong)

/- THE SECOND FORM. 'bulk': how many values and letters a reading holds, each counted each time it is reached (what is shared counts as often as it is met; a slice's spare places count too). A statement '..UptoSaid' is the law's where the arguments, and the package variables that the reading takes, are together of bulk at most 1048576: NARROWER than '..Said'. Prove '..Said' where nothing that the law and all that it calls make is longer than what came in: it says more and counts as full. Else prove '..UptoSaid'. A law counts once. -/
mutual
def uptoBulk {H : Type} : DataW H → Nat
  | .lit (.string bytes) => bytes.length + 1
  | .lit _ => 1
  | .nil => 1
  | .ptr d => uptoBulk d + 1
  | .slice elems spare => uptoBulkAll elems + uptoBulkAll spare + 1
  | .agg parts => uptoBulkAll parts + 1
  | .iface _ d => uptoBulk d + 1
  | .map entries => uptoBulkEntries entries + 1
  | .held _ => 1
def uptoBulkAll {H : Type} : List (DataW H) → Nat
  | [] => 0
  | d :: r => uptoBulk d + uptoBulkAll r
def uptoBulkEntries {H : Type} : List (Lit × DataW H) → Nat
  | [] => 0
  | x :: r => uptoBulkEntry x + uptoBulkEntries r
def uptoBulkEntry {H : Type} : Lit × DataW H → Nat
  | (.string bytes, d) => bytes.length + uptoBulk d + 1
  | (_, d) => uptoBulk d + 1
 end
def uptoSmall : (H : Type) → List (DataW H) → Bool := fun _ ds => decide (uptoBulkAll ds ≤ 1048576)
def OpenSpec.upto (s : _root_.Go.ChangeSpec) : _root_.Go.OpenSpec := { _root_.Go.OpenSpec.ofChange s with cond := some uptoSmall }

/-- 'laws.FnEditBack', WHERE WHAT IT READS IS OF BULK AT MOST 1048576: true; the input reads as it did. -/
def fnEditBackUptoRow : OpenClaim := { program := "ytkplfbhblbinaaadoor", sum := "5d8928e1afb11582d88cfc81eea56cf2dd107744bb311f01dc2977655d61f355", func := "loop.example/g00677/laws.FnEditBack", spec := "fnEditBack", unfollowed := true, recurses := true, named := ["loop.example/g00677/impl.leadMarks"], apart := false, laid := [("loop.example/g00677/impl.leadMarks", laid_loop_example_g00677_impl_leadMarks)], narrowed := true }
def FnEditBackUptoSaid : Prop := fnEditBackUptoRow.holds Tryd.pinned (OpenSpec.upto fnEditBackSpec)

/-- 'laws.FnEditOf', WHERE WHAT IT READS IS OF BULK AT MOST 1048576: true; the input reads as it did. -/
def fnEditOfUptoRow : OpenClaim := { program := "ytkplfbhblbinaaadoor", sum := "5d8928e1afb11582d88cfc81eea56cf2dd107744bb311f01dc2977655d61f355", func := "loop.example/g00677/laws.FnEditOf", spec := "fnEditOf", unfollowed := true, recurses := true, named := ["loop.example/g00677/impl.leadMarks"], apart := false, laid := [("loop.example/g00677/impl.leadMarks", laid_loop_example_g00677_impl_leadMarks)], narrowed := true }
def FnEditOfUptoSaid : Prop := fnEditOfUptoRow.holds Tryd.pinned (OpenSpec.upto fnEditOfSpec)

/-- 'laws.FnEditJoin', WHERE WHAT IT READS IS OF BULK AT MOST 1048576: true; the input reads as it did. -/
def fnEditJoinUptoRow : OpenClaim := { program := "ytkplfbhblbinaaadoor", sum := "5d8928e1afb11582d88cfc81eea56cf2dd107744bb311f01dc2977655d61f355", func := "loop.example/g00677/laws.FnEditJoin", spec := "fnEditJoin", unfollowed := true, recurses := true, named := ["loop.example/g00677/impl.leadMarks"], apart := false, laid := [("loop.example/g00677/impl.leadMarks", laid_loop_example_g00677_impl_leadMarks)], narrowed := true }
def FnEditJoinUptoSaid : Prop := fnEditJoinUptoRow.holds Tryd.pinned (OpenSpec.upto fnEditJoinSpec)

/-- 'laws.FnEditsDo', WHERE WHAT IT READS IS OF BULK AT MOST 1048576: true; the input reads as it did. -/
def fnEditsDoUptoRow : OpenClaim := { program := "ytkplfbhblbinaaadoor", sum := "5d8928e1afb11582d88cfc81eea56cf2dd107744bb311f01dc2977655d61f355", func := "loop.example/g00677/laws.FnEditsDo", spec := "fnEditsDo", unfollowed := true, recurses := true, named := ["loop.example/g00677/impl.leadMarks"], apart := false, laid := [("loop.example/g00677/impl.leadMarks", laid_loop_example_g00677_impl_leadMarks)], narrowed := true }
def FnEditsDoUptoSaid : Prop := fnEditsDoUptoRow.holds Tryd.pinned (OpenSpec.upto fnEditsDoSpec)

/-- 'laws.FnMoved', WHERE WHAT IT READS IS OF BULK AT MOST 1048576: true; the input reads as it did. -/
def fnMovedUptoRow : OpenClaim := { program := "ytkplfbhblbinaaadoor", sum := "5d8928e1afb11582d88cfc81eea56cf2dd107744bb311f01dc2977655d61f355", func := "loop.example/g00677/laws.FnMoved", spec := "fnMoved", unfollowed := true, recurses := true, named := ["loop.example/g00677/impl.leadMarks"], apart := false, laid := [("loop.example/g00677/impl.leadMarks", laid_loop_example_g00677_impl_leadMarks)], narrowed := true }
def FnMovedUptoSaid : Prop := fnMovedUptoRow.holds Tryd.pinned (OpenSpec.upto fnMovedSpec)

/-- 'laws.FnExactEditOk', WHERE WHAT IT READS IS OF BULK AT MOST 1048576: true; the input reads as it did. -/
def fnExactEditOkUptoRow : OpenClaim := { program := "ytkplfbhblbinaaadoor", sum := "5d8928e1afb11582d88cfc81eea56cf2dd107744bb311f01dc2977655d61f355", func := "loop.example/g00677/laws.FnExactEditOk", spec := "fnExactEditOk", named := ["loop.example/g00677/impl.leadMarks"], apart := false, laid := [("loop.example/g00677/impl.leadMarks", laid_loop_example_g00677_impl_leadMarks)], narrowed := true }
def FnExactEditOkUptoSaid : Prop := fnExactEditOkUptoRow.holds Tryd.pinned (OpenSpec.upto fnExactEditOkSpec)

/-- 'laws.FnExactEditDo', WHERE WHAT IT READS IS OF BULK AT MOST 1048576: true; the input reads as it did. -/
def fnExactEditDoUptoRow : OpenClaim := { program := "ytkplfbhblbinaaadoor", sum := "5d8928e1afb11582d88cfc81eea56cf2dd107744bb311f01dc2977655d61f355", func := "loop.example/g00677/laws.FnExactEditDo", spec := "fnExactEditDo", unfollowed := true, recurses := true, named := ["loop.example/g00677/impl.leadMarks"], apart := false, laid := [("loop.example/g00677/impl.leadMarks", laid_loop_example_g00677_impl_leadMarks)], narrowed := true }
def FnExactEditDoUptoSaid : Prop := fnExactEditDoUptoRow.holds Tryd.pinned (OpenSpec.upto fnExactEditDoSpec)

/-- 'laws.FnExactEditBack', WHERE WHAT IT READS IS OF BULK AT MOST 1048576: true; the input reads as it did. -/
def fnExactEditBackUptoRow : OpenClaim := { program := "ytkplfbhblbinaaadoor", sum := "5d8928e1afb11582d88cfc81eea56cf2dd107744bb311f01dc2977655d61f355", func := "loop.example/g00677/laws.FnExactEditBack", spec := "fnExactEditBack", unfollowed := true, recurses := true, named := ["loop.example/g00677/impl.leadMarks"], apart := false, laid := [("loop.example/g00677/impl.leadMarks", laid_loop_example_g00677_impl_leadMarks)], narrowed := true }
def FnExactEditBackUptoSaid : Prop := fnExactEditBackUptoRow.holds Tryd.pinned (OpenSpec.upto fnExactEditBackSpec)

/-- 'laws.FnExactEditsDo', WHERE WHAT IT READS IS OF BULK AT MOST 1048576: true; the input reads as it did. -/
def fnExactEditsDoUptoRow : OpenClaim := { program := "ytkplfbhblbinaaadoor", sum := "5d8928e1afb11582d88cfc81eea56cf2dd107744bb311f01dc2977655d61f355", func := "loop.example/g00677/laws.FnExactEditsDo", spec := "fnExactEditsDo", unfollowed := true, recurses := true, named := ["loop.example/g00677/impl.leadMarks"], apart := false, laid := [("loop.example/g00677/impl.leadMarks", laid_loop_example_g00677_impl_leadMarks)], narrowed := true }
def FnExactEditsDoUptoSaid : Prop := fnExactEditsDoUptoRow.holds Tryd.pinned (OpenSpec.upto fnExactEditsDoSpec)

end Rows
end Go.Proofs.YtkplfbhblbinaaaDoor
