/-
  NARROWER THAN 'FOR EVERY INPUT', by the rows' own cells (each row's printed sentence says how): FnReqBack: laid · FnExactReqOk: laid · FnExactReqBytes: laid · FnExactReqParse: laid.
  DERIVED. THE GIVEN ROWS OF THIS SEAT. 4 by the template 'for every input the law returns true; each argument reads behind the call as it read before'; 0 by the template 'total and deterministic' (their statements: YtdmmdbapkogdhaaDoorTotals.lean).
  GIVEN WITH THE SEED: the statements are not yours to turn. If you find one false, say at which input.
  Laid BY PROGRAM, IN A SANDBOX (cutbox-rows.mjs): the forced cells as the released guide's own fill.sh prints them over the translation 16556af3597ae0d5… (all of the seat's roots in one cut). By AI agents, Wed Nov 11 2026. No macro, syntax, notation, axiom, sorry.
-/
import Derived.Test.YtdmmdbapkogdhaaDoorChecked
import GoSem.Claim
import GoSem.ClaimJoined
import GoSem.ClaimMapViews
import Derived.JoinedTies
import Derived.KernelRfl
namespace Go.Proofs.YtdmmdbapkogdhaaDoor
/- THE CELL 'sum', in the pinned program and in every row, IS THE sha256 OF THE DUMP (.gsa) THAT YtdmmdbapkogdhaaDoorProg.lean LOADS. Nothing in Lean hashes anything: it is a label: what it is worth is what the hold of that sum in a sandbox is worth. -/
noncomputable def Tryd.pinned : Pinned := { name := "ytdmmdbapkogdhaadoor", sum := "16556af3597ae0d558cd02c638db9c3b09e2697bf76f7c6185f5d9689f0d3024", checked := Tryd.checked }
namespace Rows
def none {H : Type} : Left H := { results := [], args := [] }

/- WHAT THE LISTED PACKAGE-LEVEL VARIABLES READ AS WHEN THE CALL BEGINS. Each datum BY PROGRAM (the guide's laid-datum.mjs) off the statement by which the dump's own 'gosem.cut.vars' lays the variable. In a bare row this is a premise. The card (YtdmmdbapkogdhaaDoorCards.lean) ties it to the program's text. -/
def laid_loop_example_g00677_impl_leadMarks {H : Type} : DataW H := .agg [.lit (.int .u8 0), .lit (.int .u8 0), .lit (.int .u8 192), .lit (.int .u8 224), .lit (.int .u8 240)]

/-- 'laws.FnReqBack': WHATEVER THE INPUT: true; the input reads as it did. -/
def fnReqBackSpec : ChangeSpec := { name := "fnReqBack", vars := ["loop.example/g00677/impl.leadMarks"], fn := fun _ => fun
  | [d, g1] => { results := [.lit (.bool true)], args := [d], vars := [g1] }
  | _ => none }
def fnReqBackRow : OpenClaim := { program := "ytdmmdbapkogdhaadoor", sum := "16556af3597ae0d558cd02c638db9c3b09e2697bf76f7c6185f5d9689f0d3024", func := "loop.example/g00677/laws.FnReqBack", spec := "fnReqBack", unfollowed := true, recurses := true, named := ["loop.example/g00677/impl.leadMarks"], apart := false, laid := [("loop.example/g00677/impl.leadMarks", laid_loop_example_g00677_impl_leadMarks)] }
def FnReqBackSaid : Prop := fnReqBackRow.holds Tryd.pinned (OpenSpec.ofChange fnReqBackSpec)

/-- ITS FALSE NEIGHBOUR: 'it returns false'. Refute it at one input. -/
def fnReqBackWrong : ChangeSpec := { name := "fnReqBack", vars := ["loop.example/g00677/impl.leadMarks"], fn := fun _ => fun
  | [d, g1] => { results := [.lit (.bool false)], args := [d], vars := [g1] }
  | _ => none }
def FnReqBackWrongFalsely : Prop := fnReqBackRow.holds Tryd.pinned (OpenSpec.ofChange fnReqBackWrong)

/-- 'laws.FnExactReqOk': WHATEVER THE INPUT: true; the input reads as it did. -/
def fnExactReqOkSpec : ChangeSpec := { name := "fnExactReqOk", vars := ["loop.example/g00677/impl.leadMarks"], fn := fun _ => fun
  | [d, g1] => { results := [.lit (.bool true)], args := [d], vars := [g1] }
  | _ => none }
def fnExactReqOkRow : OpenClaim := { program := "ytdmmdbapkogdhaadoor", sum := "16556af3597ae0d558cd02c638db9c3b09e2697bf76f7c6185f5d9689f0d3024", func := "loop.example/g00677/laws.FnExactReqOk", spec := "fnExactReqOk", unfollowed := true, recurses := true, named := ["loop.example/g00677/impl.leadMarks"], apart := false, laid := [("loop.example/g00677/impl.leadMarks", laid_loop_example_g00677_impl_leadMarks)] }
def FnExactReqOkSaid : Prop := fnExactReqOkRow.holds Tryd.pinned (OpenSpec.ofChange fnExactReqOkSpec)

/-- ITS FALSE NEIGHBOUR: 'it returns false'. Refute it at one input. -/
def fnExactReqOkWrong : ChangeSpec := { name := "fnExactReqOk", vars := ["loop.example/g00677/impl.leadMarks"], fn := fun _ => fun
  | [d, g1] => { results := [.lit (.bool false)], args := [d], vars := [g1] }
  | _ => none }
def FnExactReqOkWrongFalsely : Prop := fnExactReqOkRow.holds Tryd.pinned (OpenSpec.ofChange fnExactReqOkWrong)

/-- 'laws.FnExactReqBytes': WHATEVER THE INPUT: true; the input reads as it did. -/
def fnExactReqBytesSpec : ChangeSpec := { name := "fnExactReqBytes", vars := ["loop.example/g00677/impl.leadMarks"], fn := fun _ => fun
  | [d, g1] => { results := [.lit (.bool true)], args := [d], vars := [g1] }
  | _ => none }
def fnExactReqBytesRow : OpenClaim := { program := "ytdmmdbapkogdhaadoor", sum := "16556af3597ae0d558cd02c638db9c3b09e2697bf76f7c6185f5d9689f0d3024", func := "loop.example/g00677/laws.FnExactReqBytes", spec := "fnExactReqBytes", unfollowed := true, recurses := true, named := ["loop.example/g00677/impl.leadMarks"], apart := false, laid := [("loop.example/g00677/impl.leadMarks", laid_loop_example_g00677_impl_leadMarks)] }
def FnExactReqBytesSaid : Prop := fnExactReqBytesRow.holds Tryd.pinned (OpenSpec.ofChange fnExactReqBytesSpec)

/-- ITS FALSE NEIGHBOUR: 'it returns false'. Refute it at one input. -/
def fnExactReqBytesWrong : ChangeSpec := { name := "fnExactReqBytes", vars := ["loop.example/g00677/impl.leadMarks"], fn := fun _ => fun
  | [d, g1] => { results := [.lit (.bool false)], args := [d], vars := [g1] }
  | _ => none }
def FnExactReqBytesWrongFalsely : Prop := fnExactReqBytesRow.holds Tryd.pinned (OpenSpec.ofChange fnExactReqBytesWrong)

/-- 'laws.FnExactReqParse': WHATEVER THE INPUT: true; the input reads as it did. -/
def fnExactReqParseSpec : ChangeSpec := { name := "fnExactReqParse", vars := ["loop.example/g00677/impl.leadMarks"], fn := fun _ => fun
  | [d, g1] => { results := [.lit (.bool true)], args := [d], vars := [g1] }
  | _ => none }
def fnExactReqParseRow : OpenClaim := { program := "ytdmmdbapkogdhaadoor", sum := "16556af3597ae0d558cd02c638db9c3b09e2697bf76f7c6185f5d9689f0d3024", func := "loop.example/g00677/laws.FnExactReqParse", spec := "fnExactReqParse", unfollowed := true, recurses := true, named := ["loop.example/g00677/impl.leadMarks"], apart := false, laid := [("loop.example/g00677/impl.leadMarks", laid_loop_example_g00677_impl_leadMarks)] }
def FnExactReqParseSaid : Prop := fnExactReqParseRow.holds Tryd.pinned (OpenSpec.ofChange fnExactReqParseSpec)

/-- ITS FALSE NEIGHBOUR: 'it returns false'. Refute it at one input. -/
def fnExactReqParseWrong : ChangeSpec := { name := "fnExactReqParse", vars := ["loop.example/g00677/impl.leadMarks"], fn := fun _ => fun
  | [d, g1] => { results := [.lit (.bool false)], args := [d], vars := [g1] }
  | _ => none }
def FnExactReqParseWrongFalsely : Prop := fnExactReqParseRow.holds Tryd.pinned (OpenSpec.ofChange fnExactReqParseWrong)

/- THE SECOND FORM. 'bulk': how many values and letters a reading holds, each counted each time it is reached (what is shared counts as often as it is met; a slice's spare places count too). A statement '..UptoSaid' is the law's where the arguments, and the package variables that the reading takes, are together of bulk at most 1048576: NARROWER than '..Said'. Prove '..Said' where nothing that the law and all that it calls make is longer than what came in: it says more and counts as full. Else prove '..UptoSaid'. A law counts once. -/
mutual
def uptoBulk {H : Type} : DataW H → Nat
  | .lit (.string bytes) => bytes.length + 1
  | .lit _ => 1
  | .nil => 1
  | .ptr d => uptoBulk d + 1
  | .slice elems spare => uptoBulkAll elems + uptoBulkAll spare + 1
  | .agg parts => uptoBulkAll parts + 1
  | .iface _ d => uptoBulk d + 1
  | .map entries => uptoBulkEntries entries + 1
  | .held _ => 1
def uptoBulkAll {H : Type} : List (DataW H) → Nat
  | [] => 0
  | d :: r => uptoBulk d + uptoBulkAll r
def uptoBulkEntries {H : Type} : List (Lit × DataW H) → Nat
  | [] => 0
  | x :: r => uptoBulkEntry x + uptoBulkEntries r
def uptoBulkEntry {H : Type} : Lit × DataW H → Nat
  | (.string bytes, d) => bytes.length + uptoBulk d + 1
  | (_, d) => uptoBulk d + 1
 end
def uptoSmall : (H : Type) → List (DataW H) → Bool := fun _ ds => decide (uptoBulkAll ds ≤ 1048576)
def OpenSpec.upto (s : _root_.Go.ChangeSpec) : _root_.Go.OpenSpec := { _root_.Go.OpenSpec.ofChange s with cond := some uptoSmall }

/-- 'laws.FnReqBack', WHERE WHAT IT READS IS OF BULK AT MOST 1048576: true; the input reads as it did. -/
def fnReqBackUptoRow : OpenClaim := { program := "ytdmmdbapkogdhaadoor", sum := "16556af3597ae0d558cd02c638db9c3b09e2697bf76f7c6185f5d9689f0d3024", func := "loop.example/g00677/laws.FnReqBack", spec := "fnReqBack", unfollowed := true, recurses := true, named := ["loop.example/g00677/impl.leadMarks"], apart := false, laid := [("loop.example/g00677/impl.leadMarks", laid_loop_example_g00677_impl_leadMarks)], narrowed := true }
def FnReqBackUptoSaid : Prop := fnReqBackUptoRow.holds Tryd.pinned (OpenSpec.upto fnReqBackSpec)

/-- 'laws.FnExactReqOk', WHERE WHAT IT READS IS OF BULK AT MOST 1048576: true; the input reads as it did. -/
def fnExactReqOkUptoRow : OpenClaim := { program := "ytdmmdbapkogdhaadoor", sum := "16556af3597ae0d558cd02c638db9c3b09e2697bf76f7c6185f5d9689f0d3024", func := "loop.example/g00677/laws.FnExactReqOk", spec := "fnExactReqOk", unfollowed := true, recurses := true, named := ["loop.example/g00677/impl.leadMarks"], apart := false, laid := [("loop.example/g00677/impl.leadMarks", laid_loop_example_g00677_impl_leadMarks)], narrowed := true }
def FnExactReqOkUptoSaid : Prop := fnExactReqOkUptoRow.holds Tryd.pinned (OpenSpec.upto fnExactReqOkSpec)

/-- 'laws.FnExactReqBytes', WHERE WHAT IT READS IS OF BULK AT MOST 1048576: true; the input reads as it did. -/
def fnExactReqBytesUptoRow : OpenClaim := { program := "ytdmmdbapkogdhaadoor", sum := "16556af3597ae0d558cd02c638db9c3b09e2697bf76f7c6185f5d9689f0d3024", func := "loop.example/g00677/laws.FnExactReqBytes", spec := "fnExactReqBytes", unfollowed := true, recurses := true, named := ["loop.example/g00677/impl.leadMarks"], apart := false, laid := [("loop.example/g00677/impl.leadMarks", laid_loop_example_g00677_impl_leadMarks)], narrowed := true }
def FnExactReqBytesUptoSaid : Prop := fnExactReqBytesUptoRow.holds Tryd.pinned (OpenSpec.upto fnExactReqBytesSpec)

/-- 'laws.FnExactReqParse', WHERE WHAT IT READS IS OF BULK AT MOST 1048576: true; the input reads as it did. -/
def fnExactReqParseUptoRow : OpenClaim := { program := "ytdmmdbapkogdhaadoor", sum := "16556af3597ae0d558cd02c638db9c3b09e2697bf76f7c6185f5d9689f0d3024", func := "loop.example/g00677/laws.FnExactReqParse", spec := "fnExactReqParse", unfollowed := true, recurses := true, named := ["loop.example/g00677/impl.leadMarks"], apart := false, laid := [("loop.example/g00677/impl.leadMarks", laid_loop_example_g00677_impl_leadMarks)], narrowed := true }
def FnExactReqParseUptoSaid : Prop := fnExactReqParseUptoRow.holds Tryd.pinned (OpenSpec.upto fnExactReqParseSpec)

end Rows
end Go.Proofs.YtdmmdbapkogdhaaDoor
