/-
  No cell of these rows narrows 'for every input' (looked for: loops, veiled, ifaces, maps, wideKeys, modest, calm, conditions, laid).
  DERIVED. THE GIVEN ROWS OF THIS SEAT. 12 by the template 'for every input the law returns true; each argument reads behind the call as it read before'; 0 by the template 'total and deterministic' (their statements: YtfbcpiipekfapaaTotals.lean).
  GIVEN WITH THE SEED: the statements are not yours to turn. If you find one false, say at which input.
  Laid BY PROGRAM, IN A SANDBOX (cutbox-rows.mjs): the forced cells as the released guide's own fill.sh prints them over the translation 887fc4a6a537a13c… (all of the seat's roots in one cut). By AI agents, Wed Nov 11 2026. No macro, syntax, notation, axiom, sorry.
-/
import Derived.Test.YtfbcpiipekfapaaChecked
import GoSem.Claim
import GoSem.ClaimJoined
import GoSem.ClaimMapViews
import Derived.JoinedTies
import Derived.KernelRfl
namespace Go.Proofs.Ytfbcpiipekfapaa
/- THE CELL 'sum', in the pinned program and in every row, IS THE sha256 OF THE DUMP (.gsa) THAT YtfbcpiipekfapaaProg.lean LOADS. Nothing in Lean hashes anything: it is a label: what it is worth is what the hold of that sum in a sandbox is worth. -/
noncomputable def Try.pinned : Pinned := { name := "ytfbcpiipekfapaa", sum := "887fc4a6a537a13cd19dfae63d7276862ffda2fb69bad456beb98c92e3b205ef", checked := Try.checked }
namespace Rows
def none {H : Type} : Left H := { results := [], args := [] }

/-- 'laws.FnFingConcat': WHATEVER THE INPUT: true; the input reads as it did. -/
def fnFingConcatSpec : ChangeSpec := { name := "fnFingConcat", fn := fun _ => fun
  | [d] => { results := [.lit (.bool true)], args := [d] }
  | _ => none }
def fnFingConcatRow : OpenClaim := { program := "ytfbcpiipekfapaa", sum := "887fc4a6a537a13cd19dfae63d7276862ffda2fb69bad456beb98c92e3b205ef", func := "loop.example/g00677/laws.FnFingConcat", spec := "fnFingConcat", inPlace := ["internal/bytealg.CountString", "internal/bytealg.IndexByteString", "internal/bytealg.IndexString", "internal/abi.NoEscape", "internal/bytealg.MakeNoZero"], recurses := true, named := ["internal/bytealg.MaxLen"], apart := false }
def FnFingConcatSaid : Prop := fnFingConcatRow.holds Try.pinned (OpenSpec.ofChange fnFingConcatSpec)

/-- ITS FALSE NEIGHBOUR: 'it returns false'. Refute it at one input. -/
def fnFingConcatWrong : ChangeSpec := { name := "fnFingConcat", fn := fun _ => fun
  | [d] => { results := [.lit (.bool false)], args := [d] }
  | _ => none }
def FnFingConcatWrongFalsely : Prop := fnFingConcatRow.holds Try.pinned (OpenSpec.ofChange fnFingConcatWrong)

/-- 'laws.FnFingEmpty': WHATEVER THE INPUT: true; the input reads as it did. -/
def fnFingEmptySpec : ChangeSpec := { name := "fnFingEmpty", fn := fun _ => fun
  | [d] => { results := [.lit (.bool true)], args := [d] }
  | _ => none }
def fnFingEmptyRow : OpenClaim := { program := "ytfbcpiipekfapaa", sum := "887fc4a6a537a13cd19dfae63d7276862ffda2fb69bad456beb98c92e3b205ef", func := "loop.example/g00677/laws.FnFingEmpty", spec := "fnFingEmpty", inPlace := ["internal/bytealg.CountString", "internal/bytealg.IndexByteString", "internal/bytealg.IndexString"], recurses := true, named := ["internal/bytealg.MaxLen"], apart := false }
def FnFingEmptySaid : Prop := fnFingEmptyRow.holds Try.pinned (OpenSpec.ofChange fnFingEmptySpec)

/-- ITS FALSE NEIGHBOUR: 'it returns false'. Refute it at one input. -/
def fnFingEmptyWrong : ChangeSpec := { name := "fnFingEmpty", fn := fun _ => fun
  | [d] => { results := [.lit (.bool false)], args := [d] }
  | _ => none }
def FnFingEmptyWrongFalsely : Prop := fnFingEmptyRow.holds Try.pinned (OpenSpec.ofChange fnFingEmptyWrong)

/-- 'laws.FnExactShapeOk': WHATEVER THE INPUT: true; the input reads as it did. -/
def fnExactShapeOkSpec : ChangeSpec := { name := "fnExactShapeOk", fn := fun _ => fun
  | [d1, d2] => { results := [.lit (.bool true)], args := [d1, d2] }
  | _ => none }
def fnExactShapeOkRow : OpenClaim := { program := "ytfbcpiipekfapaa", sum := "887fc4a6a537a13cd19dfae63d7276862ffda2fb69bad456beb98c92e3b205ef", func := "loop.example/g00677/laws.FnExactShapeOk", spec := "fnExactShapeOk", inPlace := ["internal/bytealg.CountString", "internal/bytealg.IndexByteString", "internal/bytealg.IndexString"], recurses := true, named := ["internal/bytealg.MaxLen"], apart := false }
def FnExactShapeOkSaid : Prop := fnExactShapeOkRow.holds Try.pinned (OpenSpec.ofChange fnExactShapeOkSpec)

/-- ITS FALSE NEIGHBOUR: 'it returns false'. Refute it at one input. -/
def fnExactShapeOkWrong : ChangeSpec := { name := "fnExactShapeOk", fn := fun _ => fun
  | [d1, d2] => { results := [.lit (.bool false)], args := [d1, d2] }
  | _ => none }
def FnExactShapeOkWrongFalsely : Prop := fnExactShapeOkRow.holds Try.pinned (OpenSpec.ofChange fnExactShapeOkWrong)

/-- 'laws.FnExactFingOk': WHATEVER THE INPUT: true; the input reads as it did. -/
def fnExactFingOkSpec : ChangeSpec := { name := "fnExactFingOk", fn := fun _ => fun
  | [d] => { results := [.lit (.bool true)], args := [d] }
  | _ => none }
def fnExactFingOkRow : OpenClaim := { program := "ytfbcpiipekfapaa", sum := "887fc4a6a537a13cd19dfae63d7276862ffda2fb69bad456beb98c92e3b205ef", func := "loop.example/g00677/laws.FnExactFingOk", spec := "fnExactFingOk", inPlace := ["internal/bytealg.CountString", "internal/bytealg.IndexByteString", "internal/bytealg.IndexString"], recurses := true, named := ["internal/bytealg.MaxLen"], apart := false }
def FnExactFingOkSaid : Prop := fnExactFingOkRow.holds Try.pinned (OpenSpec.ofChange fnExactFingOkSpec)

/-- ITS FALSE NEIGHBOUR: 'it returns false'. Refute it at one input. -/
def fnExactFingOkWrong : ChangeSpec := { name := "fnExactFingOk", fn := fun _ => fun
  | [d] => { results := [.lit (.bool false)], args := [d] }
  | _ => none }
def FnExactFingOkWrongFalsely : Prop := fnExactFingOkRow.holds Try.pinned (OpenSpec.ofChange fnExactFingOkWrong)

/-- 'laws.FnExactFingLeaves': WHATEVER THE INPUT: true; the input reads as it did. -/
def fnExactFingLeavesSpec : ChangeSpec := { name := "fnExactFingLeaves", fn := fun _ => fun
  | [d] => { results := [.lit (.bool true)], args := [d] }
  | _ => none }
def fnExactFingLeavesRow : OpenClaim := { program := "ytfbcpiipekfapaa", sum := "887fc4a6a537a13cd19dfae63d7276862ffda2fb69bad456beb98c92e3b205ef", func := "loop.example/g00677/laws.FnExactFingLeaves", spec := "fnExactFingLeaves", inPlace := ["internal/bytealg.CountString", "internal/bytealg.IndexByteString", "internal/bytealg.IndexString"], recurses := true, named := ["internal/bytealg.MaxLen"], apart := false }
def FnExactFingLeavesSaid : Prop := fnExactFingLeavesRow.holds Try.pinned (OpenSpec.ofChange fnExactFingLeavesSpec)

/-- ITS FALSE NEIGHBOUR: 'it returns false'. Refute it at one input. -/
def fnExactFingLeavesWrong : ChangeSpec := { name := "fnExactFingLeaves", fn := fun _ => fun
  | [d] => { results := [.lit (.bool false)], args := [d] }
  | _ => none }
def FnExactFingLeavesWrongFalsely : Prop := fnExactFingLeavesRow.holds Try.pinned (OpenSpec.ofChange fnExactFingLeavesWrong)

/-- 'laws.FnExactFingNew': WHATEVER THE INPUT: true; the input reads as it did. -/
def fnExactFingNewSpec : ChangeSpec := { name := "fnExactFingNew", fn := fun _ => fun
  | [d] => { results := [.lit (.bool true)], args := [d] }
  | _ => none }
def fnExactFingNewRow : OpenClaim := { program := "ytfbcpiipekfapaa", sum := "887fc4a6a537a13cd19dfae63d7276862ffda2fb69bad456beb98c92e3b205ef", func := "loop.example/g00677/laws.FnExactFingNew", spec := "fnExactFingNew", inPlace := ["internal/abi.NoEscape", "internal/bytealg.MakeNoZero"], recurses := true, apart := false }
def FnExactFingNewSaid : Prop := fnExactFingNewRow.holds Try.pinned (OpenSpec.ofChange fnExactFingNewSpec)

/-- ITS FALSE NEIGHBOUR: 'it returns false'. Refute it at one input. -/
def fnExactFingNewWrong : ChangeSpec := { name := "fnExactFingNew", fn := fun _ => fun
  | [d] => { results := [.lit (.bool false)], args := [d] }
  | _ => none }
def FnExactFingNewWrongFalsely : Prop := fnExactFingNewRow.holds Try.pinned (OpenSpec.ofChange fnExactFingNewWrong)

/-- 'laws.FnExactFingCons': WHATEVER THE INPUT: true; the input reads as it did. -/
def fnExactFingConsSpec : ChangeSpec := { name := "fnExactFingCons", fn := fun _ => fun
  | [d] => { results := [.lit (.bool true)], args := [d] }
  | _ => none }
def fnExactFingConsRow : OpenClaim := { program := "ytfbcpiipekfapaa", sum := "887fc4a6a537a13cd19dfae63d7276862ffda2fb69bad456beb98c92e3b205ef", func := "loop.example/g00677/laws.FnExactFingCons", spec := "fnExactFingCons", inPlace := ["internal/bytealg.CountString", "internal/bytealg.IndexByteString", "internal/bytealg.IndexString", "internal/abi.NoEscape", "internal/bytealg.MakeNoZero"], recurses := true, named := ["internal/bytealg.MaxLen"], apart := false }
def FnExactFingConsSaid : Prop := fnExactFingConsRow.holds Try.pinned (OpenSpec.ofChange fnExactFingConsSpec)

/-- ITS FALSE NEIGHBOUR: 'it returns false'. Refute it at one input. -/
def fnExactFingConsWrong : ChangeSpec := { name := "fnExactFingCons", fn := fun _ => fun
  | [d] => { results := [.lit (.bool false)], args := [d] }
  | _ => none }
def FnExactFingConsWrongFalsely : Prop := fnExactFingConsRow.holds Try.pinned (OpenSpec.ofChange fnExactFingConsWrong)

/-- 'laws.FnExactFingSnoc': WHATEVER THE INPUT: true; the input reads as it did. -/
def fnExactFingSnocSpec : ChangeSpec := { name := "fnExactFingSnoc", fn := fun _ => fun
  | [d] => { results := [.lit (.bool true)], args := [d] }
  | _ => none }
def fnExactFingSnocRow : OpenClaim := { program := "ytfbcpiipekfapaa", sum := "887fc4a6a537a13cd19dfae63d7276862ffda2fb69bad456beb98c92e3b205ef", func := "loop.example/g00677/laws.FnExactFingSnoc", spec := "fnExactFingSnoc", inPlace := ["internal/bytealg.CountString", "internal/bytealg.IndexByteString", "internal/bytealg.IndexString", "internal/abi.NoEscape", "internal/bytealg.MakeNoZero"], recurses := true, named := ["internal/bytealg.MaxLen"], apart := false }
def FnExactFingSnocSaid : Prop := fnExactFingSnocRow.holds Try.pinned (OpenSpec.ofChange fnExactFingSnocSpec)

/-- ITS FALSE NEIGHBOUR: 'it returns false'. Refute it at one input. -/
def fnExactFingSnocWrong : ChangeSpec := { name := "fnExactFingSnoc", fn := fun _ => fun
  | [d] => { results := [.lit (.bool false)], args := [d] }
  | _ => none }
def FnExactFingSnocWrongFalsely : Prop := fnExactFingSnocRow.holds Try.pinned (OpenSpec.ofChange fnExactFingSnocWrong)

/-- 'laws.FnExactFingUncons': WHATEVER THE INPUT: true; the input reads as it did. -/
def fnExactFingUnconsSpec : ChangeSpec := { name := "fnExactFingUncons", fn := fun _ => fun
  | [d] => { results := [.lit (.bool true)], args := [d] }
  | _ => none }
def fnExactFingUnconsRow : OpenClaim := { program := "ytfbcpiipekfapaa", sum := "887fc4a6a537a13cd19dfae63d7276862ffda2fb69bad456beb98c92e3b205ef", func := "loop.example/g00677/laws.FnExactFingUncons", spec := "fnExactFingUncons", inPlace := ["internal/bytealg.CountString", "internal/bytealg.IndexByteString", "internal/bytealg.IndexString"], recurses := true, named := ["internal/bytealg.MaxLen"], apart := false }
def FnExactFingUnconsSaid : Prop := fnExactFingUnconsRow.holds Try.pinned (OpenSpec.ofChange fnExactFingUnconsSpec)

/-- ITS FALSE NEIGHBOUR: 'it returns false'. Refute it at one input. -/
def fnExactFingUnconsWrong : ChangeSpec := { name := "fnExactFingUncons", fn := fun _ => fun
  | [d] => { results := [.lit (.bool false)], args := [d] }
  | _ => none }
def FnExactFingUnconsWrongFalsely : Prop := fnExactFingUnconsRow.holds Try.pinned (OpenSpec.ofChange fnExactFingUnconsWrong)

/-- 'laws.FnExactFingUnsnoc': WHATEVER THE INPUT: true; the input reads as it did. -/
def fnExactFingUnsnocSpec : ChangeSpec := { name := "fnExactFingUnsnoc", fn := fun _ => fun
  | [d] => { results := [.lit (.bool true)], args := [d] }
  | _ => none }
def fnExactFingUnsnocRow : OpenClaim := { program := "ytfbcpiipekfapaa", sum := "887fc4a6a537a13cd19dfae63d7276862ffda2fb69bad456beb98c92e3b205ef", func := "loop.example/g00677/laws.FnExactFingUnsnoc", spec := "fnExactFingUnsnoc", inPlace := ["internal/bytealg.CountString", "internal/bytealg.IndexByteString", "internal/bytealg.IndexString"], recurses := true, named := ["internal/bytealg.MaxLen"], apart := false }
def FnExactFingUnsnocSaid : Prop := fnExactFingUnsnocRow.holds Try.pinned (OpenSpec.ofChange fnExactFingUnsnocSpec)

/-- ITS FALSE NEIGHBOUR: 'it returns false'. Refute it at one input. -/
def fnExactFingUnsnocWrong : ChangeSpec := { name := "fnExactFingUnsnoc", fn := fun _ => fun
  | [d] => { results := [.lit (.bool false)], args := [d] }
  | _ => none }
def FnExactFingUnsnocWrongFalsely : Prop := fnExactFingUnsnocRow.holds Try.pinned (OpenSpec.ofChange fnExactFingUnsnocWrong)

/-- 'laws.FnExactFingConcat': WHATEVER THE INPUT: true; the input reads as it did. -/
def fnExactFingConcatSpec : ChangeSpec := { name := "fnExactFingConcat", fn := fun _ => fun
  | [d1, d2] => { results := [.lit (.bool true)], args := [d1, d2] }
  | _ => none }
def fnExactFingConcatRow : OpenClaim := { program := "ytfbcpiipekfapaa", sum := "887fc4a6a537a13cd19dfae63d7276862ffda2fb69bad456beb98c92e3b205ef", func := "loop.example/g00677/laws.FnExactFingConcat", spec := "fnExactFingConcat", inPlace := ["internal/bytealg.CountString", "internal/bytealg.IndexByteString", "internal/bytealg.IndexString", "internal/abi.NoEscape", "internal/bytealg.MakeNoZero"], recurses := true, named := ["internal/bytealg.MaxLen"], apart := false }
def FnExactFingConcatSaid : Prop := fnExactFingConcatRow.holds Try.pinned (OpenSpec.ofChange fnExactFingConcatSpec)

/-- ITS FALSE NEIGHBOUR: 'it returns false'. Refute it at one input. -/
def fnExactFingConcatWrong : ChangeSpec := { name := "fnExactFingConcat", fn := fun _ => fun
  | [d1, d2] => { results := [.lit (.bool false)], args := [d1, d2] }
  | _ => none }
def FnExactFingConcatWrongFalsely : Prop := fnExactFingConcatRow.holds Try.pinned (OpenSpec.ofChange fnExactFingConcatWrong)

/-- 'laws.FnExactFingText': WHATEVER THE INPUT: true; the input reads as it did. -/
def fnExactFingTextSpec : ChangeSpec := { name := "fnExactFingText", fn := fun _ => fun
  | [d] => { results := [.lit (.bool true)], args := [d] }
  | _ => none }
def fnExactFingTextRow : OpenClaim := { program := "ytfbcpiipekfapaa", sum := "887fc4a6a537a13cd19dfae63d7276862ffda2fb69bad456beb98c92e3b205ef", func := "loop.example/g00677/laws.FnExactFingText", spec := "fnExactFingText", inPlace := ["internal/bytealg.CountString", "internal/bytealg.IndexByteString", "internal/bytealg.IndexString", "internal/abi.NoEscape", "internal/bytealg.MakeNoZero"], recurses := true, named := ["internal/bytealg.MaxLen"], apart := false }
def FnExactFingTextSaid : Prop := fnExactFingTextRow.holds Try.pinned (OpenSpec.ofChange fnExactFingTextSpec)

/-- ITS FALSE NEIGHBOUR: 'it returns false'. Refute it at one input. -/
def fnExactFingTextWrong : ChangeSpec := { name := "fnExactFingText", fn := fun _ => fun
  | [d] => { results := [.lit (.bool false)], args := [d] }
  | _ => none }
def FnExactFingTextWrongFalsely : Prop := fnExactFingTextRow.holds Try.pinned (OpenSpec.ofChange fnExactFingTextWrong)

/- THE SECOND FORM. 'bulk': how many values and letters a reading holds, each counted each time it is reached (what is shared counts as often as it is met; a slice's spare places count too). A statement '..UptoSaid' is the law's where the arguments, and the package variables that the reading takes, are together of bulk at most 1048576: NARROWER than '..Said'. Prove '..Said' where nothing that the law and all that it calls make is longer than what came in: it says more and counts as full. Else prove '..UptoSaid'. A law counts once. -/
mutual
def uptoBulk {H : Type} : DataW H → Nat
  | .lit (.string bytes) => bytes.length + 1
  | .lit _ => 1
  | .nil => 1
  | .ptr d => uptoBulk d + 1
  | .slice elems spare => uptoBulkAll elems + uptoBulkAll spare + 1
  | .agg parts => uptoBulkAll parts + 1
  | .iface _ d => uptoBulk d + 1
  | .map entries => uptoBulkEntries entries + 1
  | .held _ => 1
def uptoBulkAll {H : Type} : List (DataW H) → Nat
  | [] => 0
  | d :: r => uptoBulk d + uptoBulkAll r
def uptoBulkEntries {H : Type} : List (Lit × DataW H) → Nat
  | [] => 0
  | x :: r => uptoBulkEntry x + uptoBulkEntries r
def uptoBulkEntry {H : Type} : Lit × DataW H → Nat
  | (.string bytes, d) => bytes.length + uptoBulk d + 1
  | (_, d) => uptoBulk d + 1
 end
def uptoSmall : (H : Type) → List (DataW H) → Bool := fun _ ds => decide (uptoBulkAll ds ≤ 1048576)
def OpenSpec.upto (s : _root_.Go.ChangeSpec) : _root_.Go.OpenSpec := { _root_.Go.OpenSpec.ofChange s with cond := some uptoSmall }

/-- 'laws.FnFingConcat', WHERE WHAT IT READS IS OF BULK AT MOST 1048576: true; the input reads as it did. -/
def fnFingConcatUptoRow : OpenClaim := { program := "ytfbcpiipekfapaa", sum := "887fc4a6a537a13cd19dfae63d7276862ffda2fb69bad456beb98c92e3b205ef", func := "loop.example/g00677/laws.FnFingConcat", spec := "fnFingConcat", inPlace := ["internal/bytealg.CountString", "internal/bytealg.IndexByteString", "internal/bytealg.IndexString", "internal/abi.NoEscape", "internal/bytealg.MakeNoZero"], recurses := true, named := ["internal/bytealg.MaxLen"], apart := false, narrowed := true }
def FnFingConcatUptoSaid : Prop := fnFingConcatUptoRow.holds Try.pinned (OpenSpec.upto fnFingConcatSpec)

/-- 'laws.FnFingEmpty', WHERE WHAT IT READS IS OF BULK AT MOST 1048576: true; the input reads as it did. -/
def fnFingEmptyUptoRow : OpenClaim := { program := "ytfbcpiipekfapaa", sum := "887fc4a6a537a13cd19dfae63d7276862ffda2fb69bad456beb98c92e3b205ef", func := "loop.example/g00677/laws.FnFingEmpty", spec := "fnFingEmpty", inPlace := ["internal/bytealg.CountString", "internal/bytealg.IndexByteString", "internal/bytealg.IndexString"], recurses := true, named := ["internal/bytealg.MaxLen"], apart := false, narrowed := true }
def FnFingEmptyUptoSaid : Prop := fnFingEmptyUptoRow.holds Try.pinned (OpenSpec.upto fnFingEmptySpec)

/-- 'laws.FnExactShapeOk', WHERE WHAT IT READS IS OF BULK AT MOST 1048576: true; the input reads as it did. -/
def fnExactShapeOkUptoRow : OpenClaim := { program := "ytfbcpiipekfapaa", sum := "887fc4a6a537a13cd19dfae63d7276862ffda2fb69bad456beb98c92e3b205ef", func := "loop.example/g00677/laws.FnExactShapeOk", spec := "fnExactShapeOk", inPlace := ["internal/bytealg.CountString", "internal/bytealg.IndexByteString", "internal/bytealg.IndexString"], recurses := true, named := ["internal/bytealg.MaxLen"], apart := false, narrowed := true }
def FnExactShapeOkUptoSaid : Prop := fnExactShapeOkUptoRow.holds Try.pinned (OpenSpec.upto fnExactShapeOkSpec)

/-- 'laws.FnExactFingOk', WHERE WHAT IT READS IS OF BULK AT MOST 1048576: true; the input reads as it did. -/
def fnExactFingOkUptoRow : OpenClaim := { program := "ytfbcpiipekfapaa", sum := "887fc4a6a537a13cd19dfae63d7276862ffda2fb69bad456beb98c92e3b205ef", func := "loop.example/g00677/laws.FnExactFingOk", spec := "fnExactFingOk", inPlace := ["internal/bytealg.CountString", "internal/bytealg.IndexByteString", "internal/bytealg.IndexString"], recurses := true, named := ["internal/bytealg.MaxLen"], apart := false, narrowed := true }
def FnExactFingOkUptoSaid : Prop := fnExactFingOkUptoRow.holds Try.pinned (OpenSpec.upto fnExactFingOkSpec)

/-- 'laws.FnExactFingLeaves', WHERE WHAT IT READS IS OF BULK AT MOST 1048576: true; the input reads as it did. -/
def fnExactFingLeavesUptoRow : OpenClaim := { program := "ytfbcpiipekfapaa", sum := "887fc4a6a537a13cd19dfae63d7276862ffda2fb69bad456beb98c92e3b205ef", func := "loop.example/g00677/laws.FnExactFingLeaves", spec := "fnExactFingLeaves", inPlace := ["internal/bytealg.CountString", "internal/bytealg.IndexByteString", "internal/bytealg.IndexString"], recurses := true, named := ["internal/bytealg.MaxLen"], apart := false, narrowed := true }
def FnExactFingLeavesUptoSaid : Prop := fnExactFingLeavesUptoRow.holds Try.pinned (OpenSpec.upto fnExactFingLeavesSpec)

/-- 'laws.FnExactFingNew', WHERE WHAT IT READS IS OF BULK AT MOST 1048576: true; the input reads as it did. -/
def fnExactFingNewUptoRow : OpenClaim := { program := "ytfbcpiipekfapaa", sum := "887fc4a6a537a13cd19dfae63d7276862ffda2fb69bad456beb98c92e3b205ef", func := "loop.example/g00677/laws.FnExactFingNew", spec := "fnExactFingNew", inPlace := ["internal/abi.NoEscape", "internal/bytealg.MakeNoZero"], recurses := true, apart := false, narrowed := true }
def FnExactFingNewUptoSaid : Prop := fnExactFingNewUptoRow.holds Try.pinned (OpenSpec.upto fnExactFingNewSpec)

/-- 'laws.FnExactFingCons', WHERE WHAT IT READS IS OF BULK AT MOST 1048576: true; the input reads as it did. -/
def fnExactFingConsUptoRow : OpenClaim := { program := "ytfbcpiipekfapaa", sum := "887fc4a6a537a13cd19dfae63d7276862ffda2fb69bad456beb98c92e3b205ef", func := "loop.example/g00677/laws.FnExactFingCons", spec := "fnExactFingCons", inPlace := ["internal/bytealg.CountString", "internal/bytealg.IndexByteString", "internal/bytealg.IndexString", "internal/abi.NoEscape", "internal/bytealg.MakeNoZero"], recurses := true, named := ["internal/bytealg.MaxLen"], apart := false, narrowed := true }
def FnExactFingConsUptoSaid : Prop := fnExactFingConsUptoRow.holds Try.pinned (OpenSpec.upto fnExactFingConsSpec)

/-- 'laws.FnExactFingSnoc', WHERE WHAT IT READS IS OF BULK AT MOST 1048576: true; the input reads as it did. -/
def fnExactFingSnocUptoRow : OpenClaim := { program := "ytfbcpiipekfapaa", sum := "887fc4a6a537a13cd19dfae63d7276862ffda2fb69bad456beb98c92e3b205ef", func := "loop.example/g00677/laws.FnExactFingSnoc", spec := "fnExactFingSnoc", inPlace := ["internal/bytealg.CountString", "internal/bytealg.IndexByteString", "internal/bytealg.IndexString", "internal/abi.NoEscape", "internal/bytealg.MakeNoZero"], recurses := true, named := ["internal/bytealg.MaxLen"], apart := false, narrowed := true }
def FnExactFingSnocUptoSaid : Prop := fnExactFingSnocUptoRow.holds Try.pinned (OpenSpec.upto fnExactFingSnocSpec)

/-- 'laws.FnExactFingUncons', WHERE WHAT IT READS IS OF BULK AT MOST 1048576: true; the input reads as it did. -/
def fnExactFingUnconsUptoRow : OpenClaim := { program := "ytfbcpiipekfapaa", sum := "887fc4a6a537a13cd19dfae63d7276862ffda2fb69bad456beb98c92e3b205ef", func := "loop.example/g00677/laws.FnExactFingUncons", spec := "fnExactFingUncons", inPlace := ["internal/bytealg.CountString", "internal/bytealg.IndexByteString", "internal/bytealg.IndexString"], recurses := true, named := ["internal/bytealg.MaxLen"], apart := false, narrowed := true }
def FnExactFingUnconsUptoSaid : Prop := fnExactFingUnconsUptoRow.holds Try.pinned (OpenSpec.upto fnExactFingUnconsSpec)

/-- 'laws.FnExactFingUnsnoc', WHERE WHAT IT READS IS OF BULK AT MOST 1048576: true; the input reads as it did. -/
def fnExactFingUnsnocUptoRow : OpenClaim := { program := "ytfbcpiipekfapaa", sum := "887fc4a6a537a13cd19dfae63d7276862ffda2fb69bad456beb98c92e3b205ef", func := "loop.example/g00677/laws.FnExactFingUnsnoc", spec := "fnExactFingUnsnoc", inPlace := ["internal/bytealg.CountString", "internal/bytealg.IndexByteString", "internal/bytealg.IndexString"], recurses := true, named := ["internal/bytealg.MaxLen"], apart := false, narrowed := true }
def FnExactFingUnsnocUptoSaid : Prop := fnExactFingUnsnocUptoRow.holds Try.pinned (OpenSpec.upto fnExactFingUnsnocSpec)

/-- 'laws.FnExactFingConcat', WHERE WHAT IT READS IS OF BULK AT MOST 1048576: true; the input reads as it did. -/
def fnExactFingConcatUptoRow : OpenClaim := { program := "ytfbcpiipekfapaa", sum := "887fc4a6a537a13cd19dfae63d7276862ffda2fb69bad456beb98c92e3b205ef", func := "loop.example/g00677/laws.FnExactFingConcat", spec := "fnExactFingConcat", inPlace := ["internal/bytealg.CountString", "internal/bytealg.IndexByteString", "internal/bytealg.IndexString", "internal/abi.NoEscape", "internal/bytealg.MakeNoZero"], recurses := true, named := ["internal/bytealg.MaxLen"], apart := false, narrowed := true }
def FnExactFingConcatUptoSaid : Prop := fnExactFingConcatUptoRow.holds Try.pinned (OpenSpec.upto fnExactFingConcatSpec)

/-- 'laws.FnExactFingText', WHERE WHAT IT READS IS OF BULK AT MOST 1048576: true; the input reads as it did. -/
def fnExactFingTextUptoRow : OpenClaim := { program := "ytfbcpiipekfapaa", sum := "887fc4a6a537a13cd19dfae63d7276862ffda2fb69bad456beb98c92e3b205ef", func := "loop.example/g00677/laws.FnExactFingText", spec := "fnExactFingText", inPlace := ["internal/bytealg.CountString", "internal/bytealg.IndexByteString", "internal/bytealg.IndexString", "internal/abi.NoEscape", "internal/bytealg.MakeNoZero"], recurses := true, named := ["internal/bytealg.MaxLen"], apart := false, narrowed := true }
def FnExactFingTextUptoSaid : Prop := fnExactFingTextUptoRow.holds Try.pinned (OpenSpec.upto fnExactFingTextSpec)

end Rows
end Go.Proofs.Ytfbcpiipekfapaa
