/-
  NARROWER THAN 'FOR EVERY INPUT', by the rows' own cells (each row's printed sentence says how): FnRuneBack: laid · FnPlaces: laid · FnExactRuneSize: laid · FnExactTextOk: laid · FnExactRuneAt: laid · FnExactRuneBytes: laid · FnExactCutOk: laid · FnExactRuneCount: laid · FnExactPlaceOf: laid · FnExactRunesTo: laid.
  DERIVED. THE GIVEN ROWS OF THIS SEAT. 10 by the template 'for every input the law returns true; each argument reads behind the call as it read before'; 0 by the template 'total and deterministic' (their statements: YtkjlefejlcglgaaDoorTotals.lean).
  GIVEN WITH THE SEED: the statements are not yours to turn. If you find one false, say at which input.
  Laid BY PROGRAM, IN A SANDBOX (cutbox-rows.mjs): the forced cells as the released guide's own fill.sh prints them over the translation c17009680ed8a610… (all of the seat's roots in one cut). By AI agents, Wed Nov 11 2026. No macro, syntax, notation, axiom, sorry.
-/
import Derived.Test.YtkjlefejlcglgaaDoorChecked
import GoSem.Claim
import GoSem.ClaimJoined
import GoSem.ClaimMapViews
import Derived.JoinedTies
import Derived.KernelRfl
namespace Go.Proofs.YtkjlefejlcglgaaDoor
/- THE CELL 'sum', in the pinned program and in every row, IS THE sha256 OF THE DUMP (.gsa) THAT YtkjlefejlcglgaaDoorProg.lean LOADS. Nothing in Lean hashes anything: it is a label: what it is worth is what the hold of that sum in a sandbox is worth. -/
noncomputable def Tryd.pinned : Pinned := { name := "ytkjlefejlcglgaadoor", sum := "c17009680ed8a61057d66ff6139f8fcc939043f030f62b28ed0cb83751cff97f", checked := Tryd.checked }
namespace Rows
def none {H : Type} : Left H := { results := [], args := [] }

/- WHAT THE LISTED PACKAGE-LEVEL VARIABLES READ AS WHEN THE CALL BEGINS. Each datum BY PROGRAM (the guide's laid-datum.mjs) off the statement by which the dump's own 'gosem.cut.vars' lays the variable. In a bare row this is a premise. The card (YtkjlefejlcglgaaDoorCards.lean) ties it to the program's text. -/
def laid_loop_example_g00677_impl_leadMarks {H : Type} : DataW H := .agg [.lit (.int .u8 0), .lit (.int .u8 0), .lit (.int .u8 192), .lit (.int .u8 224), .lit (.int .u8 240)]

/-- 'laws.FnRuneBack': WHATEVER THE INPUT: true; the input reads as it did. -/
def fnRuneBackSpec : ChangeSpec := { name := "fnRuneBack", vars := ["loop.example/g00677/impl.leadMarks"], fn := fun _ => fun
  | [d, g1] => { results := [.lit (.bool true)], args := [d], vars := [g1] }
  | _ => none }
def fnRuneBackRow : OpenClaim := { program := "ytkjlefejlcglgaadoor", sum := "c17009680ed8a61057d66ff6139f8fcc939043f030f62b28ed0cb83751cff97f", func := "loop.example/g00677/laws.FnRuneBack", spec := "fnRuneBack", named := ["loop.example/g00677/impl.leadMarks"], apart := false, laid := [("loop.example/g00677/impl.leadMarks", laid_loop_example_g00677_impl_leadMarks)] }
def FnRuneBackSaid : Prop := fnRuneBackRow.holds Tryd.pinned (OpenSpec.ofChange fnRuneBackSpec)

/-- ITS FALSE NEIGHBOUR: 'it returns false'. Refute it at one input. -/
def fnRuneBackWrong : ChangeSpec := { name := "fnRuneBack", vars := ["loop.example/g00677/impl.leadMarks"], fn := fun _ => fun
  | [d, g1] => { results := [.lit (.bool false)], args := [d], vars := [g1] }
  | _ => none }
def FnRuneBackWrongFalsely : Prop := fnRuneBackRow.holds Tryd.pinned (OpenSpec.ofChange fnRuneBackWrong)

/-- 'laws.FnPlaces': WHATEVER THE INPUT: true; the input reads as it did. -/
def fnPlacesSpec : ChangeSpec := { name := "fnPlaces", vars := ["loop.example/g00677/impl.leadMarks"], fn := fun _ => fun
  | [d, g1] => { results := [.lit (.bool true)], args := [d], vars := [g1] }
  | _ => none }
def fnPlacesRow : OpenClaim := { program := "ytkjlefejlcglgaadoor", sum := "c17009680ed8a61057d66ff6139f8fcc939043f030f62b28ed0cb83751cff97f", func := "loop.example/g00677/laws.FnPlaces", spec := "fnPlaces", named := ["loop.example/g00677/impl.leadMarks"], apart := false, laid := [("loop.example/g00677/impl.leadMarks", laid_loop_example_g00677_impl_leadMarks)] }
def FnPlacesSaid : Prop := fnPlacesRow.holds Tryd.pinned (OpenSpec.ofChange fnPlacesSpec)

/-- ITS FALSE NEIGHBOUR: 'it returns false'. Refute it at one input. -/
def fnPlacesWrong : ChangeSpec := { name := "fnPlaces", vars := ["loop.example/g00677/impl.leadMarks"], fn := fun _ => fun
  | [d, g1] => { results := [.lit (.bool false)], args := [d], vars := [g1] }
  | _ => none }
def FnPlacesWrongFalsely : Prop := fnPlacesRow.holds Tryd.pinned (OpenSpec.ofChange fnPlacesWrong)

/-- 'laws.FnExactRuneSize': WHATEVER THE INPUT: true; the input reads as it did. -/
def fnExactRuneSizeSpec : ChangeSpec := { name := "fnExactRuneSize", vars := ["loop.example/g00677/impl.leadMarks"], fn := fun _ => fun
  | [d1, d2, g1] => { results := [.lit (.bool true)], args := [d1, d2], vars := [g1] }
  | _ => none }
def fnExactRuneSizeRow : OpenClaim := { program := "ytkjlefejlcglgaadoor", sum := "c17009680ed8a61057d66ff6139f8fcc939043f030f62b28ed0cb83751cff97f", func := "loop.example/g00677/laws.FnExactRuneSize", spec := "fnExactRuneSize", named := ["loop.example/g00677/impl.leadMarks"], apart := false, laid := [("loop.example/g00677/impl.leadMarks", laid_loop_example_g00677_impl_leadMarks)] }
def FnExactRuneSizeSaid : Prop := fnExactRuneSizeRow.holds Tryd.pinned (OpenSpec.ofChange fnExactRuneSizeSpec)

/-- ITS FALSE NEIGHBOUR: 'it returns false'. Refute it at one input. -/
def fnExactRuneSizeWrong : ChangeSpec := { name := "fnExactRuneSize", vars := ["loop.example/g00677/impl.leadMarks"], fn := fun _ => fun
  | [d1, d2, g1] => { results := [.lit (.bool false)], args := [d1, d2], vars := [g1] }
  | _ => none }
def FnExactRuneSizeWrongFalsely : Prop := fnExactRuneSizeRow.holds Tryd.pinned (OpenSpec.ofChange fnExactRuneSizeWrong)

/-- 'laws.FnExactTextOk': WHATEVER THE INPUT: true; the input reads as it did. -/
def fnExactTextOkSpec : ChangeSpec := { name := "fnExactTextOk", vars := ["loop.example/g00677/impl.leadMarks"], fn := fun _ => fun
  | [d, g1] => { results := [.lit (.bool true)], args := [d], vars := [g1] }
  | _ => none }
def fnExactTextOkRow : OpenClaim := { program := "ytkjlefejlcglgaadoor", sum := "c17009680ed8a61057d66ff6139f8fcc939043f030f62b28ed0cb83751cff97f", func := "loop.example/g00677/laws.FnExactTextOk", spec := "fnExactTextOk", named := ["loop.example/g00677/impl.leadMarks"], apart := false, laid := [("loop.example/g00677/impl.leadMarks", laid_loop_example_g00677_impl_leadMarks)] }
def FnExactTextOkSaid : Prop := fnExactTextOkRow.holds Tryd.pinned (OpenSpec.ofChange fnExactTextOkSpec)

/-- ITS FALSE NEIGHBOUR: 'it returns false'. Refute it at one input. -/
def fnExactTextOkWrong : ChangeSpec := { name := "fnExactTextOk", vars := ["loop.example/g00677/impl.leadMarks"], fn := fun _ => fun
  | [d, g1] => { results := [.lit (.bool false)], args := [d], vars := [g1] }
  | _ => none }
def FnExactTextOkWrongFalsely : Prop := fnExactTextOkRow.holds Tryd.pinned (OpenSpec.ofChange fnExactTextOkWrong)

/-- 'laws.FnExactRuneAt': WHATEVER THE INPUT: true; the input reads as it did. -/
def fnExactRuneAtSpec : ChangeSpec := { name := "fnExactRuneAt", vars := ["loop.example/g00677/impl.leadMarks"], fn := fun _ => fun
  | [d1, d2, g1] => { results := [.lit (.bool true)], args := [d1, d2], vars := [g1] }
  | _ => none }
def fnExactRuneAtRow : OpenClaim := { program := "ytkjlefejlcglgaadoor", sum := "c17009680ed8a61057d66ff6139f8fcc939043f030f62b28ed0cb83751cff97f", func := "loop.example/g00677/laws.FnExactRuneAt", spec := "fnExactRuneAt", named := ["loop.example/g00677/impl.leadMarks"], apart := false, laid := [("loop.example/g00677/impl.leadMarks", laid_loop_example_g00677_impl_leadMarks)] }
def FnExactRuneAtSaid : Prop := fnExactRuneAtRow.holds Tryd.pinned (OpenSpec.ofChange fnExactRuneAtSpec)

/-- ITS FALSE NEIGHBOUR: 'it returns false'. Refute it at one input. -/
def fnExactRuneAtWrong : ChangeSpec := { name := "fnExactRuneAt", vars := ["loop.example/g00677/impl.leadMarks"], fn := fun _ => fun
  | [d1, d2, g1] => { results := [.lit (.bool false)], args := [d1, d2], vars := [g1] }
  | _ => none }
def FnExactRuneAtWrongFalsely : Prop := fnExactRuneAtRow.holds Tryd.pinned (OpenSpec.ofChange fnExactRuneAtWrong)

/-- 'laws.FnExactRuneBytes': WHATEVER THE INPUT: true; the input reads as it did. -/
def fnExactRuneBytesSpec : ChangeSpec := { name := "fnExactRuneBytes", vars := ["loop.example/g00677/impl.leadMarks"], fn := fun _ => fun
  | [d, g1] => { results := [.lit (.bool true)], args := [d], vars := [g1] }
  | _ => none }
def fnExactRuneBytesRow : OpenClaim := { program := "ytkjlefejlcglgaadoor", sum := "c17009680ed8a61057d66ff6139f8fcc939043f030f62b28ed0cb83751cff97f", func := "loop.example/g00677/laws.FnExactRuneBytes", spec := "fnExactRuneBytes", named := ["loop.example/g00677/impl.leadMarks"], apart := false, laid := [("loop.example/g00677/impl.leadMarks", laid_loop_example_g00677_impl_leadMarks)] }
def FnExactRuneBytesSaid : Prop := fnExactRuneBytesRow.holds Tryd.pinned (OpenSpec.ofChange fnExactRuneBytesSpec)

/-- ITS FALSE NEIGHBOUR: 'it returns false'. Refute it at one input. -/
def fnExactRuneBytesWrong : ChangeSpec := { name := "fnExactRuneBytes", vars := ["loop.example/g00677/impl.leadMarks"], fn := fun _ => fun
  | [d, g1] => { results := [.lit (.bool false)], args := [d], vars := [g1] }
  | _ => none }
def FnExactRuneBytesWrongFalsely : Prop := fnExactRuneBytesRow.holds Tryd.pinned (OpenSpec.ofChange fnExactRuneBytesWrong)

/-- 'laws.FnExactCutOk': WHATEVER THE INPUT: true; the input reads as it did. -/
def fnExactCutOkSpec : ChangeSpec := { name := "fnExactCutOk", vars := ["loop.example/g00677/impl.leadMarks"], fn := fun _ => fun
  | [d1, d2, g1] => { results := [.lit (.bool true)], args := [d1, d2], vars := [g1] }
  | _ => none }
def fnExactCutOkRow : OpenClaim := { program := "ytkjlefejlcglgaadoor", sum := "c17009680ed8a61057d66ff6139f8fcc939043f030f62b28ed0cb83751cff97f", func := "loop.example/g00677/laws.FnExactCutOk", spec := "fnExactCutOk", named := ["loop.example/g00677/impl.leadMarks"], apart := false, laid := [("loop.example/g00677/impl.leadMarks", laid_loop_example_g00677_impl_leadMarks)] }
def FnExactCutOkSaid : Prop := fnExactCutOkRow.holds Tryd.pinned (OpenSpec.ofChange fnExactCutOkSpec)

/-- ITS FALSE NEIGHBOUR: 'it returns false'. Refute it at one input. -/
def fnExactCutOkWrong : ChangeSpec := { name := "fnExactCutOk", vars := ["loop.example/g00677/impl.leadMarks"], fn := fun _ => fun
  | [d1, d2, g1] => { results := [.lit (.bool false)], args := [d1, d2], vars := [g1] }
  | _ => none }
def FnExactCutOkWrongFalsely : Prop := fnExactCutOkRow.holds Tryd.pinned (OpenSpec.ofChange fnExactCutOkWrong)

/-- 'laws.FnExactRuneCount': WHATEVER THE INPUT: true; the input reads as it did. -/
def fnExactRuneCountSpec : ChangeSpec := { name := "fnExactRuneCount", vars := ["loop.example/g00677/impl.leadMarks"], fn := fun _ => fun
  | [d, g1] => { results := [.lit (.bool true)], args := [d], vars := [g1] }
  | _ => none }
def fnExactRuneCountRow : OpenClaim := { program := "ytkjlefejlcglgaadoor", sum := "c17009680ed8a61057d66ff6139f8fcc939043f030f62b28ed0cb83751cff97f", func := "loop.example/g00677/laws.FnExactRuneCount", spec := "fnExactRuneCount", named := ["loop.example/g00677/impl.leadMarks"], apart := false, laid := [("loop.example/g00677/impl.leadMarks", laid_loop_example_g00677_impl_leadMarks)] }
def FnExactRuneCountSaid : Prop := fnExactRuneCountRow.holds Tryd.pinned (OpenSpec.ofChange fnExactRuneCountSpec)

/-- ITS FALSE NEIGHBOUR: 'it returns false'. Refute it at one input. -/
def fnExactRuneCountWrong : ChangeSpec := { name := "fnExactRuneCount", vars := ["loop.example/g00677/impl.leadMarks"], fn := fun _ => fun
  | [d, g1] => { results := [.lit (.bool false)], args := [d], vars := [g1] }
  | _ => none }
def FnExactRuneCountWrongFalsely : Prop := fnExactRuneCountRow.holds Tryd.pinned (OpenSpec.ofChange fnExactRuneCountWrong)

/-- 'laws.FnExactPlaceOf': WHATEVER THE INPUT: true; the input reads as it did. -/
def fnExactPlaceOfSpec : ChangeSpec := { name := "fnExactPlaceOf", vars := ["loop.example/g00677/impl.leadMarks"], fn := fun _ => fun
  | [d1, d2, g1] => { results := [.lit (.bool true)], args := [d1, d2], vars := [g1] }
  | _ => none }
def fnExactPlaceOfRow : OpenClaim := { program := "ytkjlefejlcglgaadoor", sum := "c17009680ed8a61057d66ff6139f8fcc939043f030f62b28ed0cb83751cff97f", func := "loop.example/g00677/laws.FnExactPlaceOf", spec := "fnExactPlaceOf", named := ["loop.example/g00677/impl.leadMarks"], apart := false, laid := [("loop.example/g00677/impl.leadMarks", laid_loop_example_g00677_impl_leadMarks)] }
def FnExactPlaceOfSaid : Prop := fnExactPlaceOfRow.holds Tryd.pinned (OpenSpec.ofChange fnExactPlaceOfSpec)

/-- ITS FALSE NEIGHBOUR: 'it returns false'. Refute it at one input. -/
def fnExactPlaceOfWrong : ChangeSpec := { name := "fnExactPlaceOf", vars := ["loop.example/g00677/impl.leadMarks"], fn := fun _ => fun
  | [d1, d2, g1] => { results := [.lit (.bool false)], args := [d1, d2], vars := [g1] }
  | _ => none }
def FnExactPlaceOfWrongFalsely : Prop := fnExactPlaceOfRow.holds Tryd.pinned (OpenSpec.ofChange fnExactPlaceOfWrong)

/-- 'laws.FnExactRunesTo': WHATEVER THE INPUT: true; the input reads as it did. -/
def fnExactRunesToSpec : ChangeSpec := { name := "fnExactRunesTo", vars := ["loop.example/g00677/impl.leadMarks"], fn := fun _ => fun
  | [d1, d2, g1] => { results := [.lit (.bool true)], args := [d1, d2], vars := [g1] }
  | _ => none }
def fnExactRunesToRow : OpenClaim := { program := "ytkjlefejlcglgaadoor", sum := "c17009680ed8a61057d66ff6139f8fcc939043f030f62b28ed0cb83751cff97f", func := "loop.example/g00677/laws.FnExactRunesTo", spec := "fnExactRunesTo", named := ["loop.example/g00677/impl.leadMarks"], apart := false, laid := [("loop.example/g00677/impl.leadMarks", laid_loop_example_g00677_impl_leadMarks)] }
def FnExactRunesToSaid : Prop := fnExactRunesToRow.holds Tryd.pinned (OpenSpec.ofChange fnExactRunesToSpec)

/-- ITS FALSE NEIGHBOUR: 'it returns false'. Refute it at one input. -/
def fnExactRunesToWrong : ChangeSpec := { name := "fnExactRunesTo", vars := ["loop.example/g00677/impl.leadMarks"], fn := fun _ => fun
  | [d1, d2, g1] => { results := [.lit (.bool false)], args := [d1, d2], vars := [g1] }
  | _ => none }
def FnExactRunesToWrongFalsely : Prop := fnExactRunesToRow.holds Tryd.pinned (OpenSpec.ofChange fnExactRunesToWrong)

/- THE SECOND FORM. 'bulk': how many values and letters a reading holds, each counted each time it is reached (what is shared counts as often as it is met; a slice's spare places count too). A statement '..UptoSaid' is the law's where the arguments, and the package variables that the reading takes, are together of bulk at most 1048576: NARROWER than '..Said'. Prove '..Said' where nothing that the law and all that it calls make is longer than what came in: it says more and counts as full. Else prove '..UptoSaid'. A law counts once. -/
mutual
def uptoBulk {H : Type} : DataW H → Nat
  | .lit (.string bytes) => bytes.length + 1
  | .lit _ => 1
  | .nil => 1
  | .ptr d => uptoBulk d + 1
  | .slice elems spare => uptoBulkAll elems + uptoBulkAll spare + 1
  | .agg parts => uptoBulkAll parts + 1
  | .iface _ d => uptoBulk d + 1
  | .map entries => uptoBulkEntries entries + 1
  | .held _ => 1
def uptoBulkAll {H : Type} : List (DataW H) → Nat
  | [] => 0
  | d :: r => uptoBulk d + uptoBulkAll r
def uptoBulkEntries {H : Type} : List (Lit × DataW H) → Nat
  | [] => 0
  | x :: r => uptoBulkEntry x + uptoBulkEntries r
def uptoBulkEntry {H : Type} : Lit × DataW H → Nat
  | (.string bytes, d) => bytes.length + uptoBulk d + 1
  | (_, d) => uptoBulk d + 1
 end
def uptoSmall : (H : Type) → List (DataW H) → Bool := fun _ ds => decide (uptoBulkAll ds ≤ 1048576)
def OpenSpec.upto (s : _root_.Go.ChangeSpec) : _root_.Go.OpenSpec := { _root_.Go.OpenSpec.ofChange s with cond := some uptoSmall }

/-- 'laws.FnRuneBack', WHERE WHAT IT READS IS OF BULK AT MOST 1048576: true; the input reads as it did. -/
def fnRuneBackUptoRow : OpenClaim := { program := "ytkjlefejlcglgaadoor", sum := "c17009680ed8a61057d66ff6139f8fcc939043f030f62b28ed0cb83751cff97f", func := "loop.example/g00677/laws.FnRuneBack", spec := "fnRuneBack", named := ["loop.example/g00677/impl.leadMarks"], apart := false, laid := [("loop.example/g00677/impl.leadMarks", laid_loop_example_g00677_impl_leadMarks)], narrowed := true }
def FnRuneBackUptoSaid : Prop := fnRuneBackUptoRow.holds Tryd.pinned (OpenSpec.upto fnRuneBackSpec)

/-- 'laws.FnPlaces', WHERE WHAT IT READS IS OF BULK AT MOST 1048576: true; the input reads as it did. -/
def fnPlacesUptoRow : OpenClaim := { program := "ytkjlefejlcglgaadoor", sum := "c17009680ed8a61057d66ff6139f8fcc939043f030f62b28ed0cb83751cff97f", func := "loop.example/g00677/laws.FnPlaces", spec := "fnPlaces", named := ["loop.example/g00677/impl.leadMarks"], apart := false, laid := [("loop.example/g00677/impl.leadMarks", laid_loop_example_g00677_impl_leadMarks)], narrowed := true }
def FnPlacesUptoSaid : Prop := fnPlacesUptoRow.holds Tryd.pinned (OpenSpec.upto fnPlacesSpec)

/-- 'laws.FnExactRuneSize', WHERE WHAT IT READS IS OF BULK AT MOST 1048576: true; the input reads as it did. -/
def fnExactRuneSizeUptoRow : OpenClaim := { program := "ytkjlefejlcglgaadoor", sum := "c17009680ed8a61057d66ff6139f8fcc939043f030f62b28ed0cb83751cff97f", func := "loop.example/g00677/laws.FnExactRuneSize", spec := "fnExactRuneSize", named := ["loop.example/g00677/impl.leadMarks"], apart := false, laid := [("loop.example/g00677/impl.leadMarks", laid_loop_example_g00677_impl_leadMarks)], narrowed := true }
def FnExactRuneSizeUptoSaid : Prop := fnExactRuneSizeUptoRow.holds Tryd.pinned (OpenSpec.upto fnExactRuneSizeSpec)

/-- 'laws.FnExactTextOk', WHERE WHAT IT READS IS OF BULK AT MOST 1048576: true; the input reads as it did. -/
def fnExactTextOkUptoRow : OpenClaim := { program := "ytkjlefejlcglgaadoor", sum := "c17009680ed8a61057d66ff6139f8fcc939043f030f62b28ed0cb83751cff97f", func := "loop.example/g00677/laws.FnExactTextOk", spec := "fnExactTextOk", named := ["loop.example/g00677/impl.leadMarks"], apart := false, laid := [("loop.example/g00677/impl.leadMarks", laid_loop_example_g00677_impl_leadMarks)], narrowed := true }
def FnExactTextOkUptoSaid : Prop := fnExactTextOkUptoRow.holds Tryd.pinned (OpenSpec.upto fnExactTextOkSpec)

/-- 'laws.FnExactRuneAt', WHERE WHAT IT READS IS OF BULK AT MOST 1048576: true; the input reads as it did. -/
def fnExactRuneAtUptoRow : OpenClaim := { program := "ytkjlefejlcglgaadoor", sum := "c17009680ed8a61057d66ff6139f8fcc939043f030f62b28ed0cb83751cff97f", func := "loop.example/g00677/laws.FnExactRuneAt", spec := "fnExactRuneAt", named := ["loop.example/g00677/impl.leadMarks"], apart := false, laid := [("loop.example/g00677/impl.leadMarks", laid_loop_example_g00677_impl_leadMarks)], narrowed := true }
def FnExactRuneAtUptoSaid : Prop := fnExactRuneAtUptoRow.holds Tryd.pinned (OpenSpec.upto fnExactRuneAtSpec)

/-- 'laws.FnExactRuneBytes', WHERE WHAT IT READS IS OF BULK AT MOST 1048576: true; the input reads as it did. -/
def fnExactRuneBytesUptoRow : OpenClaim := { program := "ytkjlefejlcglgaadoor", sum := "c17009680ed8a61057d66ff6139f8fcc939043f030f62b28ed0cb83751cff97f", func := "loop.example/g00677/laws.FnExactRuneBytes", spec := "fnExactRuneBytes", named := ["loop.example/g00677/impl.leadMarks"], apart := false, laid := [("loop.example/g00677/impl.leadMarks", laid_loop_example_g00677_impl_leadMarks)], narrowed := true }
def FnExactRuneBytesUptoSaid : Prop := fnExactRuneBytesUptoRow.holds Tryd.pinned (OpenSpec.upto fnExactRuneBytesSpec)

/-- 'laws.FnExactCutOk', WHERE WHAT IT READS IS OF BULK AT MOST 1048576: true; the input reads as it did. -/
def fnExactCutOkUptoRow : OpenClaim := { program := "ytkjlefejlcglgaadoor", sum := "c17009680ed8a61057d66ff6139f8fcc939043f030f62b28ed0cb83751cff97f", func := "loop.example/g00677/laws.FnExactCutOk", spec := "fnExactCutOk", named := ["loop.example/g00677/impl.leadMarks"], apart := false, laid := [("loop.example/g00677/impl.leadMarks", laid_loop_example_g00677_impl_leadMarks)], narrowed := true }
def FnExactCutOkUptoSaid : Prop := fnExactCutOkUptoRow.holds Tryd.pinned (OpenSpec.upto fnExactCutOkSpec)

/-- 'laws.FnExactRuneCount', WHERE WHAT IT READS IS OF BULK AT MOST 1048576: true; the input reads as it did. -/
def fnExactRuneCountUptoRow : OpenClaim := { program := "ytkjlefejlcglgaadoor", sum := "c17009680ed8a61057d66ff6139f8fcc939043f030f62b28ed0cb83751cff97f", func := "loop.example/g00677/laws.FnExactRuneCount", spec := "fnExactRuneCount", named := ["loop.example/g00677/impl.leadMarks"], apart := false, laid := [("loop.example/g00677/impl.leadMarks", laid_loop_example_g00677_impl_leadMarks)], narrowed := true }
def FnExactRuneCountUptoSaid : Prop := fnExactRuneCountUptoRow.holds Tryd.pinned (OpenSpec.upto fnExactRuneCountSpec)

/-- 'laws.FnExactPlaceOf', WHERE WHAT IT READS IS OF BULK AT MOST 1048576: true; the input reads as it did. -/
def fnExactPlaceOfUptoRow : OpenClaim := { program := "ytkjlefejlcglgaadoor", sum := "c17009680ed8a61057d66ff6139f8fcc939043f030f62b28ed0cb83751cff97f", func := "loop.example/g00677/laws.FnExactPlaceOf", spec := "fnExactPlaceOf", named := ["loop.example/g00677/impl.leadMarks"], apart := false, laid := [("loop.example/g00677/impl.leadMarks", laid_loop_example_g00677_impl_leadMarks)], narrowed := true }
def FnExactPlaceOfUptoSaid : Prop := fnExactPlaceOfUptoRow.holds Tryd.pinned (OpenSpec.upto fnExactPlaceOfSpec)

/-- 'laws.FnExactRunesTo', WHERE WHAT IT READS IS OF BULK AT MOST 1048576: true; the input reads as it did. -/
def fnExactRunesToUptoRow : OpenClaim := { program := "ytkjlefejlcglgaadoor", sum := "c17009680ed8a61057d66ff6139f8fcc939043f030f62b28ed0cb83751cff97f", func := "loop.example/g00677/laws.FnExactRunesTo", spec := "fnExactRunesTo", named := ["loop.example/g00677/impl.leadMarks"], apart := false, laid := [("loop.example/g00677/impl.leadMarks", laid_loop_example_g00677_impl_leadMarks)], narrowed := true }
def FnExactRunesToUptoSaid : Prop := fnExactRunesToUptoRow.holds Tryd.pinned (OpenSpec.upto fnExactRunesToSpec)

end Rows
end Go.Proofs.YtkjlefejlcglgaaDoor
