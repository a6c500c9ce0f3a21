/-
  NARROWER THAN 'FOR EVERY INPUT', by the rows' own cells (each row's printed sentence says how): FnRuneBack: laid · FnChunks: laid · FnChunkFor: laid · FnExactMeasOf: laid · FnExactChunkOk: laid · FnExactChunksOf: laid · FnExactChunksOk: laid · FnExactChunksText: laid · FnExactChunkFor: laid.
  DERIVED. THE GIVEN ROWS OF THIS SEAT. 9 by the template 'for every input the law returns true; each argument reads behind the call as it read before'; 0 by the template 'total and deterministic' (their statements: YtpgeanombiociaaDoorTotals.lean).
  GIVEN WITH THE SEED: the statements are not yours to turn. If you find one false, say at which input.
  Laid BY PROGRAM, IN A SANDBOX (cutbox-rows.mjs): the forced cells as the released guide's own fill.sh prints them over the translation a32f512e06ec4a96… (all of the seat's roots in one cut). By AI agents, Wed Nov 11 2026. No macro, syntax, notation, axiom, sorry.
-/
import Derived.Test.YtpgeanombiociaaDoorChecked
import GoSem.Claim
import GoSem.ClaimJoined
import GoSem.ClaimMapViews
import Derived.JoinedTies
import Derived.KernelRfl
namespace Go.Proofs.YtpgeanombiociaaDoor
/- THE CELL 'sum', in the pinned program and in every row, IS THE sha256 OF THE DUMP (.gsa) THAT YtpgeanombiociaaDoorProg.lean LOADS. Nothing in Lean hashes anything: it is a label: what it is worth is what the hold of that sum in a sandbox is worth. -/
noncomputable def Tryd.pinned : Pinned := { name := "ytpgeanombiociaadoor", sum := "a32f512e06ec4a966b826eb7050cd25809258ecb8eed19f3fed7c94ec344c925", checked := Tryd.checked }
namespace Rows
def none {H : Type} : Left H := { results := [], args := [] }

/- WHAT THE LISTED PACKAGE-LEVEL VARIABLES READ AS WHEN THE CALL BEGINS. Each datum BY PROGRAM (the guide's laid-datum.mjs) off the statement by which the dump's own 'gosem.cut.vars' lays the variable. In a bare row this is a premise. The card (YtpgeanombiociaaDoorCards.lean) ties it to the program's text. -/
def laid_loop_example_g00677_impl_leadMarks {H : Type} : DataW H := .agg [.lit (.int .u8 0), .lit (.int .u8 0), .lit (.int .u8 192), .lit (.int .u8 224), .lit (.int .u8 240)]

/-- 'laws.FnRuneBack': WHATEVER THE INPUT: true; the input reads as it did. -/
def fnRuneBackSpec : ChangeSpec := { name := "fnRuneBack", vars := ["loop.example/g00677/impl.leadMarks"], fn := fun _ => fun
  | [d, g1] => { results := [.lit (.bool true)], args := [d], vars := [g1] }
  | _ => none }
def fnRuneBackRow : OpenClaim := { program := "ytpgeanombiociaadoor", sum := "a32f512e06ec4a966b826eb7050cd25809258ecb8eed19f3fed7c94ec344c925", func := "loop.example/g00677/laws.FnRuneBack", spec := "fnRuneBack", named := ["loop.example/g00677/impl.leadMarks"], apart := false, laid := [("loop.example/g00677/impl.leadMarks", laid_loop_example_g00677_impl_leadMarks)] }
def FnRuneBackSaid : Prop := fnRuneBackRow.holds Tryd.pinned (OpenSpec.ofChange fnRuneBackSpec)

/-- ITS FALSE NEIGHBOUR: 'it returns false'. Refute it at one input. -/
def fnRuneBackWrong : ChangeSpec := { name := "fnRuneBack", vars := ["loop.example/g00677/impl.leadMarks"], fn := fun _ => fun
  | [d, g1] => { results := [.lit (.bool false)], args := [d], vars := [g1] }
  | _ => none }
def FnRuneBackWrongFalsely : Prop := fnRuneBackRow.holds Tryd.pinned (OpenSpec.ofChange fnRuneBackWrong)

/-- 'laws.FnChunks': WHATEVER THE INPUT: true; the input reads as it did. -/
def fnChunksSpec : ChangeSpec := { name := "fnChunks", vars := ["loop.example/g00677/impl.leadMarks"], fn := fun _ => fun
  | [d, g1] => { results := [.lit (.bool true)], args := [d], vars := [g1] }
  | _ => none }
def fnChunksRow : OpenClaim := { program := "ytpgeanombiociaadoor", sum := "a32f512e06ec4a966b826eb7050cd25809258ecb8eed19f3fed7c94ec344c925", func := "loop.example/g00677/laws.FnChunks", spec := "fnChunks", inPlace := ["internal/bytealg.Count", "internal/bytealg.IndexByte", "internal/bytealg.Index"], named := ["loop.example/g00677/impl.leadMarks", "internal/bytealg.MaxLen"], apart := false, laid := [("loop.example/g00677/impl.leadMarks", laid_loop_example_g00677_impl_leadMarks)] }
def FnChunksSaid : Prop := fnChunksRow.holds Tryd.pinned (OpenSpec.ofChange fnChunksSpec)

/-- ITS FALSE NEIGHBOUR: 'it returns false'. Refute it at one input. -/
def fnChunksWrong : ChangeSpec := { name := "fnChunks", vars := ["loop.example/g00677/impl.leadMarks"], fn := fun _ => fun
  | [d, g1] => { results := [.lit (.bool false)], args := [d], vars := [g1] }
  | _ => none }
def FnChunksWrongFalsely : Prop := fnChunksRow.holds Tryd.pinned (OpenSpec.ofChange fnChunksWrong)

/-- 'laws.FnChunkFor': WHATEVER THE INPUT: true; the input reads as it did. -/
def fnChunkForSpec : ChangeSpec := { name := "fnChunkFor", vars := ["loop.example/g00677/impl.leadMarks"], fn := fun _ => fun
  | [d, g1] => { results := [.lit (.bool true)], args := [d], vars := [g1] }
  | _ => none }
def fnChunkForRow : OpenClaim := { program := "ytpgeanombiociaadoor", sum := "a32f512e06ec4a966b826eb7050cd25809258ecb8eed19f3fed7c94ec344c925", func := "loop.example/g00677/laws.FnChunkFor", spec := "fnChunkFor", inPlace := ["internal/bytealg.Count", "internal/bytealg.IndexByte", "internal/bytealg.Index"], named := ["loop.example/g00677/impl.leadMarks", "internal/bytealg.MaxLen"], apart := false, laid := [("loop.example/g00677/impl.leadMarks", laid_loop_example_g00677_impl_leadMarks)] }
def FnChunkForSaid : Prop := fnChunkForRow.holds Tryd.pinned (OpenSpec.ofChange fnChunkForSpec)

/-- ITS FALSE NEIGHBOUR: 'it returns false'. Refute it at one input. -/
def fnChunkForWrong : ChangeSpec := { name := "fnChunkFor", vars := ["loop.example/g00677/impl.leadMarks"], fn := fun _ => fun
  | [d, g1] => { results := [.lit (.bool false)], args := [d], vars := [g1] }
  | _ => none }
def FnChunkForWrongFalsely : Prop := fnChunkForRow.holds Tryd.pinned (OpenSpec.ofChange fnChunkForWrong)

/-- 'laws.FnExactMeasOf': WHATEVER THE INPUT: true; the input reads as it did. -/
def fnExactMeasOfSpec : ChangeSpec := { name := "fnExactMeasOf", vars := ["loop.example/g00677/impl.leadMarks"], fn := fun _ => fun
  | [d, g1] => { results := [.lit (.bool true)], args := [d], vars := [g1] }
  | _ => none }
def fnExactMeasOfRow : OpenClaim := { program := "ytpgeanombiociaadoor", sum := "a32f512e06ec4a966b826eb7050cd25809258ecb8eed19f3fed7c94ec344c925", func := "loop.example/g00677/laws.FnExactMeasOf", spec := "fnExactMeasOf", inPlace := ["internal/bytealg.Count", "internal/bytealg.IndexByte", "internal/bytealg.Index"], named := ["loop.example/g00677/impl.leadMarks", "internal/bytealg.MaxLen"], apart := false, laid := [("loop.example/g00677/impl.leadMarks", laid_loop_example_g00677_impl_leadMarks)] }
def FnExactMeasOfSaid : Prop := fnExactMeasOfRow.holds Tryd.pinned (OpenSpec.ofChange fnExactMeasOfSpec)

/-- ITS FALSE NEIGHBOUR: 'it returns false'. Refute it at one input. -/
def fnExactMeasOfWrong : ChangeSpec := { name := "fnExactMeasOf", vars := ["loop.example/g00677/impl.leadMarks"], fn := fun _ => fun
  | [d, g1] => { results := [.lit (.bool false)], args := [d], vars := [g1] }
  | _ => none }
def FnExactMeasOfWrongFalsely : Prop := fnExactMeasOfRow.holds Tryd.pinned (OpenSpec.ofChange fnExactMeasOfWrong)

/-- 'laws.FnExactChunkOk': WHATEVER THE INPUT: true; the input reads as it did. -/
def fnExactChunkOkSpec : ChangeSpec := { name := "fnExactChunkOk", vars := ["loop.example/g00677/impl.leadMarks"], fn := fun _ => fun
  | [d, g1] => { results := [.lit (.bool true)], args := [d], vars := [g1] }
  | _ => none }
def fnExactChunkOkRow : OpenClaim := { program := "ytpgeanombiociaadoor", sum := "a32f512e06ec4a966b826eb7050cd25809258ecb8eed19f3fed7c94ec344c925", func := "loop.example/g00677/laws.FnExactChunkOk", spec := "fnExactChunkOk", inPlace := ["internal/bytealg.Count", "internal/bytealg.IndexByte", "internal/bytealg.Index"], named := ["loop.example/g00677/impl.leadMarks", "internal/bytealg.MaxLen"], apart := false, laid := [("loop.example/g00677/impl.leadMarks", laid_loop_example_g00677_impl_leadMarks)] }
def FnExactChunkOkSaid : Prop := fnExactChunkOkRow.holds Tryd.pinned (OpenSpec.ofChange fnExactChunkOkSpec)

/-- ITS FALSE NEIGHBOUR: 'it returns false'. Refute it at one input. -/
def fnExactChunkOkWrong : ChangeSpec := { name := "fnExactChunkOk", vars := ["loop.example/g00677/impl.leadMarks"], fn := fun _ => fun
  | [d, g1] => { results := [.lit (.bool false)], args := [d], vars := [g1] }
  | _ => none }
def FnExactChunkOkWrongFalsely : Prop := fnExactChunkOkRow.holds Tryd.pinned (OpenSpec.ofChange fnExactChunkOkWrong)

/-- 'laws.FnExactChunksOf': WHATEVER THE INPUT: true; the input reads as it did. -/
def fnExactChunksOfSpec : ChangeSpec := { name := "fnExactChunksOf", vars := ["loop.example/g00677/impl.leadMarks"], fn := fun _ => fun
  | [d, g1] => { results := [.lit (.bool true)], args := [d], vars := [g1] }
  | _ => none }
def fnExactChunksOfRow : OpenClaim := { program := "ytpgeanombiociaadoor", sum := "a32f512e06ec4a966b826eb7050cd25809258ecb8eed19f3fed7c94ec344c925", func := "loop.example/g00677/laws.FnExactChunksOf", spec := "fnExactChunksOf", named := ["loop.example/g00677/impl.leadMarks"], apart := false, laid := [("loop.example/g00677/impl.leadMarks", laid_loop_example_g00677_impl_leadMarks)] }
def FnExactChunksOfSaid : Prop := fnExactChunksOfRow.holds Tryd.pinned (OpenSpec.ofChange fnExactChunksOfSpec)

/-- ITS FALSE NEIGHBOUR: 'it returns false'. Refute it at one input. -/
def fnExactChunksOfWrong : ChangeSpec := { name := "fnExactChunksOf", vars := ["loop.example/g00677/impl.leadMarks"], fn := fun _ => fun
  | [d, g1] => { results := [.lit (.bool false)], args := [d], vars := [g1] }
  | _ => none }
def FnExactChunksOfWrongFalsely : Prop := fnExactChunksOfRow.holds Tryd.pinned (OpenSpec.ofChange fnExactChunksOfWrong)

/-- 'laws.FnExactChunksOk': WHATEVER THE INPUT: true; the input reads as it did. -/
def fnExactChunksOkSpec : ChangeSpec := { name := "fnExactChunksOk", vars := ["loop.example/g00677/impl.leadMarks"], fn := fun _ => fun
  | [d, g1] => { results := [.lit (.bool true)], args := [d], vars := [g1] }
  | _ => none }
def fnExactChunksOkRow : OpenClaim := { program := "ytpgeanombiociaadoor", sum := "a32f512e06ec4a966b826eb7050cd25809258ecb8eed19f3fed7c94ec344c925", func := "loop.example/g00677/laws.FnExactChunksOk", spec := "fnExactChunksOk", inPlace := ["internal/bytealg.Count", "internal/bytealg.IndexByte", "internal/bytealg.Index"], named := ["loop.example/g00677/impl.leadMarks", "internal/bytealg.MaxLen"], apart := false, laid := [("loop.example/g00677/impl.leadMarks", laid_loop_example_g00677_impl_leadMarks)] }
def FnExactChunksOkSaid : Prop := fnExactChunksOkRow.holds Tryd.pinned (OpenSpec.ofChange fnExactChunksOkSpec)

/-- ITS FALSE NEIGHBOUR: 'it returns false'. Refute it at one input. -/
def fnExactChunksOkWrong : ChangeSpec := { name := "fnExactChunksOk", vars := ["loop.example/g00677/impl.leadMarks"], fn := fun _ => fun
  | [d, g1] => { results := [.lit (.bool false)], args := [d], vars := [g1] }
  | _ => none }
def FnExactChunksOkWrongFalsely : Prop := fnExactChunksOkRow.holds Tryd.pinned (OpenSpec.ofChange fnExactChunksOkWrong)

/-- 'laws.FnExactChunksText': WHATEVER THE INPUT: true; the input reads as it did. -/
def fnExactChunksTextSpec : ChangeSpec := { name := "fnExactChunksText", vars := ["loop.example/g00677/impl.leadMarks"], fn := fun _ => fun
  | [d, g1] => { results := [.lit (.bool true)], args := [d], vars := [g1] }
  | _ => none }
def fnExactChunksTextRow : OpenClaim := { program := "ytpgeanombiociaadoor", sum := "a32f512e06ec4a966b826eb7050cd25809258ecb8eed19f3fed7c94ec344c925", func := "loop.example/g00677/laws.FnExactChunksText", spec := "fnExactChunksText", inPlace := ["internal/bytealg.Count", "internal/bytealg.IndexByte", "internal/bytealg.Index"], named := ["loop.example/g00677/impl.leadMarks", "internal/bytealg.MaxLen"], apart := false, laid := [("loop.example/g00677/impl.leadMarks", laid_loop_example_g00677_impl_leadMarks)] }
def FnExactChunksTextSaid : Prop := fnExactChunksTextRow.holds Tryd.pinned (OpenSpec.ofChange fnExactChunksTextSpec)

/-- ITS FALSE NEIGHBOUR: 'it returns false'. Refute it at one input. -/
def fnExactChunksTextWrong : ChangeSpec := { name := "fnExactChunksText", vars := ["loop.example/g00677/impl.leadMarks"], fn := fun _ => fun
  | [d, g1] => { results := [.lit (.bool false)], args := [d], vars := [g1] }
  | _ => none }
def FnExactChunksTextWrongFalsely : Prop := fnExactChunksTextRow.holds Tryd.pinned (OpenSpec.ofChange fnExactChunksTextWrong)

/-- 'laws.FnExactChunkFor': WHATEVER THE INPUT: true; the input reads as it did. -/
def fnExactChunkForSpec : ChangeSpec := { name := "fnExactChunkFor", vars := ["loop.example/g00677/impl.leadMarks"], fn := fun _ => fun
  | [d1, d2, g1] => { results := [.lit (.bool true)], args := [d1, d2], vars := [g1] }
  | _ => none }
def fnExactChunkForRow : OpenClaim := { program := "ytpgeanombiociaadoor", sum := "a32f512e06ec4a966b826eb7050cd25809258ecb8eed19f3fed7c94ec344c925", func := "loop.example/g00677/laws.FnExactChunkFor", spec := "fnExactChunkFor", inPlace := ["internal/bytealg.Count", "internal/bytealg.IndexByte", "internal/bytealg.Index"], named := ["loop.example/g00677/impl.leadMarks", "internal/bytealg.MaxLen"], apart := false, laid := [("loop.example/g00677/impl.leadMarks", laid_loop_example_g00677_impl_leadMarks)] }
def FnExactChunkForSaid : Prop := fnExactChunkForRow.holds Tryd.pinned (OpenSpec.ofChange fnExactChunkForSpec)

/-- ITS FALSE NEIGHBOUR: 'it returns false'. Refute it at one input. -/
def fnExactChunkForWrong : ChangeSpec := { name := "fnExactChunkFor", vars := ["loop.example/g00677/impl.leadMarks"], fn := fun _ => fun
  | [d1, d2, g1] => { results := [.lit (.bool false)], args := [d1, d2], vars := [g1] }
  | _ => none }
def FnExactChunkForWrongFalsely : Prop := fnExactChunkForRow.holds Tryd.pinned (OpenSpec.ofChange fnExactChunkForWrong)

/- THE SECOND FORM. 'bulk': how many values and letters a reading holds, each counted each time it is reached (what is shared counts as often as it is met; a slice's spare places count too). A statement '..UptoSaid' is the law's where the arguments, and the package variables that the reading takes, are together of bulk at most 1048576: NARROWER than '..Said'. Prove '..Said' where nothing that the law and all that it calls make is longer than what came in: it says more and counts as full. Else prove '..UptoSaid'. A law counts once. -/
mutual
def uptoBulk {H : Type} : DataW H → Nat
  | .lit (.string bytes) => bytes.length + 1
  | .lit _ => 1
  | .nil => 1
  | .ptr d => uptoBulk d + 1
  | .slice elems spare => uptoBulkAll elems + uptoBulkAll spare + 1
  | .agg parts => uptoBulkAll parts + 1
  | .iface _ d => uptoBulk d + 1
  | .map entries => uptoBulkEntries entries + 1
  | .held _ => 1
def uptoBulkAll {H : Type} : List (DataW H) → Nat
  | [] => 0
  | d :: r => uptoBulk d + uptoBulkAll r
def uptoBulkEntries {H : Type} : List (Lit × DataW H) → Nat
  | [] => 0
  | x :: r => uptoBulkEntry x + uptoBulkEntries r
def uptoBulkEntry {H : Type} : Lit × DataW H → Nat
  | (.string bytes, d) => bytes.length + uptoBulk d + 1
  | (_, d) => uptoBulk d + 1
 end
def uptoSmall : (H : Type) → List (DataW H) → Bool := fun _ ds => decide (uptoBulkAll ds ≤ 1048576)
def OpenSpec.upto (s : _root_.Go.ChangeSpec) : _root_.Go.OpenSpec := { _root_.Go.OpenSpec.ofChange s with cond := some uptoSmall }

/-- 'laws.FnRuneBack', WHERE WHAT IT READS IS OF BULK AT MOST 1048576: true; the input reads as it did. -/
def fnRuneBackUptoRow : OpenClaim := { program := "ytpgeanombiociaadoor", sum := "a32f512e06ec4a966b826eb7050cd25809258ecb8eed19f3fed7c94ec344c925", func := "loop.example/g00677/laws.FnRuneBack", spec := "fnRuneBack", named := ["loop.example/g00677/impl.leadMarks"], apart := false, laid := [("loop.example/g00677/impl.leadMarks", laid_loop_example_g00677_impl_leadMarks)], narrowed := true }
def FnRuneBackUptoSaid : Prop := fnRuneBackUptoRow.holds Tryd.pinned (OpenSpec.upto fnRuneBackSpec)

/-- 'laws.FnChunks', WHERE WHAT IT READS IS OF BULK AT MOST 1048576: true; the input reads as it did. -/
def fnChunksUptoRow : OpenClaim := { program := "ytpgeanombiociaadoor", sum := "a32f512e06ec4a966b826eb7050cd25809258ecb8eed19f3fed7c94ec344c925", func := "loop.example/g00677/laws.FnChunks", spec := "fnChunks", inPlace := ["internal/bytealg.Count", "internal/bytealg.IndexByte", "internal/bytealg.Index"], named := ["loop.example/g00677/impl.leadMarks", "internal/bytealg.MaxLen"], apart := false, laid := [("loop.example/g00677/impl.leadMarks", laid_loop_example_g00677_impl_leadMarks)], narrowed := true }
def FnChunksUptoSaid : Prop := fnChunksUptoRow.holds Tryd.pinned (OpenSpec.upto fnChunksSpec)

/-- 'laws.FnChunkFor', WHERE WHAT IT READS IS OF BULK AT MOST 1048576: true; the input reads as it did. -/
def fnChunkForUptoRow : OpenClaim := { program := "ytpgeanombiociaadoor", sum := "a32f512e06ec4a966b826eb7050cd25809258ecb8eed19f3fed7c94ec344c925", func := "loop.example/g00677/laws.FnChunkFor", spec := "fnChunkFor", inPlace := ["internal/bytealg.Count", "internal/bytealg.IndexByte", "internal/bytealg.Index"], named := ["loop.example/g00677/impl.leadMarks", "internal/bytealg.MaxLen"], apart := false, laid := [("loop.example/g00677/impl.leadMarks", laid_loop_example_g00677_impl_leadMarks)], narrowed := true }
def FnChunkForUptoSaid : Prop := fnChunkForUptoRow.holds Tryd.pinned (OpenSpec.upto fnChunkForSpec)

/-- 'laws.FnExactMeasOf', WHERE WHAT IT READS IS OF BULK AT MOST 1048576: true; the input reads as it did. -/
def fnExactMeasOfUptoRow : OpenClaim := { program := "ytpgeanombiociaadoor", sum := "a32f512e06ec4a966b826eb7050cd25809258ecb8eed19f3fed7c94ec344c925", func := "loop.example/g00677/laws.FnExactMeasOf", spec := "fnExactMeasOf", inPlace := ["internal/bytealg.Count", "internal/bytealg.IndexByte", "internal/bytealg.Index"], named := ["loop.example/g00677/impl.leadMarks", "internal/bytealg.MaxLen"], apart := false, laid := [("loop.example/g00677/impl.leadMarks", laid_loop_example_g00677_impl_leadMarks)], narrowed := true }
def FnExactMeasOfUptoSaid : Prop := fnExactMeasOfUptoRow.holds Tryd.pinned (OpenSpec.upto fnExactMeasOfSpec)

/-- 'laws.FnExactChunkOk', WHERE WHAT IT READS IS OF BULK AT MOST 1048576: true; the input reads as it did. -/
def fnExactChunkOkUptoRow : OpenClaim := { program := "ytpgeanombiociaadoor", sum := "a32f512e06ec4a966b826eb7050cd25809258ecb8eed19f3fed7c94ec344c925", func := "loop.example/g00677/laws.FnExactChunkOk", spec := "fnExactChunkOk", inPlace := ["internal/bytealg.Count", "internal/bytealg.IndexByte", "internal/bytealg.Index"], named := ["loop.example/g00677/impl.leadMarks", "internal/bytealg.MaxLen"], apart := false, laid := [("loop.example/g00677/impl.leadMarks", laid_loop_example_g00677_impl_leadMarks)], narrowed := true }
def FnExactChunkOkUptoSaid : Prop := fnExactChunkOkUptoRow.holds Tryd.pinned (OpenSpec.upto fnExactChunkOkSpec)

/-- 'laws.FnExactChunksOf', WHERE WHAT IT READS IS OF BULK AT MOST 1048576: true; the input reads as it did. -/
def fnExactChunksOfUptoRow : OpenClaim := { program := "ytpgeanombiociaadoor", sum := "a32f512e06ec4a966b826eb7050cd25809258ecb8eed19f3fed7c94ec344c925", func := "loop.example/g00677/laws.FnExactChunksOf", spec := "fnExactChunksOf", named := ["loop.example/g00677/impl.leadMarks"], apart := false, laid := [("loop.example/g00677/impl.leadMarks", laid_loop_example_g00677_impl_leadMarks)], narrowed := true }
def FnExactChunksOfUptoSaid : Prop := fnExactChunksOfUptoRow.holds Tryd.pinned (OpenSpec.upto fnExactChunksOfSpec)

/-- 'laws.FnExactChunksOk', WHERE WHAT IT READS IS OF BULK AT MOST 1048576: true; the input reads as it did. -/
def fnExactChunksOkUptoRow : OpenClaim := { program := "ytpgeanombiociaadoor", sum := "a32f512e06ec4a966b826eb7050cd25809258ecb8eed19f3fed7c94ec344c925", func := "loop.example/g00677/laws.FnExactChunksOk", spec := "fnExactChunksOk", inPlace := ["internal/bytealg.Count", "internal/bytealg.IndexByte", "internal/bytealg.Index"], named := ["loop.example/g00677/impl.leadMarks", "internal/bytealg.MaxLen"], apart := false, laid := [("loop.example/g00677/impl.leadMarks", laid_loop_example_g00677_impl_leadMarks)], narrowed := true }
def FnExactChunksOkUptoSaid : Prop := fnExactChunksOkUptoRow.holds Tryd.pinned (OpenSpec.upto fnExactChunksOkSpec)

/-- 'laws.FnExactChunksText', WHERE WHAT IT READS IS OF BULK AT MOST 1048576: true; the input reads as it did. -/
def fnExactChunksTextUptoRow : OpenClaim := { program := "ytpgeanombiociaadoor", sum := "a32f512e06ec4a966b826eb7050cd25809258ecb8eed19f3fed7c94ec344c925", func := "loop.example/g00677/laws.FnExactChunksText", spec := "fnExactChunksText", inPlace := ["internal/bytealg.Count", "internal/bytealg.IndexByte", "internal/bytealg.Index"], named := ["loop.example/g00677/impl.leadMarks", "internal/bytealg.MaxLen"], apart := false, laid := [("loop.example/g00677/impl.leadMarks", laid_loop_example_g00677_impl_leadMarks)], narrowed := true }
def FnExactChunksTextUptoSaid : Prop := fnExactChunksTextUptoRow.holds Tryd.pinned (OpenSpec.upto fnExactChunksTextSpec)

/-- 'laws.FnExactChunkFor', WHERE WHAT IT READS IS OF BULK AT MOST 1048576: true; the input reads as it did. -/
def fnExactChunkForUptoRow : OpenClaim := { program := "ytpgeanombiociaadoor", sum := "a32f512e06ec4a966b826eb7050cd25809258ecb8eed19f3fed7c94ec344c925", func := "loop.example/g00677/laws.FnExactChunkFor", spec := "fnExactChunkFor", inPlace := ["internal/bytealg.Count", "internal/bytealg.IndexByte", "internal/bytealg.Index"], named := ["loop.example/g00677/impl.leadMarks", "internal/bytealg.MaxLen"], apart := false, laid := [("loop.example/g00677/impl.leadMarks", laid_loop_example_g00677_impl_leadMarks)], narrowed := true }
def FnExactChunkForUptoSaid : Prop := fnExactChunkForUptoRow.holds Tryd.pinned (OpenSpec.upto fnExactChunkForSpec)

end Rows
end Go.Proofs.YtpgeanombiociaaDoor
