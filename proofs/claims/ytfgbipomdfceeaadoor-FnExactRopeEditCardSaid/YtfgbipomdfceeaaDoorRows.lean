/-
  NARROWER THAN 'FOR EVERY INPUT', by the rows' own cells (each row's printed sentence says how): FnRopeText: laid · FnRopeSplit: laid · FnRopeFind: laid · FnLines: laid · FnExactRopeEdit: laid · FnExactRopeSlice: laid · FnExactRopeSplit: laid.
  DERIVED. THE GIVEN ROWS OF THIS SEAT. 7 by the template 'for every input the law returns true; each argument reads behind the call as it read before'; 0 by the template 'total and deterministic' (their statements: YtfgbipomdfceeaaDoorTotals.lean).
  GIVEN WITH THE SEED: the statements are not yours to turn. If you find one false, say at which input.
  Laid BY PROGRAM, IN A SANDBOX (cutbox-rows.mjs): the forced cells as the released guide's own fill.sh prints them over the translation 08e641387272d0ab… (all of the seat's roots in one cut). By AI agents, Wed Nov 11 2026. No macro, syntax, notation, axiom, sorry.
-/
import Derived.Test.YtfgbipomdfceeaaDoorChecked
import GoSem.PinnedTables
import GoSem.Claim
import GoSem.ClaimJoined
import GoSem.ClaimMapViews
import Derived.JoinedTies
import Derived.KernelRfl
namespace Go.Proofs.YtfgbipomdfceeaaDoor
/- THE CELL 'sum', in the pinned program and in every row, IS THE sha256 OF THE DUMP (.gsa) THAT YtfgbipomdfceeaaDoorProg.lean LOADS. Nothing in Lean hashes anything: it is a label: what it is worth is what the hold of that sum in a sandbox is worth. -/
noncomputable def Tryd.pinned : Pinned := { name := "ytfgbipomdfceeaadoor", sum := "08e641387272d0abfad8d836153ea526a8680afb8856bb727337bbf7868c3e68", checked := Tryd.checked }
namespace Rows
def none {H : Type} : Left H := { results := [], args := [] }

/- WHAT THE LISTED PACKAGE-LEVEL VARIABLES READ AS WHEN THE CALL BEGINS. Each datum BY PROGRAM (the guide's laid-datum.mjs) off the statement by which the dump's own 'gosem.cut.vars' lays the variable. In a bare row this is a premise. The card (YtfgbipomdfceeaaDoorCards.lean) ties it to the program's text. -/
def laid_loop_example_g00677_impl_leadMarks {H : Type} : DataW H := .agg [.lit (.int .u8 0), .lit (.int .u8 0), .lit (.int .u8 192), .lit (.int .u8 224), .lit (.int .u8 240)]
def laid_unicode_utf8_acceptRanges {H : Type} : DataW H := .agg [.agg [.lit (.int .u8 128), .lit (.int .u8 191)], .agg [.lit (.int .u8 160), .lit (.int .u8 191)], .agg [.lit (.int .u8 128), .lit (.int .u8 159)], .agg [.lit (.int .u8 144), .lit (.int .u8 191)], .agg [.lit (.int .u8 128), .lit (.int .u8 143)], .agg [.lit (.int .u8 0), .lit (.int .u8 0)], .agg [.lit (.int .u8 0), .lit (.int .u8 0)], .agg [.lit (.int .u8 0), .lit (.int .u8 0)], .agg [.lit (.int .u8 0), .lit (.int .u8 0)], .agg [.lit (.int .u8 0), .lit (.int .u8 0)], .agg [.lit (.int .u8 0), .lit (.int .u8 0)], .agg [.lit (.int .u8 0), .lit (.int .u8 0)], .agg [.lit (.int .u8 0), .lit (.int .u8 0)], .agg [.lit (.int .u8 0), .lit (.int .u8 0)], .agg [.lit (.int .u8 0), .lit (.int .u8 0)], .agg [.lit (.int .u8 0), .lit (.int .u8 0)]]
/-- One of Go's own tables, pinned by name: the form's constant. -/
def laid_unicode_utf8_first : DataW Unit := Go.Pinned.utf8First

/-- 'laws.FnRopeText': WHATEVER THE INPUT: true; the input reads as it did. -/
def fnRopeTextSpec : ChangeSpec := { name := "fnRopeText", vars := ["loop.example/g00677/impl.leadMarks"], fn := fun _ => fun
  | [d, g1] => { results := [.lit (.bool true)], args := [d], vars := [g1] }
  | _ => none }
def fnRopeTextRow : OpenClaim := { program := "ytfgbipomdfceeaadoor", sum := "08e641387272d0abfad8d836153ea526a8680afb8856bb727337bbf7868c3e68", func := "loop.example/g00677/laws.FnRopeText", spec := "fnRopeText", inPlace := ["internal/bytealg.Count", "internal/bytealg.IndexByte", "internal/bytealg.Index"], unfollowed := true, recurses := true, named := ["loop.example/g00677/impl.leadMarks", "internal/bytealg.MaxLen"], apart := false, laid := [("loop.example/g00677/impl.leadMarks", laid_loop_example_g00677_impl_leadMarks)] }
def FnRopeTextSaid : Prop := fnRopeTextRow.holds Tryd.pinned (OpenSpec.ofChange fnRopeTextSpec)

/-- ITS FALSE NEIGHBOUR: 'it returns false'. Refute it at one input. -/
def fnRopeTextWrong : ChangeSpec := { name := "fnRopeText", vars := ["loop.example/g00677/impl.leadMarks"], fn := fun _ => fun
  | [d, g1] => { results := [.lit (.bool false)], args := [d], vars := [g1] }
  | _ => none }
def FnRopeTextWrongFalsely : Prop := fnRopeTextRow.holds Tryd.pinned (OpenSpec.ofChange fnRopeTextWrong)

/-- 'laws.FnRopeSplit': WHATEVER THE INPUT: true; the input reads as it did. -/
def fnRopeSplitSpec : ChangeSpec := { name := "fnRopeSplit", vars := ["loop.example/g00677/impl.leadMarks"], fn := fun _ => fun
  | [d, g1] => { results := [.lit (.bool true)], args := [d], vars := [g1] }
  | _ => none }
def fnRopeSplitRow : OpenClaim := { program := "ytfgbipomdfceeaadoor", sum := "08e641387272d0abfad8d836153ea526a8680afb8856bb727337bbf7868c3e68", func := "loop.example/g00677/laws.FnRopeSplit", spec := "fnRopeSplit", inPlace := ["internal/bytealg.Count", "internal/bytealg.IndexByte", "internal/bytealg.Index"], unfollowed := true, recurses := true, named := ["loop.example/g00677/impl.leadMarks", "internal/bytealg.MaxLen"], apart := false, laid := [("loop.example/g00677/impl.leadMarks", laid_loop_example_g00677_impl_leadMarks)] }
def FnRopeSplitSaid : Prop := fnRopeSplitRow.holds Tryd.pinned (OpenSpec.ofChange fnRopeSplitSpec)

/-- ITS FALSE NEIGHBOUR: 'it returns false'. Refute it at one input. -/
def fnRopeSplitWrong : ChangeSpec := { name := "fnRopeSplit", vars := ["loop.example/g00677/impl.leadMarks"], fn := fun _ => fun
  | [d, g1] => { results := [.lit (.bool false)], args := [d], vars := [g1] }
  | _ => none }
def FnRopeSplitWrongFalsely : Prop := fnRopeSplitRow.holds Tryd.pinned (OpenSpec.ofChange fnRopeSplitWrong)

/-- 'laws.FnRopeFind': WHATEVER THE INPUT: true; the input reads as it did. -/
def fnRopeFindSpec : ChangeSpec := { name := "fnRopeFind", vars := ["loop.example/g00677/impl.leadMarks"], fn := fun _ => fun
  | [d, g1] => { results := [.lit (.bool true)], args := [d], vars := [g1] }
  | _ => none }
def fnRopeFindRow : OpenClaim := { program := "ytfgbipomdfceeaadoor", sum := "08e641387272d0abfad8d836153ea526a8680afb8856bb727337bbf7868c3e68", func := "loop.example/g00677/laws.FnRopeFind", spec := "fnRopeFind", inPlace := ["internal/bytealg.Count", "internal/bytealg.IndexByte", "internal/bytealg.Index"], unfollowed := true, recurses := true, named := ["loop.example/g00677/impl.leadMarks", "internal/bytealg.MaxLen"], apart := false, laid := [("loop.example/g00677/impl.leadMarks", laid_loop_example_g00677_impl_leadMarks)] }
def FnRopeFindSaid : Prop := fnRopeFindRow.holds Tryd.pinned (OpenSpec.ofChange fnRopeFindSpec)

/-- ITS FALSE NEIGHBOUR: 'it returns false'. Refute it at one input. -/
def fnRopeFindWrong : ChangeSpec := { name := "fnRopeFind", vars := ["loop.example/g00677/impl.leadMarks"], fn := fun _ => fun
  | [d, g1] => { results := [.lit (.bool false)], args := [d], vars := [g1] }
  | _ => none }
def FnRopeFindWrongFalsely : Prop := fnRopeFindRow.holds Tryd.pinned (OpenSpec.ofChange fnRopeFindWrong)

/-- 'laws.FnLines': WHATEVER THE INPUT: true; the input reads as it did. -/
def fnLinesSpec : ChangeSpec := { name := "fnLines", vars := ["loop.example/g00677/impl.leadMarks"], fn := fun _ => fun
  | [d, g1] => { results := [.lit (.bool true)], args := [d], vars := [g1] }
  | _ => none }
def fnLinesRow : OpenClaim := { program := "ytfgbipomdfceeaadoor", sum := "08e641387272d0abfad8d836153ea526a8680afb8856bb727337bbf7868c3e68", func := "loop.example/g00677/laws.FnLines", spec := "fnLines", inPlace := ["internal/bytealg.Count", "internal/bytealg.IndexByte", "internal/bytealg.Index"], named := ["loop.example/g00677/impl.leadMarks", "internal/bytealg.MaxLen", "unicode/utf8.first", "unicode/utf8.acceptRanges"], apart := false, laid := [("unicode/utf8.acceptRanges", laid_unicode_utf8_acceptRanges), ("loop.example/g00677/impl.leadMarks", laid_loop_example_g00677_impl_leadMarks), ("unicode/utf8.first", laid_unicode_utf8_first)] }
def FnLinesSaid : Prop := fnLinesRow.holds Tryd.pinned (OpenSpec.ofChange fnLinesSpec)

/-- ITS FALSE NEIGHBOUR: 'it returns false'. Refute it at one input. -/
def fnLinesWrong : ChangeSpec := { name := "fnLines", vars := ["loop.example/g00677/impl.leadMarks"], fn := fun _ => fun
  | [d, g1] => { results := [.lit (.bool false)], args := [d], vars := [g1] }
  | _ => none }
def FnLinesWrongFalsely : Prop := fnLinesRow.holds Tryd.pinned (OpenSpec.ofChange fnLinesWrong)

/-- 'laws.FnExactRopeEdit': WHATEVER THE INPUT: true; the input reads as it did. -/
def fnExactRopeEditSpec : ChangeSpec := { name := "fnExactRopeEdit", vars := ["loop.example/g00677/impl.leadMarks"], fn := fun _ => fun
  | [d1, d2, d3, d4, g1] => { results := [.lit (.bool true)], args := [d1, d2, d3, d4], vars := [g1] }
  | _ => none }
def fnExactRopeEditRow : OpenClaim := { program := "ytfgbipomdfceeaadoor", sum := "08e641387272d0abfad8d836153ea526a8680afb8856bb727337bbf7868c3e68", func := "loop.example/g00677/laws.FnExactRopeEdit", spec := "fnExactRopeEdit", inPlace := ["internal/bytealg.Count", "internal/bytealg.IndexByte", "internal/bytealg.Index"], unfollowed := true, recurses := true, named := ["loop.example/g00677/impl.leadMarks", "internal/bytealg.MaxLen"], apart := false, laid := [("loop.example/g00677/impl.leadMarks", laid_loop_example_g00677_impl_leadMarks)] }
def FnExactRopeEditSaid : Prop := fnExactRopeEditRow.holds Tryd.pinned (OpenSpec.ofChange fnExactRopeEditSpec)

/-- ITS FALSE NEIGHBOUR: 'it returns false'. Refute it at one input. -/
def fnExactRopeEditWrong : ChangeSpec := { name := "fnExactRopeEdit", vars := ["loop.example/g00677/impl.leadMarks"], fn := fun _ => fun
  | [d1, d2, d3, d4, g1] => { results := [.lit (.bool false)], args := [d1, d2, d3, d4], vars := [g1] }
  | _ => none }
def FnExactRopeEditWrongFalsely : Prop := fnExactRopeEditRow.holds Tryd.pinned (OpenSpec.ofChange fnExactRopeEditWrong)

/-- 'laws.FnExactRopeSlice': WHATEVER THE INPUT: true; the input reads as it did. -/
def fnExactRopeSliceSpec : ChangeSpec := { name := "fnExactRopeSlice", vars := ["loop.example/g00677/impl.leadMarks"], fn := fun _ => fun
  | [d1, d2, d3, g1] => { results := [.lit (.bool true)], args := [d1, d2, d3], vars := [g1] }
  | _ => none }
def fnExactRopeSliceRow : OpenClaim := { program := "ytfgbipomdfceeaadoor", sum := "08e641387272d0abfad8d836153ea526a8680afb8856bb727337bbf7868c3e68", func := "loop.example/g00677/laws.FnExactRopeSlice", spec := "fnExactRopeSlice", inPlace := ["internal/bytealg.Count", "internal/bytealg.IndexByte", "internal/bytealg.Index"], unfollowed := true, recurses := true, named := ["loop.example/g00677/impl.leadMarks", "internal/bytealg.MaxLen"], apart := false, laid := [("loop.example/g00677/impl.leadMarks", laid_loop_example_g00677_impl_leadMarks)] }
def FnExactRopeSliceSaid : Prop := fnExactRopeSliceRow.holds Tryd.pinned (OpenSpec.ofChange fnExactRopeSliceSpec)

/-- ITS FALSE NEIGHBOUR: 'it returns false'. Refute it at one input. -/
def fnExactRopeSliceWrong : ChangeSpec := { name := "fnExactRopeSlice", vars := ["loop.example/g00677/impl.leadMarks"], fn := fun _ => fun
  | [d1, d2, d3, g1] => { results := [.lit (.bool false)], args := [d1, d2, d3], vars := [g1] }
  | _ => none }
def FnExactRopeSliceWrongFalsely : Prop := fnExactRopeSliceRow.holds Tryd.pinned (OpenSpec.ofChange fnExactRopeSliceWrong)

/-- 'laws.FnExactRopeSplit': WHATEVER THE INPUT: true; the input reads as it did. -/
def fnExactRopeSplitSpec : ChangeSpec := { name := "fnExactRopeSplit", vars := ["loop.example/g00677/impl.leadMarks"], fn := fun _ => fun
  | [d1, d2, g1] => { results := [.lit (.bool true)], args := [d1, d2], vars := [g1] }
  | _ => none }
def fnExactRopeSplitRow : OpenClaim := { program := "ytfgbipomdfceeaadoor", sum := "08e641387272d0abfad8d836153ea526a8680afb8856bb727337bbf7868c3e68", func := "loop.example/g00677/laws.FnExactRopeSplit", spec := "fnExactRopeSplit", inPlace := ["internal/bytealg.Count", "internal/bytealg.IndexByte", "internal/bytealg.Index"], unfollowed := true, recurses := true, named := ["loop.example/g00677/impl.leadMarks", "internal/bytealg.MaxLen"], apart := false, laid := [("loop.example/g00677/impl.leadMarks", laid_loop_example_g00677_impl_leadMarks)] }
def FnExactRopeSplitSaid : Prop := fnExactRopeSplitRow.holds Tryd.pinned (OpenSpec.ofChange fnExactRopeSplitSpec)

/-- ITS FALSE NEIGHBOUR: 'it returns false'. Refute it at one input. -/
def fnExactRopeSplitWrong : ChangeSpec := { name := "fnExactRopeSplit", vars := ["loop.example/g00677/impl.leadMarks"], fn := fun _ => fun
  | [d1, d2, g1] => { results := [.lit (.bool false)], args := [d1, d2], vars := [g1] }
  | _ => none }
def FnExactRopeSplitWrongFalsely : Prop := fnExactRopeSplitRow.holds Tryd.pinned (OpenSpec.ofChange fnExactRopeSplitWrong)

/- THE SECOND FORM. 'bulk': how many values and letters a reading holds, each counted each time it is reached (what is shared counts as often as it is met; a slice's spare places count too). A statement '..UptoSaid' is the law's where the arguments, and the package variables that the reading takes, are together of bulk at most 1048576: NARROWER than '..Said'. Prove '..Said' where nothing that the law and all that it calls make is longer than what came in: it says more and counts as full. Else prove '..UptoSaid'. A law counts once. -/
mutual
def uptoBulk {H : Type} : DataW H → Nat
  | .lit (.string bytes) => bytes.length + 1
  | .lit _ => 1
  | .nil => 1
  | .ptr d => uptoBulk d + 1
  | .slice elems spare => uptoBulkAll elems + uptoBulkAll spare + 1
  | .agg parts => uptoBulkAll parts + 1
  | .iface _ d => uptoBulk d + 1
  | .map entries => uptoBulkEntries entries + 1
  | .held _ => 1
def uptoBulkAll {H : Type} : List (DataW H) → Nat
  | [] => 0
  | d :: r => uptoBulk d + uptoBulkAll r
def uptoBulkEntries {H : Type} : List (Lit × DataW H) → Nat
  | [] => 0
  | x :: r => uptoBulkEntry x + uptoBulkEntries r
def uptoBulkEntry {H : Type} : Lit × DataW H → Nat
  | (.string bytes, d) => bytes.length + uptoBulk d + 1
  | (_, d) => uptoBulk d + 1
 end
def uptoSmall : (H : Type) → List (DataW H) → Bool := fun _ ds => decide (uptoBulkAll ds ≤ 1048576)
def OpenSpec.upto (s : _root_.Go.ChangeSpec) : _root_.Go.OpenSpec := { _root_.Go.OpenSpec.ofChange s with cond := some uptoSmall }

/-- 'laws.FnRopeText', WHERE WHAT IT READS IS OF BULK AT MOST 1048576: true; the input reads as it did. -/
def fnRopeTextUptoRow : OpenClaim := { program := "ytfgbipomdfceeaadoor", sum := "08e641387272d0abfad8d836153ea526a8680afb8856bb727337bbf7868c3e68", func := "loop.example/g00677/laws.FnRopeText", spec := "fnRopeText", inPlace := ["internal/bytealg.Count", "internal/bytealg.IndexByte", "internal/bytealg.Index"], unfollowed := true, recurses := true, named := ["loop.example/g00677/impl.leadMarks", "internal/bytealg.MaxLen"], apart := false, laid := [("loop.example/g00677/impl.leadMarks", laid_loop_example_g00677_impl_leadMarks)], narrowed := true }
def FnRopeTextUptoSaid : Prop := fnRopeTextUptoRow.holds Tryd.pinned (OpenSpec.upto fnRopeTextSpec)

/-- 'laws.FnRopeSplit', WHERE WHAT IT READS IS OF BULK AT MOST 1048576: true; the input reads as it did. -/
def fnRopeSplitUptoRow : OpenClaim := { program := "ytfgbipomdfceeaadoor", sum := "08e641387272d0abfad8d836153ea526a8680afb8856bb727337bbf7868c3e68", func := "loop.example/g00677/laws.FnRopeSplit", spec := "fnRopeSplit", inPlace := ["internal/bytealg.Count", "internal/bytealg.IndexByte", "internal/bytealg.Index"], unfollowed := true, recurses := true, named := ["loop.example/g00677/impl.leadMarks", "internal/bytealg.MaxLen"], apart := false, laid := [("loop.example/g00677/impl.leadMarks", laid_loop_example_g00677_impl_leadMarks)], narrowed := true }
def FnRopeSplitUptoSaid : Prop := fnRopeSplitUptoRow.holds Tryd.pinned (OpenSpec.upto fnRopeSplitSpec)

/-- 'laws.FnRopeFind', WHERE WHAT IT READS IS OF BULK AT MOST 1048576: true; the input reads as it did. -/
def fnRopeFindUptoRow : OpenClaim := { program := "ytfgbipomdfceeaadoor", sum := "08e641387272d0abfad8d836153ea526a8680afb8856bb727337bbf7868c3e68", func := "loop.example/g00677/laws.FnRopeFind", spec := "fnRopeFind", inPlace := ["internal/bytealg.Count", "internal/bytealg.IndexByte", "internal/bytealg.Index"], unfollowed := true, recurses := true, named := ["loop.example/g00677/impl.leadMarks", "internal/bytealg.MaxLen"], apart := false, laid := [("loop.example/g00677/impl.leadMarks", laid_loop_example_g00677_impl_leadMarks)], narrowed := true }
def FnRopeFindUptoSaid : Prop := fnRopeFindUptoRow.holds Tryd.pinned (OpenSpec.upto fnRopeFindSpec)

/-- 'laws.FnLines', WHERE WHAT IT READS IS OF BULK AT MOST 1048576: true; the input reads as it did. -/
def fnLinesUptoRow : OpenClaim := { program := "ytfgbipomdfceeaadoor", sum := "08e641387272d0abfad8d836153ea526a8680afb8856bb727337bbf7868c3e68", func := "loop.example/g00677/laws.FnLines", spec := "fnLines", inPlace := ["internal/bytealg.Count", "internal/bytealg.IndexByte", "internal/bytealg.Index"], named := ["loop.example/g00677/impl.leadMarks", "internal/bytealg.MaxLen", "unicode/utf8.first", "unicode/utf8.acceptRanges"], apart := false, laid := [("unicode/utf8.acceptRanges", laid_unicode_utf8_acceptRanges), ("loop.example/g00677/impl.leadMarks", laid_loop_example_g00677_impl_leadMarks), ("unicode/utf8.first", laid_unicode_utf8_first)], narrowed := true }
def FnLinesUptoSaid : Prop := fnLinesUptoRow.holds Tryd.pinned (OpenSpec.upto fnLinesSpec)

/-- 'laws.FnExactRopeEdit', WHERE WHAT IT READS IS OF BULK AT MOST 1048576: true; the input reads as it did. -/
def fnExactRopeEditUptoRow : OpenClaim := { program := "ytfgbipomdfceeaadoor", sum := "08e641387272d0abfad8d836153ea526a8680afb8856bb727337bbf7868c3e68", func := "loop.example/g00677/laws.FnExactRopeEdit", spec := "fnExactRopeEdit", inPlace := ["internal/bytealg.Count", "internal/bytealg.IndexByte", "internal/bytealg.Index"], unfollowed := true, recurses := true, named := ["loop.example/g00677/impl.leadMarks", "internal/bytealg.MaxLen"], apart := false, laid := [("loop.example/g00677/impl.leadMarks", laid_loop_example_g00677_impl_leadMarks)], narrowed := true }
def FnExactRopeEditUptoSaid : Prop := fnExactRopeEditUptoRow.holds Tryd.pinned (OpenSpec.upto fnExactRopeEditSpec)

/-- 'laws.FnExactRopeSlice', WHERE WHAT IT READS IS OF BULK AT MOST 1048576: true; the input reads as it did. -/
def fnExactRopeSliceUptoRow : OpenClaim := { program := "ytfgbipomdfceeaadoor", sum := "08e641387272d0abfad8d836153ea526a8680afb8856bb727337bbf7868c3e68", func := "loop.example/g00677/laws.FnExactRopeSlice", spec := "fnExactRopeSlice", inPlace := ["internal/bytealg.Count", "internal/bytealg.IndexByte", "internal/bytealg.Index"], unfollowed := true, recurses := true, named := ["loop.example/g00677/impl.leadMarks", "internal/bytealg.MaxLen"], apart := false, laid := [("loop.example/g00677/impl.leadMarks", laid_loop_example_g00677_impl_leadMarks)], narrowed := true }
def FnExactRopeSliceUptoSaid : Prop := fnExactRopeSliceUptoRow.holds Tryd.pinned (OpenSpec.upto fnExactRopeSliceSpec)

/-- 'laws.FnExactRopeSplit', WHERE WHAT IT READS IS OF BULK AT MOST 1048576: true; the input reads as it did. -/
def fnExactRopeSplitUptoRow : OpenClaim := { program := "ytfgbipomdfceeaadoor", sum := "08e641387272d0abfad8d836153ea526a8680afb8856bb727337bbf7868c3e68", func := "loop.example/g00677/laws.FnExactRopeSplit", spec := "fnExactRopeSplit", inPlace := ["internal/bytealg.Count", "internal/bytealg.IndexByte", "internal/bytealg.Index"], unfollowed := true, recurses := true, named := ["loop.example/g00677/impl.leadMarks", "internal/bytealg.MaxLen"], apart := false, laid := [("loop.example/g00677/impl.leadMarks", laid_loop_example_g00677_impl_leadMarks)], narrowed := true }
def FnExactRopeSplitUptoSaid : Prop := fnExactRopeSplitUptoRow.holds Tryd.pinned (OpenSpec.upto fnExactRopeSplitSpec)

end Rows
end Go.Proofs.YtfgbipomdfceeaaDoor
