/-
  NARROWER THAN 'FOR EVERY INPUT', by the rows' own cells (each row's printed sentence says how): FnExactRopeOk: laid · FnExactRopeOf: laid · FnExactRopeText: laid · FnExactRopeMeas: laid · FnExactRopeEdit: laid · FnExactRopeSlice: laid · FnExactRopeSplit: laid · FnExactRopeJoin: laid · FnExactRopeFind: laid · FnExactRopeFindBack: laid · FnExactRopeLine: laid · FnExactRopePlace: laid.
  DERIVED. THE GIVEN ROWS OF THIS SEAT. 12 by the template 'for every input the law returns true; each argument reads behind the call as it read before'; 0 by the template 'total and deterministic' (their statements: YtpipkmnmdipeeaaDoorTotals.lean).
  GIVEN WITH THE SEED: the statements are not yours to turn. If you find one false, say at which input.
  Laid BY PROGRAM, IN A SANDBOX (cutbox-rows.mjs): the forced cells as the released guide's own fill.sh prints them over the translation 5b20f711ea2a1b80… (all of the seat's roots in one cut). By AI agents, Wed Nov 11 2026. No macro, syntax, notation, axiom, sorry.
-/
import Derived.Test.YtpipkmnmdipeeaaDoorChecked
import GoSem.PinnedTables
import GoSem.Claim
import GoSem.ClaimJoined
import GoSem.ClaimMapViews
import Derived.JoinedTies
import Derived.KernelRfl
namespace Go.Proofs.YtpipkmnmdipeeaaDoor
/- THE CELL 'sum', in the pinned program and in every row, IS THE sha256 OF THE DUMP (.gsa) THAT YtpipkmnmdipeeaaDoorProg.lean LOADS. Nothing in Lean hashes anything: it is a label: what it is worth is what the hold of that sum in a sandbox is worth. -/
noncomputable def Tryd.pinned : Pinned := { name := "ytpipkmnmdipeeaadoor", sum := "5b20f711ea2a1b8042bbc23b380580e066591c013b1ddb3bbb2bc33badb17d28", checked := Tryd.checked }
namespace Rows
def none {H : Type} : Left H := { results := [], args := [] }

/- WHAT THE LISTED PACKAGE-LEVEL VARIABLES READ AS WHEN THE CALL BEGINS. Each datum BY PROGRAM (the guide's laid-datum.mjs) off the statement by which the dump's own 'gosem.cut.vars' lays the variable. In a bare row this is a premise. The card (YtpipkmnmdipeeaaDoorCards.lean) ties it to the program's text. -/
def laid_loop_example_g00677_impl_leadMarks {H : Type} : DataW H := .agg [.lit (.int .u8 0), .lit (.int .u8 0), .lit (.int .u8 192), .lit (.int .u8 224), .lit (.int .u8 240)]
def laid_unicode_utf8_acceptRanges {H : Type} : DataW H := .agg [.agg [.lit (.int .u8 128), .lit (.int .u8 191)], .agg [.lit (.int .u8 160), .lit (.int .u8 191)], .agg [.lit (.int .u8 128), .lit (.int .u8 159)], .agg [.lit (.int .u8 144), .lit (.int .u8 191)], .agg [.lit (.int .u8 128), .lit (.int .u8 143)], .agg [.lit (.int .u8 0), .lit (.int .u8 0)], .agg [.lit (.int .u8 0), .lit (.int .u8 0)], .agg [.lit (.int .u8 0), .lit (.int .u8 0)], .agg [.lit (.int .u8 0), .lit (.int .u8 0)], .agg [.lit (.int .u8 0), .lit (.int .u8 0)], .agg [.lit (.int .u8 0), .lit (.int .u8 0)], .agg [.lit (.int .u8 0), .lit (.int .u8 0)], .agg [.lit (.int .u8 0), .lit (.int .u8 0)], .agg [.lit (.int .u8 0), .lit (.int .u8 0)], .agg [.lit (.int .u8 0), .lit (.int .u8 0)], .agg [.lit (.int .u8 0), .lit (.int .u8 0)]]
/-- One of Go's own tables, pinned by name: the form's constant. -/
def laid_unicode_utf8_first : DataW Unit := Go.Pinned.utf8First

/-- 'laws.FnExactRopeOk': WHATEVER THE INPUT: true; the input reads as it did. -/
def fnExactRopeOkSpec : ChangeSpec := { name := "fnExactRopeOk", vars := ["loop.example/g00677/impl.leadMarks"], fn := fun _ => fun
  | [d, g1] => { results := [.lit (.bool true)], args := [d], vars := [g1] }
  | _ => none }
def fnExactRopeOkRow : OpenClaim := { program := "ytpipkmnmdipeeaadoor", sum := "5b20f711ea2a1b8042bbc23b380580e066591c013b1ddb3bbb2bc33badb17d28", func := "loop.example/g00677/laws.FnExactRopeOk", spec := "fnExactRopeOk", inPlace := ["internal/bytealg.Count", "internal/bytealg.IndexByte", "internal/bytealg.Index"], named := ["loop.example/g00677/impl.leadMarks", "internal/bytealg.MaxLen"], apart := false, laid := [("loop.example/g00677/impl.leadMarks", laid_loop_example_g00677_impl_leadMarks)] }
def FnExactRopeOkSaid : Prop := fnExactRopeOkRow.holds Tryd.pinned (OpenSpec.ofChange fnExactRopeOkSpec)

/-- ITS FALSE NEIGHBOUR: 'it returns false'. Refute it at one input. -/
def fnExactRopeOkWrong : ChangeSpec := { name := "fnExactRopeOk", vars := ["loop.example/g00677/impl.leadMarks"], fn := fun _ => fun
  | [d, g1] => { results := [.lit (.bool false)], args := [d], vars := [g1] }
  | _ => none }
def FnExactRopeOkWrongFalsely : Prop := fnExactRopeOkRow.holds Tryd.pinned (OpenSpec.ofChange fnExactRopeOkWrong)

/-- 'laws.FnExactRopeOf': WHATEVER THE INPUT: true; the input reads as it did. -/
def fnExactRopeOfSpec : ChangeSpec := { name := "fnExactRopeOf", vars := ["loop.example/g00677/impl.leadMarks"], fn := fun _ => fun
  | [d, g1] => { results := [.lit (.bool true)], args := [d], vars := [g1] }
  | _ => none }
def fnExactRopeOfRow : OpenClaim := { program := "ytpipkmnmdipeeaadoor", sum := "5b20f711ea2a1b8042bbc23b380580e066591c013b1ddb3bbb2bc33badb17d28", func := "loop.example/g00677/laws.FnExactRopeOf", spec := "fnExactRopeOf", named := ["loop.example/g00677/impl.leadMarks"], apart := false, laid := [("loop.example/g00677/impl.leadMarks", laid_loop_example_g00677_impl_leadMarks)] }
def FnExactRopeOfSaid : Prop := fnExactRopeOfRow.holds Tryd.pinned (OpenSpec.ofChange fnExactRopeOfSpec)

/-- ITS FALSE NEIGHBOUR: 'it returns false'. Refute it at one input. -/
def fnExactRopeOfWrong : ChangeSpec := { name := "fnExactRopeOf", vars := ["loop.example/g00677/impl.leadMarks"], fn := fun _ => fun
  | [d, g1] => { results := [.lit (.bool false)], args := [d], vars := [g1] }
  | _ => none }
def FnExactRopeOfWrongFalsely : Prop := fnExactRopeOfRow.holds Tryd.pinned (OpenSpec.ofChange fnExactRopeOfWrong)

/-- 'laws.FnExactRopeText': WHATEVER THE INPUT: true; the input reads as it did. -/
def fnExactRopeTextSpec : ChangeSpec := { name := "fnExactRopeText", vars := ["loop.example/g00677/impl.leadMarks"], fn := fun _ => fun
  | [d, g1] => { results := [.lit (.bool true)], args := [d], vars := [g1] }
  | _ => none }
def fnExactRopeTextRow : OpenClaim := { program := "ytpipkmnmdipeeaadoor", sum := "5b20f711ea2a1b8042bbc23b380580e066591c013b1ddb3bbb2bc33badb17d28", func := "loop.example/g00677/laws.FnExactRopeText", spec := "fnExactRopeText", inPlace := ["internal/bytealg.Count", "internal/bytealg.IndexByte", "internal/bytealg.Index"], named := ["loop.example/g00677/impl.leadMarks", "internal/bytealg.MaxLen"], apart := false, laid := [("loop.example/g00677/impl.leadMarks", laid_loop_example_g00677_impl_leadMarks)] }
def FnExactRopeTextSaid : Prop := fnExactRopeTextRow.holds Tryd.pinned (OpenSpec.ofChange fnExactRopeTextSpec)

/-- ITS FALSE NEIGHBOUR: 'it returns false'. Refute it at one input. -/
def fnExactRopeTextWrong : ChangeSpec := { name := "fnExactRopeText", vars := ["loop.example/g00677/impl.leadMarks"], fn := fun _ => fun
  | [d, g1] => { results := [.lit (.bool false)], args := [d], vars := [g1] }
  | _ => none }
def FnExactRopeTextWrongFalsely : Prop := fnExactRopeTextRow.holds Tryd.pinned (OpenSpec.ofChange fnExactRopeTextWrong)

/-- 'laws.FnExactRopeMeas': WHATEVER THE INPUT: true; the input reads as it did. -/
def fnExactRopeMeasSpec : ChangeSpec := { name := "fnExactRopeMeas", vars := ["loop.example/g00677/impl.leadMarks"], fn := fun _ => fun
  | [d, g1] => { results := [.lit (.bool true)], args := [d], vars := [g1] }
  | _ => none }
def fnExactRopeMeasRow : OpenClaim := { program := "ytpipkmnmdipeeaadoor", sum := "5b20f711ea2a1b8042bbc23b380580e066591c013b1ddb3bbb2bc33badb17d28", func := "loop.example/g00677/laws.FnExactRopeMeas", spec := "fnExactRopeMeas", inPlace := ["internal/bytealg.Count", "internal/bytealg.IndexByte", "internal/bytealg.Index"], named := ["loop.example/g00677/impl.leadMarks", "internal/bytealg.MaxLen"], apart := false, laid := [("loop.example/g00677/impl.leadMarks", laid_loop_example_g00677_impl_leadMarks)] }
def FnExactRopeMeasSaid : Prop := fnExactRopeMeasRow.holds Tryd.pinned (OpenSpec.ofChange fnExactRopeMeasSpec)

/-- ITS FALSE NEIGHBOUR: 'it returns false'. Refute it at one input. -/
def fnExactRopeMeasWrong : ChangeSpec := { name := "fnExactRopeMeas", vars := ["loop.example/g00677/impl.leadMarks"], fn := fun _ => fun
  | [d, g1] => { results := [.lit (.bool false)], args := [d], vars := [g1] }
  | _ => none }
def FnExactRopeMeasWrongFalsely : Prop := fnExactRopeMeasRow.holds Tryd.pinned (OpenSpec.ofChange fnExactRopeMeasWrong)

/-- 'laws.FnExactRopeEdit': WHATEVER THE INPUT: true; the input reads as it did. -/
def fnExactRopeEditSpec : ChangeSpec := { name := "fnExactRopeEdit", vars := ["loop.example/g00677/impl.leadMarks"], fn := fun _ => fun
  | [d1, d2, d3, d4, g1] => { results := [.lit (.bool true)], args := [d1, d2, d3, d4], vars := [g1] }
  | _ => none }
def fnExactRopeEditRow : OpenClaim := { program := "ytpipkmnmdipeeaadoor", sum := "5b20f711ea2a1b8042bbc23b380580e066591c013b1ddb3bbb2bc33badb17d28", func := "loop.example/g00677/laws.FnExactRopeEdit", spec := "fnExactRopeEdit", inPlace := ["internal/bytealg.Count", "internal/bytealg.IndexByte", "internal/bytealg.Index"], unfollowed := true, recurses := true, named := ["loop.example/g00677/impl.leadMarks", "internal/bytealg.MaxLen"], apart := false, laid := [("loop.example/g00677/impl.leadMarks", laid_loop_example_g00677_impl_leadMarks)] }
def FnExactRopeEditSaid : Prop := fnExactRopeEditRow.holds Tryd.pinned (OpenSpec.ofChange fnExactRopeEditSpec)

/-- ITS FALSE NEIGHBOUR: 'it returns false'. Refute it at one input. -/
def fnExactRopeEditWrong : ChangeSpec := { name := "fnExactRopeEdit", vars := ["loop.example/g00677/impl.leadMarks"], fn := fun _ => fun
  | [d1, d2, d3, d4, g1] => { results := [.lit (.bool false)], args := [d1, d2, d3, d4], vars := [g1] }
  | _ => none }
def FnExactRopeEditWrongFalsely : Prop := fnExactRopeEditRow.holds Tryd.pinned (OpenSpec.ofChange fnExactRopeEditWrong)

/-- 'laws.FnExactRopeSlice': WHATEVER THE INPUT: true; the input reads as it did. -/
def fnExactRopeSliceSpec : ChangeSpec := { name := "fnExactRopeSlice", vars := ["loop.example/g00677/impl.leadMarks"], fn := fun _ => fun
  | [d1, d2, d3, g1] => { results := [.lit (.bool true)], args := [d1, d2, d3], vars := [g1] }
  | _ => none }
def fnExactRopeSliceRow : OpenClaim := { program := "ytpipkmnmdipeeaadoor", sum := "5b20f711ea2a1b8042bbc23b380580e066591c013b1ddb3bbb2bc33badb17d28", func := "loop.example/g00677/laws.FnExactRopeSlice", spec := "fnExactRopeSlice", inPlace := ["internal/bytealg.Count", "internal/bytealg.IndexByte", "internal/bytealg.Index"], unfollowed := true, recurses := true, named := ["loop.example/g00677/impl.leadMarks", "internal/bytealg.MaxLen"], apart := false, laid := [("loop.example/g00677/impl.leadMarks", laid_loop_example_g00677_impl_leadMarks)] }
def FnExactRopeSliceSaid : Prop := fnExactRopeSliceRow.holds Tryd.pinned (OpenSpec.ofChange fnExactRopeSliceSpec)

/-- ITS FALSE NEIGHBOUR: 'it returns false'. Refute it at one input. -/
def fnExactRopeSliceWrong : ChangeSpec := { name := "fnExactRopeSlice", vars := ["loop.example/g00677/impl.leadMarks"], fn := fun _ => fun
  | [d1, d2, d3, g1] => { results := [.lit (.bool false)], args := [d1, d2, d3], vars := [g1] }
  | _ => none }
def FnExactRopeSliceWrongFalsely : Prop := fnExactRopeSliceRow.holds Tryd.pinned (OpenSpec.ofChange fnExactRopeSliceWrong)

/-- 'laws.FnExactRopeSplit': WHATEVER THE INPUT: true; the input reads as it did. -/
def fnExactRopeSplitSpec : ChangeSpec := { name := "fnExactRopeSplit", vars := ["loop.example/g00677/impl.leadMarks"], fn := fun _ => fun
  | [d1, d2, g1] => { results := [.lit (.bool true)], args := [d1, d2], vars := [g1] }
  | _ => none }
def fnExactRopeSplitRow : OpenClaim := { program := "ytpipkmnmdipeeaadoor", sum := "5b20f711ea2a1b8042bbc23b380580e066591c013b1ddb3bbb2bc33badb17d28", func := "loop.example/g00677/laws.FnExactRopeSplit", spec := "fnExactRopeSplit", inPlace := ["internal/bytealg.Count", "internal/bytealg.IndexByte", "internal/bytealg.Index"], unfollowed := true, recurses := true, named := ["loop.example/g00677/impl.leadMarks", "internal/bytealg.MaxLen"], apart := false, laid := [("loop.example/g00677/impl.leadMarks", laid_loop_example_g00677_impl_leadMarks)] }
def FnExactRopeSplitSaid : Prop := fnExactRopeSplitRow.holds Tryd.pinned (OpenSpec.ofChange fnExactRopeSplitSpec)

/-- ITS FALSE NEIGHBOUR: 'it returns false'. Refute it at one input. -/
def fnExactRopeSplitWrong : ChangeSpec := { name := "fnExactRopeSplit", vars := ["loop.example/g00677/impl.leadMarks"], fn := fun _ => fun
  | [d1, d2, g1] => { results := [.lit (.bool false)], args := [d1, d2], vars := [g1] }
  | _ => none }
def FnExactRopeSplitWrongFalsely : Prop := fnExactRopeSplitRow.holds Tryd.pinned (OpenSpec.ofChange fnExactRopeSplitWrong)

/-- 'laws.FnExactRopeJoin': WHATEVER THE INPUT: true; the input reads as it did. -/
def fnExactRopeJoinSpec : ChangeSpec := { name := "fnExactRopeJoin", vars := ["loop.example/g00677/impl.leadMarks"], fn := fun _ => fun
  | [d1, d2, g1] => { results := [.lit (.bool true)], args := [d1, d2], vars := [g1] }
  | _ => none }
def fnExactRopeJoinRow : OpenClaim := { program := "ytpipkmnmdipeeaadoor", sum := "5b20f711ea2a1b8042bbc23b380580e066591c013b1ddb3bbb2bc33badb17d28", func := "loop.example/g00677/laws.FnExactRopeJoin", spec := "fnExactRopeJoin", inPlace := ["internal/bytealg.Count", "internal/bytealg.IndexByte", "internal/bytealg.Index"], named := ["loop.example/g00677/impl.leadMarks", "internal/bytealg.MaxLen"], apart := false, laid := [("loop.example/g00677/impl.leadMarks", laid_loop_example_g00677_impl_leadMarks)] }
def FnExactRopeJoinSaid : Prop := fnExactRopeJoinRow.holds Tryd.pinned (OpenSpec.ofChange fnExactRopeJoinSpec)

/-- ITS FALSE NEIGHBOUR: 'it returns false'. Refute it at one input. -/
def fnExactRopeJoinWrong : ChangeSpec := { name := "fnExactRopeJoin", vars := ["loop.example/g00677/impl.leadMarks"], fn := fun _ => fun
  | [d1, d2, g1] => { results := [.lit (.bool false)], args := [d1, d2], vars := [g1] }
  | _ => none }
def FnExactRopeJoinWrongFalsely : Prop := fnExactRopeJoinRow.holds Tryd.pinned (OpenSpec.ofChange fnExactRopeJoinWrong)

/-- 'laws.FnExactRopeFind': WHATEVER THE INPUT: true; the input reads as it did. -/
def fnExactRopeFindSpec : ChangeSpec := { name := "fnExactRopeFind", vars := ["loop.example/g00677/impl.leadMarks"], fn := fun _ => fun
  | [d1, d2, d3, g1] => { results := [.lit (.bool true)], args := [d1, d2, d3], vars := [g1] }
  | _ => none }
def fnExactRopeFindRow : OpenClaim := { program := "ytpipkmnmdipeeaadoor", sum := "5b20f711ea2a1b8042bbc23b380580e066591c013b1ddb3bbb2bc33badb17d28", func := "loop.example/g00677/laws.FnExactRopeFind", spec := "fnExactRopeFind", inPlace := ["internal/bytealg.Count", "internal/bytealg.IndexByte", "internal/bytealg.Index"], named := ["loop.example/g00677/impl.leadMarks", "internal/bytealg.MaxLen"], apart := false, laid := [("loop.example/g00677/impl.leadMarks", laid_loop_example_g00677_impl_leadMarks)] }
def FnExactRopeFindSaid : Prop := fnExactRopeFindRow.holds Tryd.pinned (OpenSpec.ofChange fnExactRopeFindSpec)

/-- ITS FALSE NEIGHBOUR: 'it returns false'. Refute it at one input. -/
def fnExactRopeFindWrong : ChangeSpec := { name := "fnExactRopeFind", vars := ["loop.example/g00677/impl.leadMarks"], fn := fun _ => fun
  | [d1, d2, d3, g1] => { results := [.lit (.bool false)], args := [d1, d2, d3], vars := [g1] }
  | _ => none }
def FnExactRopeFindWrongFalsely : Prop := fnExactRopeFindRow.holds Tryd.pinned (OpenSpec.ofChange fnExactRopeFindWrong)

/-- 'laws.FnExactRopeFindBack': WHATEVER THE INPUT: true; the input reads as it did. -/
def fnExactRopeFindBackSpec : ChangeSpec := { name := "fnExactRopeFindBack", vars := ["loop.example/g00677/impl.leadMarks"], fn := fun _ => fun
  | [d1, d2, d3, g1] => { results := [.lit (.bool true)], args := [d1, d2, d3], vars := [g1] }
  | _ => none }
def fnExactRopeFindBackRow : OpenClaim := { program := "ytpipkmnmdipeeaadoor", sum := "5b20f711ea2a1b8042bbc23b380580e066591c013b1ddb3bbb2bc33badb17d28", func := "loop.example/g00677/laws.FnExactRopeFindBack", spec := "fnExactRopeFindBack", inPlace := ["internal/bytealg.Count", "internal/bytealg.IndexByte", "internal/bytealg.Index"], named := ["loop.example/g00677/impl.leadMarks", "internal/bytealg.MaxLen"], apart := false, laid := [("loop.example/g00677/impl.leadMarks", laid_loop_example_g00677_impl_leadMarks)] }
def FnExactRopeFindBackSaid : Prop := fnExactRopeFindBackRow.holds Tryd.pinned (OpenSpec.ofChange fnExactRopeFindBackSpec)

/-- ITS FALSE NEIGHBOUR: 'it returns false'. Refute it at one input. -/
def fnExactRopeFindBackWrong : ChangeSpec := { name := "fnExactRopeFindBack", vars := ["loop.example/g00677/impl.leadMarks"], fn := fun _ => fun
  | [d1, d2, d3, g1] => { results := [.lit (.bool false)], args := [d1, d2, d3], vars := [g1] }
  | _ => none }
def FnExactRopeFindBackWrongFalsely : Prop := fnExactRopeFindBackRow.holds Tryd.pinned (OpenSpec.ofChange fnExactRopeFindBackWrong)

/-- 'laws.FnExactRopeLine': WHATEVER THE INPUT: true; the input reads as it did. -/
def fnExactRopeLineSpec : ChangeSpec := { name := "fnExactRopeLine", vars := ["loop.example/g00677/impl.leadMarks"], fn := fun _ => fun
  | [d1, d2, g1] => { results := [.lit (.bool true)], args := [d1, d2], vars := [g1] }
  | _ => none }
def fnExactRopeLineRow : OpenClaim := { program := "ytpipkmnmdipeeaadoor", sum := "5b20f711ea2a1b8042bbc23b380580e066591c013b1ddb3bbb2bc33badb17d28", func := "loop.example/g00677/laws.FnExactRopeLine", spec := "fnExactRopeLine", inPlace := ["internal/bytealg.Count", "internal/bytealg.IndexByte", "internal/bytealg.Index"], named := ["loop.example/g00677/impl.leadMarks", "internal/bytealg.MaxLen"], apart := false, laid := [("loop.example/g00677/impl.leadMarks", laid_loop_example_g00677_impl_leadMarks)] }
def FnExactRopeLineSaid : Prop := fnExactRopeLineRow.holds Tryd.pinned (OpenSpec.ofChange fnExactRopeLineSpec)

/-- ITS FALSE NEIGHBOUR: 'it returns false'. Refute it at one input. -/
def fnExactRopeLineWrong : ChangeSpec := { name := "fnExactRopeLine", vars := ["loop.example/g00677/impl.leadMarks"], fn := fun _ => fun
  | [d1, d2, g1] => { results := [.lit (.bool false)], args := [d1, d2], vars := [g1] }
  | _ => none }
def FnExactRopeLineWrongFalsely : Prop := fnExactRopeLineRow.holds Tryd.pinned (OpenSpec.ofChange fnExactRopeLineWrong)

/-- 'laws.FnExactRopePlace': WHATEVER THE INPUT: true; the input reads as it did. -/
def fnExactRopePlaceSpec : ChangeSpec := { name := "fnExactRopePlace", vars := ["loop.example/g00677/impl.leadMarks"], fn := fun _ => fun
  | [d1, d2, d3, g1] => { results := [.lit (.bool true)], args := [d1, d2, d3], vars := [g1] }
  | _ => none }
def fnExactRopePlaceRow : OpenClaim := { program := "ytpipkmnmdipeeaadoor", sum := "5b20f711ea2a1b8042bbc23b380580e066591c013b1ddb3bbb2bc33badb17d28", func := "loop.example/g00677/laws.FnExactRopePlace", spec := "fnExactRopePlace", inPlace := ["internal/bytealg.Count", "internal/bytealg.IndexByte", "internal/bytealg.Index"], named := ["loop.example/g00677/impl.leadMarks", "internal/bytealg.MaxLen", "unicode/utf8.first", "unicode/utf8.acceptRanges"], apart := false, laid := [("unicode/utf8.acceptRanges", laid_unicode_utf8_acceptRanges), ("loop.example/g00677/impl.leadMarks", laid_loop_example_g00677_impl_leadMarks), ("unicode/utf8.first", laid_unicode_utf8_first)] }
def FnExactRopePlaceSaid : Prop := fnExactRopePlaceRow.holds Tryd.pinned (OpenSpec.ofChange fnExactRopePlaceSpec)

/-- ITS FALSE NEIGHBOUR: 'it returns false'. Refute it at one input. -/
def fnExactRopePlaceWrong : ChangeSpec := { name := "fnExactRopePlace", vars := ["loop.example/g00677/impl.leadMarks"], fn := fun _ => fun
  | [d1, d2, d3, g1] => { results := [.lit (.bool false)], args := [d1, d2, d3], vars := [g1] }
  | _ => none }
def FnExactRopePlaceWrongFalsely : Prop := fnExactRopePlaceRow.holds Tryd.pinned (OpenSpec.ofChange fnExactRopePlaceWrong)

/- THE SECOND FORM. 'bulk': how many values and letters a reading holds, each counted each time it is reached (what is shared counts as often as it is met; a slice's spare places count too). A statement '..UptoSaid' is the law's where the arguments, and the package variables that the reading takes, are together of bulk at most 1048576: NARROWER than '..Said'. Prove '..Said' where nothing that the law and all that it calls make is longer than what came in: it says more and counts as full. Else prove '..UptoSaid'. A law counts once. -/
mutual
def uptoBulk {H : Type} : DataW H → Nat
  | .lit (.string bytes) => bytes.length + 1
  | .lit _ => 1
  | .nil => 1
  | .ptr d => uptoBulk d + 1
  | .slice elems spare => uptoBulkAll elems + uptoBulkAll spare + 1
  | .agg parts => uptoBulkAll parts + 1
  | .iface _ d => uptoBulk d + 1
  | .map entries => uptoBulkEntries entries + 1
  | .held _ => 1
def uptoBulkAll {H : Type} : List (DataW H) → Nat
  | [] => 0
  | d :: r => uptoBulk d + uptoBulkAll r
def uptoBulkEntries {H : Type} : List (Lit × DataW H) → Nat
  | [] => 0
  | x :: r => uptoBulkEntry x + uptoBulkEntries r
def uptoBulkEntry {H : Type} : Lit × DataW H → Nat
  | (.string bytes, d) => bytes.length + uptoBulk d + 1
  | (_, d) => uptoBulk d + 1
 end
def uptoSmall : (H : Type) → List (DataW H) → Bool := fun _ ds => decide (uptoBulkAll ds ≤ 1048576)
def OpenSpec.upto (s : _root_.Go.ChangeSpec) : _root_.Go.OpenSpec := { _root_.Go.OpenSpec.ofChange s with cond := some uptoSmall }

/-- 'laws.FnExactRopeOk', WHERE WHAT IT READS IS OF BULK AT MOST 1048576: true; the input reads as it did. -/
def fnExactRopeOkUptoRow : OpenClaim := { program := "ytpipkmnmdipeeaadoor", sum := "5b20f711ea2a1b8042bbc23b380580e066591c013b1ddb3bbb2bc33badb17d28", func := "loop.example/g00677/laws.FnExactRopeOk", spec := "fnExactRopeOk", inPlace := ["internal/bytealg.Count", "internal/bytealg.IndexByte", "internal/bytealg.Index"], named := ["loop.example/g00677/impl.leadMarks", "internal/bytealg.MaxLen"], apart := false, laid := [("loop.example/g00677/impl.leadMarks", laid_loop_example_g00677_impl_leadMarks)], narrowed := true }
def FnExactRopeOkUptoSaid : Prop := fnExactRopeOkUptoRow.holds Tryd.pinned (OpenSpec.upto fnExactRopeOkSpec)

/-- 'laws.FnExactRopeOf', WHERE WHAT IT READS IS OF BULK AT MOST 1048576: true; the input reads as it did. -/
def fnExactRopeOfUptoRow : OpenClaim := { program := "ytpipkmnmdipeeaadoor", sum := "5b20f711ea2a1b8042bbc23b380580e066591c013b1ddb3bbb2bc33badb17d28", func := "loop.example/g00677/laws.FnExactRopeOf", spec := "fnExactRopeOf", named := ["loop.example/g00677/impl.leadMarks"], apart := false, laid := [("loop.example/g00677/impl.leadMarks", laid_loop_example_g00677_impl_leadMarks)], narrowed := true }
def FnExactRopeOfUptoSaid : Prop := fnExactRopeOfUptoRow.holds Tryd.pinned (OpenSpec.upto fnExactRopeOfSpec)

/-- 'laws.FnExactRopeText', WHERE WHAT IT READS IS OF BULK AT MOST 1048576: true; the input reads as it did. -/
def fnExactRopeTextUptoRow : OpenClaim := { program := "ytpipkmnmdipeeaadoor", sum := "5b20f711ea2a1b8042bbc23b380580e066591c013b1ddb3bbb2bc33badb17d28", func := "loop.example/g00677/laws.FnExactRopeText", spec := "fnExactRopeText", inPlace := ["internal/bytealg.Count", "internal/bytealg.IndexByte", "internal/bytealg.Index"], named := ["loop.example/g00677/impl.leadMarks", "internal/bytealg.MaxLen"], apart := false, laid := [("loop.example/g00677/impl.leadMarks", laid_loop_example_g00677_impl_leadMarks)], narrowed := true }
def FnExactRopeTextUptoSaid : Prop := fnExactRopeTextUptoRow.holds Tryd.pinned (OpenSpec.upto fnExactRopeTextSpec)

/-- 'laws.FnExactRopeMeas', WHERE WHAT IT READS IS OF BULK AT MOST 1048576: true; the input reads as it did. -/
def fnExactRopeMeasUptoRow : OpenClaim := { program := "ytpipkmnmdipeeaadoor", sum := "5b20f711ea2a1b8042bbc23b380580e066591c013b1ddb3bbb2bc33badb17d28", func := "loop.example/g00677/laws.FnExactRopeMeas", spec := "fnExactRopeMeas", inPlace := ["internal/bytealg.Count", "internal/bytealg.IndexByte", "internal/bytealg.Index"], named := ["loop.example/g00677/impl.leadMarks", "internal/bytealg.MaxLen"], apart := false, laid := [("loop.example/g00677/impl.leadMarks", laid_loop_example_g00677_impl_leadMarks)], narrowed := true }
def FnExactRopeMeasUptoSaid : Prop := fnExactRopeMeasUptoRow.holds Tryd.pinned (OpenSpec.upto fnExactRopeMeasSpec)

/-- 'laws.FnExactRopeEdit', WHERE WHAT IT READS IS OF BULK AT MOST 1048576: true; the input reads as it did. -/
def fnExactRopeEditUptoRow : OpenClaim := { program := "ytpipkmnmdipeeaadoor", sum := "5b20f711ea2a1b8042bbc23b380580e066591c013b1ddb3bbb2bc33badb17d28", func := "loop.example/g00677/laws.FnExactRopeEdit", spec := "fnExactRopeEdit", inPlace := ["internal/bytealg.Count", "internal/bytealg.IndexByte", "internal/bytealg.Index"], unfollowed := true, recurses := true, named := ["loop.example/g00677/impl.leadMarks", "internal/bytealg.MaxLen"], apart := false, laid := [("loop.example/g00677/impl.leadMarks", laid_loop_example_g00677_impl_leadMarks)], narrowed := true }
def FnExactRopeEditUptoSaid : Prop := fnExactRopeEditUptoRow.holds Tryd.pinned (OpenSpec.upto fnExactRopeEditSpec)

/-- 'laws.FnExactRopeSlice', WHERE WHAT IT READS IS OF BULK AT MOST 1048576: true; the input reads as it did. -/
def fnExactRopeSliceUptoRow : OpenClaim := { program := "ytpipkmnmdipeeaadoor", sum := "5b20f711ea2a1b8042bbc23b380580e066591c013b1ddb3bbb2bc33badb17d28", func := "loop.example/g00677/laws.FnExactRopeSlice", spec := "fnExactRopeSlice", inPlace := ["internal/bytealg.Count", "internal/bytealg.IndexByte", "internal/bytealg.Index"], unfollowed := true, recurses := true, named := ["loop.example/g00677/impl.leadMarks", "internal/bytealg.MaxLen"], apart := false, laid := [("loop.example/g00677/impl.leadMarks", laid_loop_example_g00677_impl_leadMarks)], narrowed := true }
def FnExactRopeSliceUptoSaid : Prop := fnExactRopeSliceUptoRow.holds Tryd.pinned (OpenSpec.upto fnExactRopeSliceSpec)

/-- 'laws.FnExactRopeSplit', WHERE WHAT IT READS IS OF BULK AT MOST 1048576: true; the input reads as it did. -/
def fnExactRopeSplitUptoRow : OpenClaim := { program := "ytpipkmnmdipeeaadoor", sum := "5b20f711ea2a1b8042bbc23b380580e066591c013b1ddb3bbb2bc33badb17d28", func := "loop.example/g00677/laws.FnExactRopeSplit", spec := "fnExactRopeSplit", inPlace := ["internal/bytealg.Count", "internal/bytealg.IndexByte", "internal/bytealg.Index"], unfollowed := true, recurses := true, named := ["loop.example/g00677/impl.leadMarks", "internal/bytealg.MaxLen"], apart := false, laid := [("loop.example/g00677/impl.leadMarks", laid_loop_example_g00677_impl_leadMarks)], narrowed := true }
def FnExactRopeSplitUptoSaid : Prop := fnExactRopeSplitUptoRow.holds Tryd.pinned (OpenSpec.upto fnExactRopeSplitSpec)

/-- 'laws.FnExactRopeJoin', WHERE WHAT IT READS IS OF BULK AT MOST 1048576: true; the input reads as it did. -/
def fnExactRopeJoinUptoRow : OpenClaim := { program := "ytpipkmnmdipeeaadoor", sum := "5b20f711ea2a1b8042bbc23b380580e066591c013b1ddb3bbb2bc33badb17d28", func := "loop.example/g00677/laws.FnExactRopeJoin", spec := "fnExactRopeJoin", inPlace := ["internal/bytealg.Count", "internal/bytealg.IndexByte", "internal/bytealg.Index"], named := ["loop.example/g00677/impl.leadMarks", "internal/bytealg.MaxLen"], apart := false, laid := [("loop.example/g00677/impl.leadMarks", laid_loop_example_g00677_impl_leadMarks)], narrowed := true }
def FnExactRopeJoinUptoSaid : Prop := fnExactRopeJoinUptoRow.holds Tryd.pinned (OpenSpec.upto fnExactRopeJoinSpec)

/-- 'laws.FnExactRopeFind', WHERE WHAT IT READS IS OF BULK AT MOST 1048576: true; the input reads as it did. -/
def fnExactRopeFindUptoRow : OpenClaim := { program := "ytpipkmnmdipeeaadoor", sum := "5b20f711ea2a1b8042bbc23b380580e066591c013b1ddb3bbb2bc33badb17d28", func := "loop.example/g00677/laws.FnExactRopeFind", spec := "fnExactRopeFind", inPlace := ["internal/bytealg.Count", "internal/bytealg.IndexByte", "internal/bytealg.Index"], named := ["loop.example/g00677/impl.leadMarks", "internal/bytealg.MaxLen"], apart := false, laid := [("loop.example/g00677/impl.leadMarks", laid_loop_example_g00677_impl_leadMarks)], narrowed := true }
def FnExactRopeFindUptoSaid : Prop := fnExactRopeFindUptoRow.holds Tryd.pinned (OpenSpec.upto fnExactRopeFindSpec)

/-- 'laws.FnExactRopeFindBack', WHERE WHAT IT READS IS OF BULK AT MOST 1048576: true; the input reads as it did. -/
def fnExactRopeFindBackUptoRow : OpenClaim := { program := "ytpipkmnmdipeeaadoor", sum := "5b20f711ea2a1b8042bbc23b380580e066591c013b1ddb3bbb2bc33badb17d28", func := "loop.example/g00677/laws.FnExactRopeFindBack", spec := "fnExactRopeFindBack", inPlace := ["internal/bytealg.Count", "internal/bytealg.IndexByte", "internal/bytealg.Index"], named := ["loop.example/g00677/impl.leadMarks", "internal/bytealg.MaxLen"], apart := false, laid := [("loop.example/g00677/impl.leadMarks", laid_loop_example_g00677_impl_leadMarks)], narrowed := true }
def FnExactRopeFindBackUptoSaid : Prop := fnExactRopeFindBackUptoRow.holds Tryd.pinned (OpenSpec.upto fnExactRopeFindBackSpec)

/-- 'laws.FnExactRopeLine', WHERE WHAT IT READS IS OF BULK AT MOST 1048576: true; the input reads as it did. -/
def fnExactRopeLineUptoRow : OpenClaim := { program := "ytpipkmnmdipeeaadoor", sum := "5b20f711ea2a1b8042bbc23b380580e066591c013b1ddb3bbb2bc33badb17d28", func := "loop.example/g00677/laws.FnExactRopeLine", spec := "fnExactRopeLine", inPlace := ["internal/bytealg.Count", "internal/bytealg.IndexByte", "internal/bytealg.Index"], named := ["loop.example/g00677/impl.leadMarks", "internal/bytealg.MaxLen"], apart := false, laid := [("loop.example/g00677/impl.leadMarks", laid_loop_example_g00677_impl_leadMarks)], narrowed := true }
def FnExactRopeLineUptoSaid : Prop := fnExactRopeLineUptoRow.holds Tryd.pinned (OpenSpec.upto fnExactRopeLineSpec)

/-- 'laws.FnExactRopePlace', WHERE WHAT IT READS IS OF BULK AT MOST 1048576: true; the input reads as it did. -/
def fnExactRopePlaceUptoRow : OpenClaim := { program := "ytpipkmnmdipeeaadoor", sum := "5b20f711ea2a1b8042bbc23b380580e066591c013b1ddb3bbb2bc33badb17d28", func := "loop.example/g00677/laws.FnExactRopePlace", spec := "fnExactRopePlace", inPlace := ["internal/bytealg.Count", "internal/bytealg.IndexByte", "internal/bytealg.Index"], named := ["loop.example/g00677/impl.leadMarks", "internal/bytealg.MaxLen", "unicode/utf8.first", "unicode/utf8.acceptRanges"], apart := false, laid := [("unicode/utf8.acceptRanges", laid_unicode_utf8_acceptRanges), ("loop.example/g00677/impl.leadMarks", laid_loop_example_g00677_impl_leadMarks), ("unicode/utf8.first", laid_unicode_utf8_first)], narrowed := true }
def FnExactRopePlaceUptoSaid : Prop := fnExactRopePlaceUptoRow.holds Tryd.pinned (OpenSpec.upto fnExactRopePlaceSpec)

end Rows
end Go.Proofs.YtpipkmnmdipeeaaDoor
