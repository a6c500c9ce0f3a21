/-
  No cell of these rows narrows 'for every input' (looked for: loops, veiled, ifaces, maps, wideKeys, modest, calm, conditions, laid).
  DERIVED. THE GIVEN ROWS OF THIS SEAT. 11 by the template 'for every input the law returns true; each argument reads behind the call as it read before'; 0 by the template 'total and deterministic' (their statements: YtoaimklllmelpaaTotals.lean).
  GIVEN WITH THE SEED: the statements are not yours to turn. If you find one false, say at which input.
  Laid BY PROGRAM, IN A SANDBOX (cutbox-rows.mjs): the forced cells as the released guide's own fill.sh prints them over the translation d8fc8477fce11b4a… (all of the seat's roots in one cut). By AI agents, Wed Nov 11 2026. No macro, syntax, notation, axiom, sorry.
-/
import Derived.Test.YtoaimklllmelpaaChecked
import GoSem.Claim
import GoSem.ClaimJoined
import GoSem.ClaimMapViews
import Derived.JoinedTies
import Derived.KernelRfl
namespace Go.Proofs.Ytoaimklllmelpaa
/- THE CELL 'sum', in the pinned program and in every row, IS THE sha256 OF THE DUMP (.gsa) THAT YtoaimklllmelpaaProg.lean LOADS. Nothing in Lean hashes anything: it is a label: what it is worth is what the hold of that sum in a sandbox is worth. -/
noncomputable def Try.pinned : Pinned := { name := "ytoaimklllmelpaa", sum := "d8fc8477fce11b4ad02376b034adc4abe0eb1b9d2aa40449913145e85b55e5de", checked := Try.checked }
namespace Rows
def none {H : Type} : Left H := { results := [], args := [] }

/-- 'laws.FnExactPosMove': WHATEVER THE INPUT: true; the input reads as it did. -/
def fnExactPosMoveSpec : ChangeSpec := { name := "fnExactPosMove", fn := fun _ => fun
  | [d1, d2, d3] => { results := [.lit (.bool true)], args := [d1, d2, d3] }
  | _ => none }
def fnExactPosMoveRow : OpenClaim := { program := "ytoaimklllmelpaa", sum := "d8fc8477fce11b4ad02376b034adc4abe0eb1b9d2aa40449913145e85b55e5de", func := "loop.example/g00677/laws.FnExactPosMove", spec := "fnExactPosMove", apart := false }
def FnExactPosMoveSaid : Prop := fnExactPosMoveRow.holds Try.pinned (OpenSpec.ofChange fnExactPosMoveSpec)

/-- ITS FALSE NEIGHBOUR: 'it returns false'. Refute it at one input. -/
def fnExactPosMoveWrong : ChangeSpec := { name := "fnExactPosMove", fn := fun _ => fun
  | [d1, d2, d3] => { results := [.lit (.bool false)], args := [d1, d2, d3] }
  | _ => none }
def FnExactPosMoveWrongFalsely : Prop := fnExactPosMoveRow.holds Try.pinned (OpenSpec.ofChange fnExactPosMoveWrong)

/-- 'laws.FnExactSpanMove': WHATEVER THE INPUT: true; the input reads as it did. -/
def fnExactSpanMoveSpec : ChangeSpec := { name := "fnExactSpanMove", fn := fun _ => fun
  | [d1, d2, d3] => { results := [.lit (.bool true)], args := [d1, d2, d3] }
  | _ => none }
def fnExactSpanMoveRow : OpenClaim := { program := "ytoaimklllmelpaa", sum := "d8fc8477fce11b4ad02376b034adc4abe0eb1b9d2aa40449913145e85b55e5de", func := "loop.example/g00677/laws.FnExactSpanMove", spec := "fnExactSpanMove", unfollowed := true, recurses := true, apart := false }
def FnExactSpanMoveSaid : Prop := fnExactSpanMoveRow.holds Try.pinned (OpenSpec.ofChange fnExactSpanMoveSpec)

/-- ITS FALSE NEIGHBOUR: 'it returns false'. Refute it at one input. -/
def fnExactSpanMoveWrong : ChangeSpec := { name := "fnExactSpanMove", fn := fun _ => fun
  | [d1, d2, d3] => { results := [.lit (.bool false)], args := [d1, d2, d3] }
  | _ => none }
def FnExactSpanMoveWrongFalsely : Prop := fnExactSpanMoveRow.holds Try.pinned (OpenSpec.ofChange fnExactSpanMoveWrong)

/-- 'laws.FnExactEditMove': WHATEVER THE INPUT: true; the input reads as it did. -/
def fnExactEditMoveSpec : ChangeSpec := { name := "fnExactEditMove", fn := fun _ => fun
  | [d1, d2] => { results := [.lit (.bool true)], args := [d1, d2] }
  | _ => none }
def fnExactEditMoveRow : OpenClaim := { program := "ytoaimklllmelpaa", sum := "d8fc8477fce11b4ad02376b034adc4abe0eb1b9d2aa40449913145e85b55e5de", func := "loop.example/g00677/laws.FnExactEditMove", spec := "fnExactEditMove", unfollowed := true, recurses := true, apart := false }
def FnExactEditMoveSaid : Prop := fnExactEditMoveRow.holds Try.pinned (OpenSpec.ofChange fnExactEditMoveSpec)

/-- ITS FALSE NEIGHBOUR: 'it returns false'. Refute it at one input. -/
def fnExactEditMoveWrong : ChangeSpec := { name := "fnExactEditMove", fn := fun _ => fun
  | [d1, d2] => { results := [.lit (.bool false)], args := [d1, d2] }
  | _ => none }
def FnExactEditMoveWrongFalsely : Prop := fnExactEditMoveRow.holds Try.pinned (OpenSpec.ofChange fnExactEditMoveWrong)

/-- 'laws.FnExactEditMoves': WHATEVER THE INPUT: true; the input reads as it did. -/
def fnExactEditMovesSpec : ChangeSpec := { name := "fnExactEditMoves", fn := fun _ => fun
  | [d1, d2] => { results := [.lit (.bool true)], args := [d1, d2] }
  | _ => none }
def fnExactEditMovesRow : OpenClaim := { program := "ytoaimklllmelpaa", sum := "d8fc8477fce11b4ad02376b034adc4abe0eb1b9d2aa40449913145e85b55e5de", func := "loop.example/g00677/laws.FnExactEditMoves", spec := "fnExactEditMoves", unfollowed := true, recurses := true, apart := false }
def FnExactEditMovesSaid : Prop := fnExactEditMovesRow.holds Try.pinned (OpenSpec.ofChange fnExactEditMovesSpec)

/-- ITS FALSE NEIGHBOUR: 'it returns false'. Refute it at one input. -/
def fnExactEditMovesWrong : ChangeSpec := { name := "fnExactEditMoves", fn := fun _ => fun
  | [d1, d2] => { results := [.lit (.bool false)], args := [d1, d2] }
  | _ => none }
def FnExactEditMovesWrongFalsely : Prop := fnExactEditMovesRow.holds Try.pinned (OpenSpec.ofChange fnExactEditMovesWrong)

/-- 'laws.FnExactEditHits': WHATEVER THE INPUT: true; the input reads as it did. -/
def fnExactEditHitsSpec : ChangeSpec := { name := "fnExactEditHits", fn := fun _ => fun
  | [d1, d2, d3] => { results := [.lit (.bool true)], args := [d1, d2, d3] }
  | _ => none }
def fnExactEditHitsRow : OpenClaim := { program := "ytoaimklllmelpaa", sum := "d8fc8477fce11b4ad02376b034adc4abe0eb1b9d2aa40449913145e85b55e5de", func := "loop.example/g00677/laws.FnExactEditHits", spec := "fnExactEditHits", apart := false }
def FnExactEditHitsSaid : Prop := fnExactEditHitsRow.holds Try.pinned (OpenSpec.ofChange fnExactEditHitsSpec)

/-- ITS FALSE NEIGHBOUR: 'it returns false'. Refute it at one input. -/
def fnExactEditHitsWrong : ChangeSpec := { name := "fnExactEditHits", fn := fun _ => fun
  | [d1, d2, d3] => { results := [.lit (.bool false)], args := [d1, d2, d3] }
  | _ => none }
def FnExactEditHitsWrongFalsely : Prop := fnExactEditHitsRow.holds Try.pinned (OpenSpec.ofChange fnExactEditHitsWrong)

/-- 'laws.FnExactEditsApart': WHATEVER THE INPUT: true; the input reads as it did. -/
def fnExactEditsApartSpec : ChangeSpec := { name := "fnExactEditsApart", fn := fun _ => fun
  | [d1, d2] => { results := [.lit (.bool true)], args := [d1, d2] }
  | _ => none }
def fnExactEditsApartRow : OpenClaim := { program := "ytoaimklllmelpaa", sum := "d8fc8477fce11b4ad02376b034adc4abe0eb1b9d2aa40449913145e85b55e5de", func := "loop.example/g00677/laws.FnExactEditsApart", spec := "fnExactEditsApart", apart := false }
def FnExactEditsApartSaid : Prop := fnExactEditsApartRow.holds Try.pinned (OpenSpec.ofChange fnExactEditsApartSpec)

/-- ITS FALSE NEIGHBOUR: 'it returns false'. Refute it at one input. -/
def fnExactEditsApartWrong : ChangeSpec := { name := "fnExactEditsApart", fn := fun _ => fun
  | [d1, d2] => { results := [.lit (.bool false)], args := [d1, d2] }
  | _ => none }
def FnExactEditsApartWrongFalsely : Prop := fnExactEditsApartRow.holds Try.pinned (OpenSpec.ofChange fnExactEditsApartWrong)

/-- 'laws.FnExactSelMove': WHATEVER THE INPUT: true; the input reads as it did. -/
def fnExactSelMoveSpec : ChangeSpec := { name := "fnExactSelMove", fn := fun _ => fun
  | [d1, d2, d3] => { results := [.lit (.bool true)], args := [d1, d2, d3] }
  | _ => none }
def fnExactSelMoveRow : OpenClaim := { program := "ytoaimklllmelpaa", sum := "d8fc8477fce11b4ad02376b034adc4abe0eb1b9d2aa40449913145e85b55e5de", func := "loop.example/g00677/laws.FnExactSelMove", spec := "fnExactSelMove", unfollowed := true, recurses := true, apart := false }
def FnExactSelMoveSaid : Prop := fnExactSelMoveRow.holds Try.pinned (OpenSpec.ofChange fnExactSelMoveSpec)

/-- ITS FALSE NEIGHBOUR: 'it returns false'. Refute it at one input. -/
def fnExactSelMoveWrong : ChangeSpec := { name := "fnExactSelMove", fn := fun _ => fun
  | [d1, d2, d3] => { results := [.lit (.bool false)], args := [d1, d2, d3] }
  | _ => none }
def FnExactSelMoveWrongFalsely : Prop := fnExactSelMoveRow.holds Try.pinned (OpenSpec.ofChange fnExactSelMoveWrong)

/-- 'laws.FnPosOrder': WHATEVER THE INPUT: true; the input reads as it did. -/
def fnPosOrderSpec : ChangeSpec := { name := "fnPosOrder", fn := fun _ => fun
  | [d] => { results := [.lit (.bool true)], args := [d] }
  | _ => none }
def fnPosOrderRow : OpenClaim := { program := "ytoaimklllmelpaa", sum := "d8fc8477fce11b4ad02376b034adc4abe0eb1b9d2aa40449913145e85b55e5de", func := "loop.example/g00677/laws.FnPosOrder", spec := "fnPosOrder", apart := false }
def FnPosOrderSaid : Prop := fnPosOrderRow.holds Try.pinned (OpenSpec.ofChange fnPosOrderSpec)

/-- ITS FALSE NEIGHBOUR: 'it returns false'. Refute it at one input. -/
def fnPosOrderWrong : ChangeSpec := { name := "fnPosOrder", fn := fun _ => fun
  | [d] => { results := [.lit (.bool false)], args := [d] }
  | _ => none }
def FnPosOrderWrongFalsely : Prop := fnPosOrderRow.holds Try.pinned (OpenSpec.ofChange fnPosOrderWrong)

/-- 'laws.FnPosBack': WHATEVER THE INPUT: true; the input reads as it did. -/
def fnPosBackSpec : ChangeSpec := { name := "fnPosBack", fn := fun _ => fun
  | [d] => { results := [.lit (.bool true)], args := [d] }
  | _ => none }
def fnPosBackRow : OpenClaim := { program := "ytoaimklllmelpaa", sum := "d8fc8477fce11b4ad02376b034adc4abe0eb1b9d2aa40449913145e85b55e5de", func := "loop.example/g00677/laws.FnPosBack", spec := "fnPosBack", apart := false }
def FnPosBackSaid : Prop := fnPosBackRow.holds Try.pinned (OpenSpec.ofChange fnPosBackSpec)

/-- ITS FALSE NEIGHBOUR: 'it returns false'. Refute it at one input. -/
def fnPosBackWrong : ChangeSpec := { name := "fnPosBack", fn := fun _ => fun
  | [d] => { results := [.lit (.bool false)], args := [d] }
  | _ => none }
def FnPosBackWrongFalsely : Prop := fnPosBackRow.holds Try.pinned (OpenSpec.ofChange fnPosBackWrong)

/-- 'laws.FnApart': WHATEVER THE INPUT: true; the input reads as it did. -/
def fnApartSpec : ChangeSpec := { name := "fnApart", fn := fun _ => fun
  | [d] => { results := [.lit (.bool true)], args := [d] }
  | _ => none }
def fnApartRow : OpenClaim := { program := "ytoaimklllmelpaa", sum := "d8fc8477fce11b4ad02376b034adc4abe0eb1b9d2aa40449913145e85b55e5de", func := "loop.example/g00677/laws.FnApart", spec := "fnApart", unfollowed := true, recurses := true, apart := false }
def FnApartSaid : Prop := fnApartRow.holds Try.pinned (OpenSpec.ofChange fnApartSpec)

/-- ITS FALSE NEIGHBOUR: 'it returns false'. Refute it at one input. -/
def fnApartWrong : ChangeSpec := { name := "fnApart", fn := fun _ => fun
  | [d] => { results := [.lit (.bool false)], args := [d] }
  | _ => none }
def FnApartWrongFalsely : Prop := fnApartRow.holds Try.pinned (OpenSpec.ofChange fnApartWrong)

/-- 'laws.FnEditMoves': WHATEVER THE INPUT: true; the input reads as it did. -/
def fnEditMovesSpec : ChangeSpec := { name := "fnEditMoves", fn := fun _ => fun
  | [d] => { results := [.lit (.bool true)], args := [d] }
  | _ => none }
def fnEditMovesRow : OpenClaim := { program := "ytoaimklllmelpaa", sum := "d8fc8477fce11b4ad02376b034adc4abe0eb1b9d2aa40449913145e85b55e5de", func := "loop.example/g00677/laws.FnEditMoves", spec := "fnEditMoves", unfollowed := true, recurses := true, apart := false }
def FnEditMovesSaid : Prop := fnEditMovesRow.holds Try.pinned (OpenSpec.ofChange fnEditMovesSpec)

/-- ITS FALSE NEIGHBOUR: 'it returns false'. Refute it at one input. -/
def fnEditMovesWrong : ChangeSpec := { name := "fnEditMoves", fn := fun _ => fun
  | [d] => { results := [.lit (.bool false)], args := [d] }
  | _ => none }
def FnEditMovesWrongFalsely : Prop := fnEditMovesRow.holds Try.pinned (OpenSpec.ofChange fnEditMovesWrong)

/- THE SECOND FORM. 'bulk': how many values and letters a reading holds, each counted each time it is reached (what is shared counts as often as it is met; a slice's spare places count too). A statement '..UptoSaid' is the law's where the arguments, and the package variables that the reading takes, are together of bulk at most 1048576: NARROWER than '..Said'. Prove '..Said' where nothing that the law and all that it calls make is longer than what came in: it says more and counts as full. Else prove '..UptoSaid'. A law counts once. -/
mutual
def uptoBulk {H : Type} : DataW H → Nat
  | .lit (.string bytes) => bytes.length + 1
  | .lit _ => 1
  | .nil => 1
  | .ptr d => uptoBulk d + 1
  | .slice elems spare => uptoBulkAll elems + uptoBulkAll spare + 1
  | .agg parts => uptoBulkAll parts + 1
  | .iface _ d => uptoBulk d + 1
  | .map entries => uptoBulkEntries entries + 1
  | .held _ => 1
def uptoBulkAll {H : Type} : List (DataW H) → Nat
  | [] => 0
  | d :: r => uptoBulk d + uptoBulkAll r
def uptoBulkEntries {H : Type} : List (Lit × DataW H) → Nat
  | [] => 0
  | x :: r => uptoBulkEntry x + uptoBulkEntries r
def uptoBulkEntry {H : Type} : Lit × DataW H → Nat
  | (.string bytes, d) => bytes.length + uptoBulk d + 1
  | (_, d) => uptoBulk d + 1
 end
def uptoSmall : (H : Type) → List (DataW H) → Bool := fun _ ds => decide (uptoBulkAll ds ≤ 1048576)
def OpenSpec.upto (s : _root_.Go.ChangeSpec) : _root_.Go.OpenSpec := { _root_.Go.OpenSpec.ofChange s with cond := some uptoSmall }

/-- 'laws.FnExactPosMove', WHERE WHAT IT READS IS OF BULK AT MOST 1048576: true; the input reads as it did. -/
def fnExactPosMoveUptoRow : OpenClaim := { program := "ytoaimklllmelpaa", sum := "d8fc8477fce11b4ad02376b034adc4abe0eb1b9d2aa40449913145e85b55e5de", func := "loop.example/g00677/laws.FnExactPosMove", spec := "fnExactPosMove", apart := false, narrowed := true }
def FnExactPosMoveUptoSaid : Prop := fnExactPosMoveUptoRow.holds Try.pinned (OpenSpec.upto fnExactPosMoveSpec)

/-- 'laws.FnExactSpanMove', WHERE WHAT IT READS IS OF BULK AT MOST 1048576: true; the input reads as it did. -/
def fnExactSpanMoveUptoRow : OpenClaim := { program := "ytoaimklllmelpaa", sum := "d8fc8477fce11b4ad02376b034adc4abe0eb1b9d2aa40449913145e85b55e5de", func := "loop.example/g00677/laws.FnExactSpanMove", spec := "fnExactSpanMove", unfollowed := true, recurses := true, apart := false, narrowed := true }
def FnExactSpanMoveUptoSaid : Prop := fnExactSpanMoveUptoRow.holds Try.pinned (OpenSpec.upto fnExactSpanMoveSpec)

/-- 'laws.FnExactEditMove', WHERE WHAT IT READS IS OF BULK AT MOST 1048576: true; the input reads as it did. -/
def fnExactEditMoveUptoRow : OpenClaim := { program := "ytoaimklllmelpaa", sum := "d8fc8477fce11b4ad02376b034adc4abe0eb1b9d2aa40449913145e85b55e5de", func := "loop.example/g00677/laws.FnExactEditMove", spec := "fnExactEditMove", unfollowed := true, recurses := true, apart := false, narrowed := true }
def FnExactEditMoveUptoSaid : Prop := fnExactEditMoveUptoRow.holds Try.pinned (OpenSpec.upto fnExactEditMoveSpec)

/-- 'laws.FnExactEditMoves', WHERE WHAT IT READS IS OF BULK AT MOST 1048576: true; the input reads as it did. -/
def fnExactEditMovesUptoRow : OpenClaim := { program := "ytoaimklllmelpaa", sum := "d8fc8477fce11b4ad02376b034adc4abe0eb1b9d2aa40449913145e85b55e5de", func := "loop.example/g00677/laws.FnExactEditMoves", spec := "fnExactEditMoves", unfollowed := true, recurses := true, apart := false, narrowed := true }
def FnExactEditMovesUptoSaid : Prop := fnExactEditMovesUptoRow.holds Try.pinned (OpenSpec.upto fnExactEditMovesSpec)

/-- 'laws.FnExactEditHits', WHERE WHAT IT READS IS OF BULK AT MOST 1048576: true; the input reads as it did. -/
def fnExactEditHitsUptoRow : OpenClaim := { program := "ytoaimklllmelpaa", sum := "d8fc8477fce11b4ad02376b034adc4abe0eb1b9d2aa40449913145e85b55e5de", func := "loop.example/g00677/laws.FnExactEditHits", spec := "fnExactEditHits", apart := false, narrowed := true }
def FnExactEditHitsUptoSaid : Prop := fnExactEditHitsUptoRow.holds Try.pinned (OpenSpec.upto fnExactEditHitsSpec)

/-- 'laws.FnExactEditsApart', WHERE WHAT IT READS IS OF BULK AT MOST 1048576: true; the input reads as it did. -/
def fnExactEditsApartUptoRow : OpenClaim := { program := "ytoaimklllmelpaa", sum := "d8fc8477fce11b4ad02376b034adc4abe0eb1b9d2aa40449913145e85b55e5de", func := "loop.example/g00677/laws.FnExactEditsApart", spec := "fnExactEditsApart", apart := false, narrowed := true }
def FnExactEditsApartUptoSaid : Prop := fnExactEditsApartUptoRow.holds Try.pinned (OpenSpec.upto fnExactEditsApartSpec)

/-- 'laws.FnExactSelMove', WHERE WHAT IT READS IS OF BULK AT MOST 1048576: true; the input reads as it did. -/
def fnExactSelMoveUptoRow : OpenClaim := { program := "ytoaimklllmelpaa", sum := "d8fc8477fce11b4ad02376b034adc4abe0eb1b9d2aa40449913145e85b55e5de", func := "loop.example/g00677/laws.FnExactSelMove", spec := "fnExactSelMove", unfollowed := true, recurses := true, apart := false, narrowed := true }
def FnExactSelMoveUptoSaid : Prop := fnExactSelMoveUptoRow.holds Try.pinned (OpenSpec.upto fnExactSelMoveSpec)

/-- 'laws.FnPosOrder', WHERE WHAT IT READS IS OF BULK AT MOST 1048576: true; the input reads as it did. -/
def fnPosOrderUptoRow : OpenClaim := { program := "ytoaimklllmelpaa", sum := "d8fc8477fce11b4ad02376b034adc4abe0eb1b9d2aa40449913145e85b55e5de", func := "loop.example/g00677/laws.FnPosOrder", spec := "fnPosOrder", apart := false, narrowed := true }
def FnPosOrderUptoSaid : Prop := fnPosOrderUptoRow.holds Try.pinned (OpenSpec.upto fnPosOrderSpec)

/-- 'laws.FnPosBack', WHERE WHAT IT READS IS OF BULK AT MOST 1048576: true; the input reads as it did. -/
def fnPosBackUptoRow : OpenClaim := { program := "ytoaimklllmelpaa", sum := "d8fc8477fce11b4ad02376b034adc4abe0eb1b9d2aa40449913145e85b55e5de", func := "loop.example/g00677/laws.FnPosBack", spec := "fnPosBack", apart := false, narrowed := true }
def FnPosBackUptoSaid : Prop := fnPosBackUptoRow.holds Try.pinned (OpenSpec.upto fnPosBackSpec)

/-- 'laws.FnApart', WHERE WHAT IT READS IS OF BULK AT MOST 1048576: true; the input reads as it did. -/
def fnApartUptoRow : OpenClaim := { program := "ytoaimklllmelpaa", sum := "d8fc8477fce11b4ad02376b034adc4abe0eb1b9d2aa40449913145e85b55e5de", func := "loop.example/g00677/laws.FnApart", spec := "fnApart", unfollowed := true, recurses := true, apart := false, narrowed := true }
def FnApartUptoSaid : Prop := fnApartUptoRow.holds Try.pinned (OpenSpec.upto fnApartSpec)

/-- 'laws.FnEditMoves', WHERE WHAT IT READS IS OF BULK AT MOST 1048576: true; the input reads as it did. -/
def fnEditMovesUptoRow : OpenClaim := { program := "ytoaimklllmelpaa", sum := "d8fc8477fce11b4ad02376b034adc4abe0eb1b9d2aa40449913145e85b55e5de", func := "loop.example/g00677/laws.FnEditMoves", spec := "fnEditMoves", unfollowed := true, recurses := true, apart := false, narrowed := true }
def FnEditMovesUptoSaid : Prop := fnEditMovesUptoRow.holds Try.pinned (OpenSpec.upto fnEditMovesSpec)

end Rows
end Go.Proofs.Ytoaimklllmelpaa
