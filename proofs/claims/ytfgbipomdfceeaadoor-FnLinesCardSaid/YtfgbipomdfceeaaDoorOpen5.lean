/-
  Rows that lay unicode/utf8's tables beside the lead marks. Own work.
-/
import Derived.Test.YtfgbipomdfceeaaDoorOpen4
namespace Go.Proofs.YtfgbipomdfceeaaDoor
open Go.ChangeShapes Go.WideShapes Go.ChangeAt Go.RowKit Go.Deep P
set_option linter.unusedVariables false

theorem laidMet_tail {P : Program} {n : String} {d : DataW Unit} {rest : List (String × DataW Unit)} {W : World} (h : laidMet P ((n, d) :: rest) W) : laidMet P rest W := by
  obtain ⟨ps, ⟨g, t, cs, fuel, p, q, _, _, _, _, hq, rfl⟩, hn, hc⟩ := h
  exact ⟨q, hq, (List.nodup_append.1 hn).2.1, fun b off hb => hc b off (List.mem_append.2 (.inr hb))⟩

theorem tab_of3 {W : World} (h : laidMetH Tryd.prog [("unicode/utf8.acceptRanges", Rows.laid_unicode_utf8_acceptRanges), ("loop.example/g00677/impl.leadMarks", Rows.laid_loop_example_g00677_impl_leadMarks), ("unicode/utf8.first", Rows.laid_unicode_utf8_first)] W) : Tab W := by
  have h' : laidMet Tryd.prog [("unicode/utf8.acceptRanges", Rows.laid_unicode_utf8_acceptRanges), ("loop.example/g00677/impl.leadMarks", Rows.laid_loop_example_g00677_impl_leadMarks), ("unicode/utf8.first", Rows.laid_unicode_utf8_first)] W := h
  have t : Lib.TabIs Tryd.prog W "loop.example/g00677/impl.leadMarks" .u8 [0, 0, 192, 224, 240] := Lib.tabIs_of_head (rest := [("unicode/utf8.first", Rows.laid_unicode_utf8_first)]) gTab gTabType Tryd.underlying129 Tryd.underlying5 cellsU8 cellsArr (laidMet_tail h')
  have c0 := t.cell gTab 0 (by decide)
  exact ⟨World.block_lt_of_cell? W _ c0, c0, t.cell gTab 1 (by decide), t.cell gTab 2 (by decide), t.cell gTab 3 (by decide), t.cell gTab 4 (by decide)⟩

def layCells (cs : Array Value) : Obj → Obj
  | .cells _ t frozen => .cells cs t frozen
  | o => o

def accCells : Array Value := #[.int .u8 128, .int .u8 191, .int .u8 160, .int .u8 191, .int .u8 128, .int .u8 159, .int .u8 144, .int .u8 191, .int .u8 128, .int .u8 143, .int .u8 0, .int .u8 0, .int .u8 0, .int .u8 0, .int .u8 0, .int .u8 0, .int .u8 0, .int .u8 0, .int .u8 0, .int .u8 0, .int .u8 0, .int .u8 0, .int .u8 0, .int .u8 0, .int .u8 0, .int .u8 0, .int .u8 0, .int .u8 0, .int .u8 0, .int .u8 0, .int .u8 0, .int .u8 0]
def firstCells3 : Array Value := (Go.Pinned.utf8FirstZ.map fun (n : Nat) => Value.int .u8 (n : Int)).toArray
def markCells : Array Value := #[.int .u8 0, .int .u8 0, .int .u8 192, .int .u8 224, .int .u8 240]
noncomputable def laidHeap3 (h : Array Obj) : Array Obj :=
  ((h.modify 1 (layCells markCells)).modify 3 (layCells accCells)).modify 2 (layCells firstCells3)

/-- A world for the witness: the settled one, the tables holding what their initialisers lay. -/
noncomputable def laidWorld3 (os : Os) : World :=
  { World.holding Tryd.prog os ⟨#[], #[], []⟩ with heap := laidHeap3 (World.holding Tryd.prog os ⟨#[], #[], []⟩).heap }
end Go.Proofs.YtfgbipomdfceeaaDoor
