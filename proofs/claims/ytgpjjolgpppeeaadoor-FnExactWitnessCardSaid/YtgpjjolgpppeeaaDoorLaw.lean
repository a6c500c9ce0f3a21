/-
  What all laws of this seat share: the arguments opened, the table, a world for the witness. Own work.
-/
import Derived.Test.YtgpjjolgpppeeaaDoorCards
import Derived.Test.YtgpjjolgpppeeaaDoorTie
import Derived.ProofKit
import Derived.OpenShut
import Derived.OpenVars
import Derived.ChangeOld
import Derived.Deep.DeepHandedRow
import Derived.Lib.LaidTab
import Derived.Test.YtgpjjolgpppeeaaDoorS01
import Derived.Test.YtgpjjolgpppeeaaDoorLaw0
namespace Go.Proofs.YtgpjjolgpppeeaaDoor
open Go.ChangeShapes Go.WideShapes Go.ChangeAt Go.RowKit P
set_option linter.unusedVariables false

theorem gTab : Tryd.prog.globalNamed "loop.example/g00677/impl.leadMarks" = some 0 := by kernel_rfl
theorem gTabType : (Tryd.prog.globals[0]?).map (·.type) = some 138 := by kernel_rfl
theorem cellsArr : Tryd.prog.cellsOf 138 = 5 := by kernel_rfl
theorem cellsU8 : Tryd.prog.cellsOf 5 = 1 := by kernel_rfl

theorem tab_of {W : World} (h : laidMetH Tryd.prog [("loop.example/g00677/impl.leadMarks", Rows.laid_loop_example_g00677_impl_leadMarks)] W) : Tab W := by
  have t : Lib.TabIs Tryd.prog W "loop.example/g00677/impl.leadMarks" .u8 [0, 0, 192, 224, 240] := Lib.tabIs_of_head (rest := []) gTab gTabType Tryd.underlying138 Tryd.underlying5 cellsU8 cellsArr h
  have c0 := t.cell gTab 0 (by decide)
  exact ⟨World.block_lt_of_cell? W _ c0, c0, t.cell gTab 1 (by decide), t.cell gTab 2 (by decide), t.cell gTab 3 (by decide), t.cell gTab 4 (by decide)⟩

/-- A world for the witness: the settled one, the table holding what its initialiser lays. -/
noncomputable def laidWorld (os : Os) : World :=
  { World.holding Tryd.prog os ⟨#[], #[], []⟩ with heap := (World.holding Tryd.prog os ⟨#[], #[], []⟩).heap.modify 0 fun
      | .cells _ t frozen => .cells #[.int .u8 0, .int .u8 0, .int .u8 192, .int .u8 224, .int .u8 240] t frozen
      | o => o }

end Go.Proofs.YtgpjjolgpppeeaaDoor
