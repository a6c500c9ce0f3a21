/-
  Ropes opened as arguments. Own work.
  The library's variable internal/bytealg.MaxLen holds some int when the call begins. Own work.
-/
import Derived.Test.YtfgbipomdfceeaaDoorOpen
import Derived.Test.YtfgbipomdfceeaaDoorLaw
import Derived.Shelf.Vars
namespace Go.Proofs.YtfgbipomdfceeaaDoor
open Go.ChangeShapes Go.WideShapes Go.ChangeAt Go.RowKit Go.Deep P
set_option linter.unusedVariables false

section
variable {H : Type} {enc : TypeId × Value → H} {w : World} {base : Nat} {spare : Nat → Bool} {held : Bool}

theorem reads_rope (hsp : ∀ b, spare b = true) : Reads enc w base spare held 54 (Lay.slice 119 Lay.bytes) :=
  reads_struct1 Tryd.underlying54 rfl (by kernel_rfl) (reads_chunks hsp)
end
end Go.Proofs.YtfgbipomdfceeaaDoor

namespace Go.Proofs.YtfgbipomdfceeaaDoor
open Go.ChangeShapes Go.WideShapes Go.ChangeAt Go.RowKit P
set_option linter.unusedVariables false

theorem maxLen_of {W : World} (h : W.ShapedOpen Tryd.prog) : ∃ m : Int, W.cell? ⟨0, 0, none⟩ = some (.int .i64 m) := by
  refine cell_of_shapedOpen_int (t := 3) (zero := #[.int .i64 0]) h (of_decide_eq_true (by kernel_rfl)) (by kernel_rfl) rfl (by kernel_rfl) (by kernel_rfl) Tryd.underlying3
end Go.Proofs.YtfgbipomdfceeaaDoor
