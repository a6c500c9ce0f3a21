/-
  Stacks, opened as arguments. Own work.
-/
import Derived.Test.YtalcjgmmlmhngaaOpen7
namespace Go.Proofs.Ytalcjgmmlmhngaa
open Go.ChangeShapes Go.WideShapes Go.ChangeAt Go.RowKit Go.Deep P
set_option linter.unusedVariables false
set_option maxRecDepth 100000

section
variable {H : Type} {enc : TypeId × Value → H} {w : World} {base : Nat} {spare : Nat → Bool} {held : Bool}
theorem reads_stack (hsp : ∀ b, spare b = true) : Reads enc w base spare held 51 (Lay.pair (Lay.slice 39 Lay.edit) (Lay.slice 39 Lay.edit)) :=
  reads_struct2 Try.underlying51 rfl rfl (by kernel_rfl) (by kernel_rfl) (by kernel_rfl) (reads_edits hsp) (reads_edits hsp)
end
end Go.Proofs.Ytalcjgmmlmhngaa
