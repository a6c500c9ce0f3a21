/-
  Events opened as arguments. Own work.
-/
import Derived.Test.YtaekanhjkpoifaaOpen11
namespace Go.Proofs.Ytaekanhjkpoifaa
open Go.ChangeShapes Go.WideShapes Go.ChangeAt Go.RowKit Go.Deep P
set_option linter.unusedVariables false
set_option maxRecDepth 100000

theorem reads_event {H : Type} {enc : TypeId × Value → H} {w : World} {base : Nat} {spare : Nat → Bool} {held : Bool} (hsp : ∀ b, spare b = true) : Reads enc w base spare held 24 Lay.reply :=
  reads_str4 Try.underlying24 rfl rfl rfl rfl (by kernel_rfl) (by kernel_rfl) (by kernel_rfl) (by kernel_rfl) (by kernel_rfl) reads_int reads_int reads_int (reads_bytes hsp)
end Go.Proofs.Ytaekanhjkpoifaa
