/-
  Chunks opened as arguments. Own work.
-/
import Derived.Test.YtfgbipomdfceeaaDoorLaw
import Derived.Test.YtfgbipomdfceeaaDoorOpen0
import Derived.Test.YtfgbipomdfceeaaDoorC02
namespace Go.Proofs.YtfgbipomdfceeaaDoor
open Go.ChangeShapes Go.WideShapes Go.ChangeAt Go.RowKit Go.Deep P
set_option linter.unusedVariables false

section
variable {H : Type} {enc : TypeId × Value → H} {w : World} {base : Nat} {spare : Nat → Bool} {held : Bool}

theorem reads_chunk (hsp : ∀ b, spare b = true) : Reads enc w base spare held 119 Lay.bytes :=
  reads_struct1 Tryd.underlying119 rfl (by kernel_rfl) (reads_bytes hsp)
theorem reads_chunks (hsp : ∀ b, spare b = true) : Reads enc w base spare held 52 (Lay.slice 119 Lay.bytes) :=
  reads_slice Tryd.underlying52 (by kernel_rfl) (by decide) (reads_chunk hsp)
end
end Go.Proofs.YtfgbipomdfceeaaDoor
