/-
  Ropes opened as arguments. Own work.
-/
import Derived.Test.YtpipkmnmdipeeaaDoorOpen
namespace Go.Proofs.YtpipkmnmdipeeaaDoor
open Go.ChangeShapes Go.WideShapes Go.ChangeAt Go.RowKit Go.Deep P
set_option linter.unusedVariables false

section
variable {H : Type} {enc : TypeId × Value → H} {w : World} {base : Nat} {spare : Nat → Bool} {held : Bool}

theorem reads_rope (hsp : ∀ b, spare b = true) : Reads enc w base spare held 24 (Lay.slice 93 Lay.bytes) :=
  reads_struct1 Tryd.underlying24 rfl (by kernel_rfl) (reads_chunks hsp)
end
end Go.Proofs.YtpipkmnmdipeeaaDoor
