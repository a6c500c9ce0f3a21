/-
  Pieces opened as arguments. Own work.
-/
import Derived.Test.YtdmmdbapkogdhabOpen0
import Derived.Test.YtdmmdbapkogdhabLaw0
import Derived.ProofKit
import Derived.OpenShut
import Derived.OpenVars
import Derived.ChangeOld
import Derived.Deep.DeepHandedRow
import Derived.Test.YtdmmdbapkogdhabC12
namespace Go.Proofs.Ytdmmdbapkogdhab
open Go.ChangeShapes Go.WideShapes Go.ChangeAt Go.RowKit Go.Deep P
set_option linter.unusedVariables false
set_option maxRecDepth 100000

section
variable {H : Type} {enc : TypeId × Value → H} {w : World} {base : Nat} {spare : Nat → Bool} {held : Bool}

theorem reads_piece (hsp : ∀ b, spare b = true) : Reads enc w base spare held 39 Lay.bytes :=
  reads_struct1 Try.underlying39 rfl (by kernel_rfl) (reads_bytes hsp)
theorem reads_pieces (hsp : ∀ b, spare b = true) : Reads enc w base spare held 22 (Lay.slice 39 Lay.bytes) :=
  reads_slice Try.underlying22 (by kernel_rfl) (by decide) (reads_piece hsp)
end
end Go.Proofs.Ytdmmdbapkogdhab
