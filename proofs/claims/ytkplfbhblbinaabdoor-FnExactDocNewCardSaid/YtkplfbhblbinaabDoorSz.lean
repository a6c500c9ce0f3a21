/-
  The laws' measure of a slice of bytes: contract. Own work.
-/
import Derived.Test.YtkplfbhblbinaabDoorLay
namespace Go.Proofs.YtkplfbhblbinaabDoor
open Go.RowKit P
set_option linter.unusedVariables false

end Go.Proofs.YtkplfbhblbinaabDoor
