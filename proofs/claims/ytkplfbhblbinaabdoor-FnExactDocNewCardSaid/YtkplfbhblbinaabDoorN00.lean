/-
  The program's test of a session's number: contract. Own work.
-/
import Derived.Test.YtkplfbhblbinaabDoorBs0
namespace Go.Proofs.YtkplfbhblbinaabDoor
open Go.RowKit P
set_option linter.unusedVariables false

end Go.Proofs.YtkplfbhblbinaabDoor
