/-
  Chapter 4, the laws' helpers on ropes: contracts. Own work.
-/
import Derived.Test.YtkplfbhblbinaabDoorC02b
import Derived.Test.YtkplfbhblbinaabDoorBlk
namespace Go.Proofs.YtkplfbhblbinaabDoor
open Go.RowKit P
set_option linter.unusedVariables false

end Go.Proofs.YtkplfbhblbinaabDoor
