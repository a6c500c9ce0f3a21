/-
  Chapter 2, ChunksOf of the model: contract. Own work.
-/
import Derived.Test.YtkplfbhblbinaabDoorI02g
import Derived.Test.YtkplfbhblbinaabDoorS01
import Derived.Test.YtkplfbhblbinaabDoorBlk
namespace Go.Proofs.YtkplfbhblbinaabDoor
open Go.RowKit P
set_option linter.unusedVariables false

end Go.Proofs.YtkplfbhblbinaabDoor
