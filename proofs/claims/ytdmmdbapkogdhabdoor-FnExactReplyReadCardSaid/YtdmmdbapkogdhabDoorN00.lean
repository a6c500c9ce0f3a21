/-
  The program's test of a session's number: contract. Own work.
-/
import Derived.Test.YtdmmdbapkogdhabDoorBs0
namespace Go.Proofs.YtdmmdbapkogdhabDoor
open Go.RowKit P
set_option linter.unusedVariables false

end Go.Proofs.YtdmmdbapkogdhabDoor
