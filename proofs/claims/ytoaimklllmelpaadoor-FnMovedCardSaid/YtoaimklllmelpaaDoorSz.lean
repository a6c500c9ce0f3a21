/-
  The laws' measure of a slice of bytes: contract. Own work.
-/
import Derived.Test.YtoaimklllmelpaaDoorLay
namespace Go.Proofs.YtoaimklllmelpaaDoor
open Go.RowKit P
set_option linter.unusedVariables false

end Go.Proofs.YtoaimklllmelpaaDoor
