/-
  The laws' measure of a slice of bytes: contract. Own work.
-/
import Derived.Test.YthnahenpnafkmaaDoorLay
namespace Go.Proofs.YthnahenpnafkmaaDoor
open Go.RowKit P
set_option linter.unusedVariables false

end Go.Proofs.YthnahenpnafkmaaDoor
