/-
  The contracts of the laws' helpers on byte slices. Own work.
-/
import Derived.Test.YthnahenpnafkmaaDoorBs0
namespace Go.Proofs.YthnahenpnafkmaaDoor
open Go.RowKit
set_option linter.unusedVariables false

end Go.Proofs.YthnahenpnafkmaaDoor
