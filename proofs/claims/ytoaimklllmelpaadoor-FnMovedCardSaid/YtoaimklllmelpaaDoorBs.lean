/-
  The contracts of the laws' helpers on byte slices. Own work.
-/
import Derived.Test.YtoaimklllmelpaaDoorBs0
namespace Go.Proofs.YtoaimklllmelpaaDoor
open Go.RowKit
set_option linter.unusedVariables false

end Go.Proofs.YtoaimklllmelpaaDoor
