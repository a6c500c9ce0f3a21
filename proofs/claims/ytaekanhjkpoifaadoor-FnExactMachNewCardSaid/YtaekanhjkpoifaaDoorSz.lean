/-
  The laws' measure of a slice of bytes: contract. Own work.
-/
import Derived.Test.YtaekanhjkpoifaaDoorLay
namespace Go.Proofs.YtaekanhjkpoifaaDoor
open Go.RowKit P
set_option linter.unusedVariables false

end Go.Proofs.YtaekanhjkpoifaaDoor
