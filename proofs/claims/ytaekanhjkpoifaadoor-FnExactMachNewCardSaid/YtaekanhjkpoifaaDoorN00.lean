/-
  The program's test of a session's number: contract. Own work.
-/
import Derived.Test.YtaekanhjkpoifaaDoorBs0
namespace Go.Proofs.YtaekanhjkpoifaaDoor
open Go.RowKit P
set_option linter.unusedVariables false

end Go.Proofs.YtaekanhjkpoifaaDoor
