/-
  Chapter 4, the laws' helpers on ropes: contracts. Own work.
-/
import Derived.Test.YtaekanhjkpoifaaDoorC02b
import Derived.Test.YtaekanhjkpoifaaDoorBlk
namespace Go.Proofs.YtaekanhjkpoifaaDoor
open Go.RowKit P
set_option linter.unusedVariables false

end Go.Proofs.YtaekanhjkpoifaaDoor
