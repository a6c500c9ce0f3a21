/-
  Chapter 2, ChunksOf of the model: contract. Own work.
-/
import Derived.Test.YtaekanhjkpoifaaDoorI02g
import Derived.Test.YtaekanhjkpoifaaDoorS01
import Derived.Test.YtaekanhjkpoifaaDoorBlk
namespace Go.Proofs.YtaekanhjkpoifaaDoor
open Go.RowKit P
set_option linter.unusedVariables false

end Go.Proofs.YtaekanhjkpoifaaDoor
