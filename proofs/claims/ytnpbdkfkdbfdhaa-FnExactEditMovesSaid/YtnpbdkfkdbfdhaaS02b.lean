/-
  Chapter 2, ChunksOf of the model: contract. Own work.
-/
import Derived.Test.YtnpbdkfkdbfdhaaI02g
import Derived.Test.YtnpbdkfkdbfdhaaS01
import Derived.Test.YtnpbdkfkdbfdhaaBlk
namespace Go.Proofs.Ytnpbdkfkdbfdhaa
open Go.RowKit P
set_option linter.unusedVariables false

end Go.Proofs.Ytnpbdkfkdbfdhaa
