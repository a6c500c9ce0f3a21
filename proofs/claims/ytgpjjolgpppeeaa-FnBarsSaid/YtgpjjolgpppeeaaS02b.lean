/-
  Chapter 2, ChunksOf of the model: contract. Own work.
-/
import Derived.Test.YtgpjjolgpppeeaaI02g
import Derived.Test.YtgpjjolgpppeeaaS01
import Derived.Test.YtgpjjolgpppeeaaBlk
namespace Go.Proofs.Ytgpjjolgpppeeaa
open Go.RowKit P
set_option linter.unusedVariables false

end Go.Proofs.Ytgpjjolgpppeeaa
