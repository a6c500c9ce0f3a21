/-
  Chapter 2, ChunkOk of the program and of the model: contracts. Own work.
-/
import Derived.Test.YtgpjjolgpppeeaaS02
namespace Go.Proofs.Ytgpjjolgpppeeaa
open Go.RowKit P
set_option linter.unusedVariables false
set_option maxRecDepth 100000

end Go.Proofs.Ytgpjjolgpppeeaa
