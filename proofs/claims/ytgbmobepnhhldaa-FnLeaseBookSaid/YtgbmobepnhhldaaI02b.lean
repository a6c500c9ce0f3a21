/-
  Chapter 2, ChunkOk of the program and of the model: contracts. Own work.
-/
import Derived.Test.YtgbmobepnhhldaaS02
namespace Go.Proofs.Ytgbmobepnhhldaa
open Go.RowKit P
set_option linter.unusedVariables false
set_option maxRecDepth 100000

end Go.Proofs.Ytgbmobepnhhldaa
