/-
  Chapter 2, ChunksOf of the model: contract. Own work.
-/
import Derived.Test.YtgbmobepnhhldaaI02g
import Derived.Test.YtgbmobepnhhldaaS01
import Derived.Test.YtgbmobepnhhldaaBlk
namespace Go.Proofs.Ytgbmobepnhhldaa
open Go.RowKit P
set_option linter.unusedVariables false

end Go.Proofs.Ytgbmobepnhhldaa
