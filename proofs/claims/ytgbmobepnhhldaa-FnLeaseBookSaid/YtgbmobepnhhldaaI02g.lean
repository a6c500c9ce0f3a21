/-
  Chapter 2, ChunksOf of the program: contracts. Own work.
-/
import Derived.Test.YtgbmobepnhhldaaC02
import Derived.Test.YtgbmobepnhhldaaSnoc
import Derived.Test.YtgbmobepnhhldaaBlk
import Derived.Test.YtgbmobepnhhldaaI01f
namespace Go.Proofs.Ytgbmobepnhhldaa
open Go.RowKit P
set_option linter.unusedVariables false

end Go.Proofs.Ytgbmobepnhhldaa
