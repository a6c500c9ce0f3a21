/-
  Chapter 4, the laws' helpers on ropes: contracts. Own work.
-/
import Derived.Test.YtgbmobepnhhldaaC02b
import Derived.Test.YtgbmobepnhhldaaBlk
namespace Go.Proofs.Ytgbmobepnhhldaa
open Go.RowKit P
set_option linter.unusedVariables false

end Go.Proofs.Ytgbmobepnhhldaa
