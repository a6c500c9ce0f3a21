/-
  The laws' measure of a slice of bytes: contract. Own work.
-/
import Derived.Test.YtgbmobepnhhldaaLay
namespace Go.Proofs.Ytgbmobepnhhldaa
open Go.RowKit P
set_option linter.unusedVariables false

end Go.Proofs.Ytgbmobepnhhldaa
