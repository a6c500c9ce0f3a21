/-
  The contracts of the laws' helpers on byte slices. Own work.
-/
import Derived.Test.YtgbmobepnhhldaaBs0
namespace Go.Proofs.Ytgbmobepnhhldaa
open Go.RowKit
set_option linter.unusedVariables false

end Go.Proofs.Ytgbmobepnhhldaa
