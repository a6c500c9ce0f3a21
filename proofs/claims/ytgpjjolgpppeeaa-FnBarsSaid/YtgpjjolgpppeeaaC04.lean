/-
  Chapter 4, the laws' helpers on ropes: contracts. Own work.
-/
import Derived.Test.YtgpjjolgpppeeaaC02b
import Derived.Test.YtgpjjolgpppeeaaBlk
namespace Go.Proofs.Ytgpjjolgpppeeaa
open Go.RowKit P
set_option linter.unusedVariables false

end Go.Proofs.Ytgpjjolgpppeeaa
