/-
  Chapter 11, the laws' helpers on events: contracts. Own work.
-/
import Derived.Test.YtgpjjolgpppeeaaSz
import Derived.Test.YtgpjjolgpppeeaaMark
import Derived.Test.YtgpjjolgpppeeaaBs
import Derived.Test.YtgpjjolgpppeeaaBlk
import Derived.Test.YtgpjjolgpppeeaaC13
namespace Go.Proofs.Ytgpjjolgpppeeaa
open Go.RowKit P
set_option linter.unusedVariables false
set_option linter.unusedSimpArgs false


end Go.Proofs.Ytgpjjolgpppeeaa
