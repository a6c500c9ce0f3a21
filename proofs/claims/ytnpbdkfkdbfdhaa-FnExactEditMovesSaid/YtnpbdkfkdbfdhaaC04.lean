/-
  Chapter 4, the laws' helpers on ropes: contracts. Own work.
-/
import Derived.Test.YtnpbdkfkdbfdhaaC02b
import Derived.Test.YtnpbdkfkdbfdhaaBlk
namespace Go.Proofs.Ytnpbdkfkdbfdhaa
open Go.RowKit P
set_option linter.unusedVariables false

end Go.Proofs.Ytnpbdkfkdbfdhaa
