/-
  Chapter 4, the laws' helpers on ropes: contracts. Own work.
-/
import Derived.Test.YtalcjgmmlmhngaaC02b
import Derived.Test.YtalcjgmmlmhngaaBlk
namespace Go.Proofs.Ytalcjgmmlmhngaa
open Go.RowKit P
set_option linter.unusedVariables false

end Go.Proofs.Ytalcjgmmlmhngaa
