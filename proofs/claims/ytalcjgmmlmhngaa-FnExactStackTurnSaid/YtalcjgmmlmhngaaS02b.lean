/-
  Chapter 2, ChunksOf of the model: contract. Own work.
-/
import Derived.Test.YtalcjgmmlmhngaaI02g
import Derived.Test.YtalcjgmmlmhngaaS01
import Derived.Test.YtalcjgmmlmhngaaBlk
namespace Go.Proofs.Ytalcjgmmlmhngaa
open Go.RowKit P
set_option linter.unusedVariables false

end Go.Proofs.Ytalcjgmmlmhngaa
