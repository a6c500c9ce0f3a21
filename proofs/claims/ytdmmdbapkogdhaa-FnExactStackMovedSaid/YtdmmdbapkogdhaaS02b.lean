/-
  Chapter 2, ChunksOf of the model: contract. Own work.
-/
import Derived.Test.YtdmmdbapkogdhaaI02g
import Derived.Test.YtdmmdbapkogdhaaS01
import Derived.Test.YtdmmdbapkogdhaaBlk
namespace Go.Proofs.Ytdmmdbapkogdhaa
open Go.RowKit P
set_option linter.unusedVariables false

end Go.Proofs.Ytdmmdbapkogdhaa
