/-
  Chapter 4, the laws' helpers on ropes: contracts. Own work.
-/
import Derived.Test.YtdmmdbapkogdhaaC02b
import Derived.Test.YtdmmdbapkogdhaaBlk
namespace Go.Proofs.Ytdmmdbapkogdhaa
open Go.RowKit P
set_option linter.unusedVariables false

end Go.Proofs.Ytdmmdbapkogdhaa
