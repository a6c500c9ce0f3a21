/-
  The program's test of a session's number: contract. Own work.
-/
import Derived.Test.YtdmmdbapkogdhabBs0
namespace Go.Proofs.Ytdmmdbapkogdhab
open Go.RowKit P
set_option linter.unusedVariables false

end Go.Proofs.Ytdmmdbapkogdhab
