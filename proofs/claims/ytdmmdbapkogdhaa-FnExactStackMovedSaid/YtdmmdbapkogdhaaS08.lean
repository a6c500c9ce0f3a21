/-
  Chapter 5, the model's EditOk: contract. Own work.
  Chapter 5, the model's EditDo and EditBack: contracts. Own work.
  Chapter 5, the model's EditBack: contract. Own work.
-/
import Derived.Test.YtdmmdbapkogdhaaS01
import Derived.Test.YtdmmdbapkogdhaaP08
import Derived.Test.YtdmmdbapkogdhaaEB
import Derived.Deep.RegionHeld3
namespace Go.Proofs.Ytdmmdbapkogdhaa
open Go.RowKit P
set_option linter.unusedVariables false
set_option linter.unusedSimpArgs false
set_option maxRecDepth 100000

end Go.Proofs.Ytdmmdbapkogdhaa

namespace Go.Proofs.Ytdmmdbapkogdhaa
open Go.RowKit P
set_option linter.unusedVariables false
set_option linter.unusedSimpArgs false
set_option maxRecDepth 100000

/-- What a call ends in that makes bytes of its own, and says whether. -/
def MakesE (l : List UInt8) (ok : Bool) (w : World) (e : Ending) (w' : World) : Prop := ∃ v, e = .returned (.tuple #[v, .bool ok]) ∧ Own w' w.heap.size v l ∧ Below w.heap.size w w'

end Go.Proofs.Ytdmmdbapkogdhaa

namespace Go.Proofs.Ytdmmdbapkogdhaa
open Go.RowKit P
set_option linter.unusedVariables false
set_option linter.unusedSimpArgs false
set_option maxRecDepth 100000

/-- What a call ends in that makes an edit of its own, and says whether. -/
def MakesEd (a m : Int) (p : List UInt8) (ok : Bool) (w : World) (e : Ending) (w' : World) : Prop := ∃ v, e = .returned (.tuple #[.agg #[.int .i64 a, .int .i64 m, v], .bool ok]) ∧ Own w' w.heap.size v p ∧ Below w.heap.size w w'
