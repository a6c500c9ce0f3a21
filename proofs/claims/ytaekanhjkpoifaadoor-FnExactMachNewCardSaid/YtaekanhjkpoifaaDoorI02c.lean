/-
  Chapter 2, measSum, measFits, MeasAdd of the program: contracts. Own work.
-/
import Derived.Test.YtaekanhjkpoifaaDoorI02b
import Derived.Handy
namespace Go.Proofs.YtaekanhjkpoifaaDoor
open Go.RowKit P
set_option linter.unusedVariables false
set_option maxRecDepth 100000

def mFits (a b r : Int) : Bool := decide (0 ≤ a ∧ a ≤ 400) && decide (0 ≤ b ∧ b ≤ 400) && decide (0 ≤ r ∧ r ≤ 400)

end Go.Proofs.YtaekanhjkpoifaaDoor
