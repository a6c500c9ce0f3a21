/-
  Chapter 7, leases: what a lease must be, and the order of the keys, in the model and in the program: contracts. Own work.
-/
import Derived.Test.YtaekanhjkpoifaaDoorC09
import Derived.Test.YtaekanhjkpoifaaDoorN00
namespace Go.Proofs.YtaekanhjkpoifaaDoor
open Go.RowKit P
set_option linter.unusedVariables false
set_option linter.unusedSimpArgs false
set_option maxRecDepth 100000

def sgn3 (a b : Int) : Int := if a < b then -1 else if b < a then 1 else 0
theorem sgn3_eq (a b : Int) : sgn3 a b = if a < b then -1 else if b < a then 1 else 0 := rfl

end Go.Proofs.YtaekanhjkpoifaaDoor
