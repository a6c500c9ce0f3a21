/-
  Chapter 7, LeaseExpire in the model: contract. Own work.
-/
import Derived.Test.YtgpjjolgpppeeaaS11
namespace Go.Proofs.Ytgpjjolgpppeeaa
open Go.RowKit P
set_option linter.unusedVariables false
set_option linter.unusedSimpArgs false
set_option maxRecDepth 100000

/-- The leases that are active. -/
def leExp (es : List Le) (a : Int) : List Le := if leOk es = true then es.filter (fun l => decide (a < l.2.2.2)) else []
theorem leExp_len (es : List Le) (a : Int) : (leExp es a).length ≤ 1000000 := by
  unfold leExp
  split
  · rename_i h
    have h1 := leOk_len h
    have h2 := List.length_filter_le (fun l : Le => decide (a < l.2.2.2)) es
    omega
  · simp

end Go.Proofs.Ytgpjjolgpppeeaa
