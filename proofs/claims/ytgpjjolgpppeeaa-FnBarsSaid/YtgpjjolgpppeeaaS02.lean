/-
  Chapter 2, the model's MeasOf: contract. Own work.
-/
import Derived.Test.YtgpjjolgpppeeaaI02
import Derived.Test.YtgpjjolgpppeeaaBlk
namespace Go.Proofs.Ytgpjjolgpppeeaa
open Go.RowKit P
set_option linter.unusedVariables false
set_option maxRecDepth 100000

theorem below_of_eq {B : Nat} {a b c : World} (h : Below B a b) (hs : b.heap.size ≤ c.heap.size) (ho : c.os = b.os) (ht : c.tape = b.tape) (hp : c.output = b.output) (hb : ∀ k, k < B → c.heap[k]? = b.heap[k]?) : Below B a c :=
  h.trans ⟨ho, ht, hp, hs, hb⟩

end Go.Proofs.Ytgpjjolgpppeeaa
