/-
  Chapter 9, the laws' helpers on requests and replies: contracts. Own work.
-/
import Derived.Test.YtaekanhjkpoifaaSz
import Derived.Test.YtaekanhjkpoifaaMark
import Derived.Test.YtaekanhjkpoifaaBs
import Derived.Test.YtaekanhjkpoifaaBlk
namespace Go.Proofs.Ytaekanhjkpoifaa
open Go.RowKit P
set_option linter.unusedVariables false
set_option linter.unusedSimpArgs false

theorem bsk13 (w : World) (o : Obj) : Below w.heap.size w (w.alloc o) := (Below.refl w.heap.size w).alloc (Nat.le_refl _) o

theorem below_drewN13 {B : Nat} {a w : World} (h : Below B a w) (n : Nat) : Below B a (w.drewN n) := ⟨h.os, h.tape, h.output, h.size, h.block⟩

end Go.Proofs.Ytaekanhjkpoifaa
