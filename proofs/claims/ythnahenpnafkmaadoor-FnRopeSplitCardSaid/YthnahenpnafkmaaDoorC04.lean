/-
  Chapter 4, the laws' helpers on ropes: contracts. Own work.
-/
import Derived.Test.YthnahenpnafkmaaDoorC02b
import Derived.Test.YthnahenpnafkmaaDoorBlk
namespace Go.Proofs.YthnahenpnafkmaaDoor
open Go.RowKit P
set_option linter.unusedVariables false

/-- What a call ends in that makes a rope of its own. -/
def GivesRo (ls : List (List UInt8)) (w : World) (e : Ending) (w' : World) : Prop :=
  ∃ v fp, e = .returned (.agg #[v]) ∧ Lay.chunks.ow w' [v] ls fp ∧ fp.Nodup ∧ (∀ k ∈ fp, w.heap.size ≤ k) ∧ Below w.heap.size w w'

theorem Lay.chunks_setBelow {w : World} {v : Value} {l : List (List UInt8)} {fp : List Nat} (h : Lay.chunks.ow w [v] l fp) {a : Addr} (ha : a.block ∉ fp) (u : Value) : Lay.chunks.ow (w.setCell a u) [v] l fp :=
  Lay.chunks.kept h (fun k hk => Below.heap_setCell _ _ _ _ (fun e => ha (e ▸ hk))) (by simp [World.setCell])

end Go.Proofs.YthnahenpnafkmaaDoor
