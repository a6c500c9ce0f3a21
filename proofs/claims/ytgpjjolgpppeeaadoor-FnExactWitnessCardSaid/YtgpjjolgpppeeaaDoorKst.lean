/-
  A store into a block that one may turn. Own work.
-/
import Derived.Test.YtgpjjolgpppeeaaDoorBlk
import Derived.Test.YtgpjjolgpppeeaaDoorLay
namespace Go.Proofs.YtgpjjolgpppeeaaDoor
open Go.RowKit P

theorem Keeps.put1 {fp : List Nat} {w w' : World} (h : Keeps fp w w') {g : Nat} (hg : g ∈ fp) (i : Nat) (u : Value) : Keeps fp w (w'.setCell ⟨g, i, none⟩ u) :=
  ⟨h.os, h.tape, h.output, by simpa using h.size, fun k hk hn => (Below.heap_setCell _ _ _ _ (fun e => hn (by rw [show k = g by simpa using e]; exact hg))).trans (h.block k hk hn)⟩
end Go.Proofs.YtgpjjolgpppeeaaDoor
