/-
  An edit that lies in a variable's block. Own work.
-/
import Derived.Test.YtepffgahgfipjaaDoorBlk
namespace Go.Proofs.YtepffgahgfipjaaDoor
open Go.RowKit P
set_option linter.unusedVariables false

/-- The cells of an edit are there. -/
structure EBox (w : World) (b : Nat) (a m : Int) (A : Option Addr) (n c : Nat) : Prop where
  blk : Blk w b #[.int .i64 a, .int .i64 m, .slice A n c] 25
theorem EBox.new (w : World) (a m : Int) (A : Option Addr) (n c : Nat) : EBox (w.alloc (.cells #[.int .i64 a, .int .i64 m, .slice A n c] 25)) w.heap.size a m A n c := ⟨Blk.new w _ _⟩
theorem EBox.below {w w' : World} {b : Nat} {a m : Int} {A : Option Addr} {n c : Nat} (h : EBox w b a m A n c) (hb : Below w.heap.size w w') : EBox w' b a m A n c := ⟨h.blk.below hb⟩
theorem EBox.c0 {w : World} {b : Nat} {a m : Int} {A : Option Addr} {n c : Nat} (h : EBox w b a m A n c) : w.cell? ⟨b, 0, none⟩ = some (.int .i64 a) := h.blk.cell 0
theorem EBox.c1 {w : World} {b : Nat} {a m : Int} {A : Option Addr} {n c : Nat} (h : EBox w b a m A n c) : w.cell? ⟨b, 1, none⟩ = some (.int .i64 m) := h.blk.cell 1
theorem EBox.c2 {w : World} {b : Nat} {a m : Int} {A : Option Addr} {n c : Nat} (h : EBox w b a m A n c) : w.cell? ⟨b, 2, none⟩ = some (.slice A n c) := h.blk.cell 2
theorem EBox.lt {w : World} {b : Nat} {a m : Int} {A : Option Addr} {n c : Nat} (h : EBox w b a m A n c) : b < w.heap.size := h.blk.lt

end Go.Proofs.YtepffgahgfipjaaDoor
