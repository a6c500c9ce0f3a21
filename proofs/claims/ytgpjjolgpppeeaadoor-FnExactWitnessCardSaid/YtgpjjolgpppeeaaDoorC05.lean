/-
  Chapter 5, the laws' helpers on edits: contracts. Own work.
-/
import Derived.Test.YtgpjjolgpppeeaaDoorSz
import Derived.Test.YtgpjjolgpppeeaaDoorMark
import Derived.Test.YtgpjjolgpppeeaaDoorBs
import Derived.Test.YtgpjjolgpppeeaaDoorBlk
namespace Go.Proofs.YtgpjjolgpppeeaaDoor
open Go.RowKit P
set_option linter.unusedVariables false

/-- An edit in cells: where, how many, what. -/
def Lay.edit : Lay (Int × Int × List UInt8) := Lay.pair Lay.int (Lay.pair Lay.int Lay.bytes)

/-- The cells of an edit. -/
def edC (a m : Int) (A : Option Addr) (n c : Nat) : Array Value := #[.int .i64 a, .int .i64 m, .slice A n c]

theorem bsk1 (w : World) (o : Obj) : Below w.heap.size w (w.alloc o) := (Below.refl w.heap.size w).alloc (Nat.le_refl _) o
theorem bsk2 (w : World) (o : Obj) : Below w.heap.size w (w.drew.alloc o) := (Below.refl w.heap.size w).drew.alloc (Nat.le_refl _) o
theorem bsk3 (w : World) (o : Obj) : Below w.heap.size w (w.alloc o).drew := ((Below.refl w.heap.size w).alloc (Nat.le_refl _) o).drew
theorem bsk4 (w : World) : Below w.heap.size w w.drew := (Below.refl w.heap.size w).drew
theorem below_skip {w w' : World} {o : Obj} (h : Below (w.alloc o).heap.size (w.alloc o) w') : Below w.heap.size w w' := below_then (bsk1 w o) h
theorem below_skipd {w w' : World} {o : Obj} (h : Below (w.drew.alloc o).heap.size (w.drew.alloc o) w') : Below w.heap.size w w' := below_then (bsk2 w o) h
theorem below_skipe {w w' : World} {o : Obj} (h : Below (w.alloc o).drew.heap.size (w.alloc o).drew w') : Below w.heap.size w w' := below_then (bsk3 w o) h
theorem below_undr {w w' : World} (h : Below w.drew.heap.size w.drew w') : Below w.heap.size w w' := below_then (bsk4 w) h
theorem blk_skip {w w' : World} {cs : Array Value} {T : TypeId} (h : Below (w.alloc (.cells cs T)).heap.size (w.alloc (.cells cs T)) w') : Blk w' w.heap.size cs T := (Blk.new w cs T).below h
theorem blk_skipd {w w' : World} {cs : Array Value} {T : TypeId} (h : Below (w.drew.alloc (.cells cs T)).heap.size (w.drew.alloc (.cells cs T)) w') : Blk w' w.heap.size cs T := (Blk.new w.drew cs T).below h
theorem blk_skipe {w w' : World} {cs : Array Value} {T : TypeId} (h : Below (w.alloc (.cells cs T)).drew.heap.size (w.alloc (.cells cs T)).drew w') : Blk w' w.heap.size cs T := Blk.below (w := (w.alloc (.cells cs T)).drew) (Blk.new w cs T) h
theorem toByteS_e (A : Option Addr) (l : List UInt8) (c : Nat) (w : World) (hl : l.length ≤ 1048576) (h : Bs w A l) :
    Calls Tryd.prog 84 #[.slice A l.length c] w fun e w' => ∃ g, e = .returned (.slice (some ⟨g, 0, none⟩) l.length l.length) ∧ Row w' g l ∧ Below w.heap.size w w' :=
  (toByteS_any A l c w hl h).mono fun e w' ⟨he, hr, hb⟩ => ⟨_, he, hr, hb⟩
theorem Blk.setFar9 {w : World} {b d : Nat} {cs : Array Value} {t : TypeId} (h : Blk w b cs t) (hne : b ≠ d) (i : Nat) (u : Value) : Blk (w.setCell ⟨d, i, none⟩ u) b cs t := h.of_block (Below.heap_setCell w ⟨d, i, none⟩ u b (fun e => hne (by simpa using e)))
theorem own_bs9 {w : World} {base : Nat} {A : Option Addr} {n c : Nat} {l : List UInt8} (h : Own w base (.slice A n c) l) : Bs w A l := by
  obtain ⟨A', c', e, _, _, hB⟩ := h.form
  simp only [Value.slice.injEq] at e
  rw [e.1]
  exact hB

end Go.Proofs.YtgpjjolgpppeeaaDoor
