/-
  Chapter 4, rope variables of the laws' own. Own work.
-/
import Derived.Test.YtnpbdkfkdbfdhaaDoorC04
namespace Go.Proofs.YtnpbdkfkdbfdhaaDoor
open Go.RowKit P
set_option linter.unusedVariables false

/-- A rope variable of the call's own: its block, and what its chunks own. -/
structure RVar (w : World) (b : Nat) (A : Option Addr) (ls : List (List UInt8)) (c : Nat) (fp : List Nat) : Prop where
  blk : Blk w b #[.slice A ls.length c] 38
  ow : Lay.chunks.ow w [.slice A ls.length c] ls fp
theorem RVar.below {w w' : World} {b : Nat} {A : Option Addr} {ls : List (List UInt8)} {c : Nat} {fp : List Nat} (h : RVar w b A ls c fp) (hb : Below w.heap.size w w') : RVar w' b A ls c fp :=
  ⟨h.blk.below hb, Lay.chunks.owBelow h.ow hb⟩
theorem RVar.keeps {w w' : World} {b : Nat} {A : Option Addr} {ls : List (List UInt8)} {c : Nat} {fp fq : List Nat} (h : RVar w b A ls c fp) (hk : Keeps fq w w') (h1 : b ∉ fq) (h2 : ∀ k ∈ fp, k ∉ fq) : RVar w' b A ls c fp :=
  ⟨h.blk.of_block (hk.block b h.blk.lt h1), Lay.chunks.keeps h.ow hk h2⟩
theorem RVar.cell {w : World} {b : Nat} {A : Option Addr} {ls : List (List UInt8)} {c : Nat} {fp : List Nat} (h : RVar w b A ls c fp) : w.cell? ⟨b, 0, none⟩ = some (.slice A ls.length c) := h.blk.cell 0
theorem RVar.cs {w : World} {b : Nat} {A : Option Addr} {ls : List (List UInt8)} {c : Nat} {fp : List Nat} (h : RVar w b A ls c fp) : Cs w A ls := by
  obtain ⟨A', c', e, _, _, hC⟩ := Lay.chunks_rd (Lay.chunks.read h.ow)
  simp only [Value.slice.injEq] at e
  rw [e.1]
  exact hC
theorem RVar.cap {w : World} {b : Nat} {A : Option Addr} {ls : List (List UInt8)} {c : Nat} {fp : List Nat} (h : RVar w b A ls c fp) : ls.length ≤ c := by
  obtain ⟨A', c', e, h1, _, _⟩ := Lay.chunks_rd (Lay.chunks.read h.ow)
  simp only [Value.slice.injEq] at e
  rw [e.2.2]
  exact h1
theorem RVar.lt {w : World} {b : Nat} {A : Option Addr} {ls : List (List UInt8)} {c : Nat} {fp : List Nat} (h : RVar w b A ls c fp) : b < w.heap.size ∧ ∀ k ∈ fp, k < w.heap.size := ⟨h.blk.lt, Lay.chunks.lt h.ow⟩
theorem RVar.new {w : World} {A : Option Addr} {ls : List (List UInt8)} {c : Nat} {fp : List Nat} (h : Lay.chunks.ow w [.slice A ls.length c] ls fp) : RVar (w.alloc (.cells #[.slice A ls.length c] 38)) w.heap.size A ls c fp :=
  ⟨Blk.new w _ _, Lay.chunks.owBelow h ((Below.refl w.heap.size w).alloc (Nat.le_refl _) _)⟩
theorem RVar.store {w : World} {b : Nat} {A : Option Addr} {ls : List (List UInt8)} {c : Nat} {fp : List Nat} {u : Value} (hq : Blk w b #[u] 38) (how : Lay.chunks.ow w [.slice A ls.length c] ls fp) (hb : b ∉ fp) : RVar (w.setCell ⟨b, 0, none⟩ (.slice A ls.length c)) b A ls c fp :=
  ⟨by simpa using hq.set 0 (.slice A ls.length c), Lay.chunks_setBelow how hb _⟩
end Go.Proofs.YtnpbdkfkdbfdhaaDoor
