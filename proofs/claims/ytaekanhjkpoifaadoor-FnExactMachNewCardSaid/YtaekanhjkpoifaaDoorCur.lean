/-
  The draws' cursor: what holds of it, and its methods' contracts: what comes out is in range; nothing but the cursor has turned. Own work.
  The draws' cursor, its smaller methods: contracts. Own work.
  The draws' cursor: letters, places, texts: contracts. Own work.
  The draws' cursor: texts, texts with faults, and the draws of chapter 1: contracts. Own work.
  The draws' cursor: texts with faults, and the draws of chapter 1: contracts. Own work.
-/
import Derived.Test.YtaekanhjkpoifaaDoorOwn
import Derived.Test.YtaekanhjkpoifaaDoorI01f
import Derived.Test.YtaekanhjkpoifaaDoorApp
import Derived.Test.YtaekanhjkpoifaaDoorMark
namespace Go.Proofs.YtaekanhjkpoifaaDoor
open Go.RowKit P
set_option linter.unusedVariables false

/-- From w to w' only block g has turned; what is new lies behind. -/
def Only (g : Nat) (w w' : World) : Prop := w.grownBy w' (some g)

theorem Only.refl (g : Nat) (w : World) : Only g w w := World.grownBy.refl w _
theorem Only.drewN {g : Nat} {a w : World} (h : Only g a w) (n : Nat) : Only g a (w.drewN n) := ⟨h.os, h.tape, h.output, h.size, h.block⟩
theorem Only.setCell {g : Nat} {a w : World} (h : Only g a w) (i : Nat) (u : Value) : Only g a (w.setCell ⟨g, i, none⟩ u) :=
  ⟨h.os, h.tape, h.output, by simpa [World.setCell] using h.size, fun k hk hne => (Below.heap_setCell w ⟨g, i, none⟩ u k (fun e => hne (by rw [e]))).trans (h.block k hk hne)⟩
theorem Only.trans {g : Nat} {a b c : World} (h : Only g a b) (k : Only g b c) : Only g a c :=
  ⟨k.os.trans h.os, k.tape.trans h.tape, k.output.trans h.output, Nat.le_trans h.size k.size, fun i hi hne => (k.block i (Nat.lt_of_lt_of_le hi h.size) hne).trans (h.block i hi hne)⟩
theorem Only.of_below {g : Nat} {a b : World} (h : Below a.heap.size a b) : Only g a b := ⟨h.os, h.tape, h.output, h.size, fun k hk _ => h.block k hk⟩
theorem Only.below {g : Nat} {a b : World} (h : Only g a b) (B : Nat) (hB : B ≤ g) (hs : B ≤ a.heap.size) : Below B a b := ⟨h.os, h.tape, h.output, h.size, fun k hk => h.block k (by omega) (fun e => by injection e; omega)⟩
theorem Only.bs {g : Nat} {w w' : World} {A : Option Addr} {l : List UInt8} (h : Only g w w') (hB : Bs w A l) (hne : ∀ b off, A = some ⟨b, off, none⟩ → 0 < l.length → b ≠ g) : Bs w' A l := by
  intro k hk
  obtain ⟨b, off, e, hlt, hc⟩ := hB k hk
  refine ⟨b, off, e, Nat.lt_of_lt_of_le hlt h.size, ?_⟩
  rw [World.cell?_of_block (w := w) (h.block b hlt (fun x => hne b off e (by omega) (by injection x)))]
  exact hc

theorem emod_bd (x n : Int) (h : 2 ≤ n) : 0 ≤ x % n ∧ x % n < n := ⟨Int.emod_nonneg _ (by omega), Int.emod_lt_of_pos _ (by omega)⟩

end Go.Proofs.YtaekanhjkpoifaaDoor

namespace Go.Proofs.YtaekanhjkpoifaaDoor
open Go.RowKit P
set_option linter.unusedVariables false

/-- A row that was laid ahead of a draw reads as it was laid. -/
theorem Only.row {w1 w2 : World} {g : Nat} {cs : Array Value} {t : TypeId} (ho : Only g (w1.alloc (.cells cs t)) w2) (hg : g < w1.heap.size) (k : Nat) : w2.cell? ⟨w1.heap.size, k, none⟩ = cs[k]? := by
  have h := ho.block w1.heap.size (by simp) (fun e => by injection e; omega)
  rw [heap_alloc_new] at h
  exact cell_of_row w2 _ k cs t (0, 0) h

theorem Only.of_alloc {w1 w2 : World} {g : Nat} {o : Obj} (ho : Only g (w1.alloc o) w2) : Only g w1 w2 :=
  (Only.of_below ((Below.refl _ _).alloc (Nat.le_refl _) o)).trans ho
end Go.Proofs.YtaekanhjkpoifaaDoor

namespace Go.Proofs.YtaekanhjkpoifaaDoor
open Go.RowKit P
set_option linter.unusedVariables false

end Go.Proofs.YtaekanhjkpoifaaDoor

namespace Go.Proofs.YtaekanhjkpoifaaDoor
open Go.RowKit P
set_option linter.unusedVariables false

theorem Own.only {w w' : World} {g base : Nat} {v : Value} {l : List UInt8} (h : Own w base v l) (ho : Only g w w') (hb : g < base) : Own w' base v l := by
  refine World.ownsRow.kept (w' := w') (row := some g) h ho ?_
  cases hv : v.ownBlock with
  | none => exact .inl rfl
  | some k =>
    have := (World.ownsRow.lt h k hv).1
    right
    intro e
    injection e with e
    omega

/-- A row of the call's own has grown: of what was there before nothing has turned. -/
theorem Only.grown {g base : Nat} {a w w' : World} {v : Value} {l : List UInt8} (h : Only g a w) (hown : Own w base v l) (hg : w.grownBy w' v.ownBlock) (hb : a.heap.size ≤ base) : Only g a w' :=
  ⟨hg.os.trans h.os, hg.tape.trans h.tape, hg.output.trans h.output, Nat.le_trans h.size hg.size, fun k hk hne =>
    (hg.block k (Nat.lt_of_lt_of_le hk h.size) (fun e => by have := (World.ownsRow.lt hown k e.symm).1; omega)).trans (h.block k hk hne)⟩

theorem enc_le (x : Int) : (enc x).length ≤ 4 := by rw [enc_length]; exact codeSz_le x

end Go.Proofs.YtaekanhjkpoifaaDoor

namespace Go.Proofs.YtaekanhjkpoifaaDoor
open Go.RowKit P
set_option linter.unusedVariables false

theorem Only.setOwn {g base gb i : Nat} {a w : World} (h : Only g a w) (hb : base ≤ gb) (ha : a.heap.size ≤ base) (u : Value) : Only g a (w.setCell ⟨gb, i, none⟩ u) :=
  ⟨h.os, h.tape, h.output, by simpa [World.setCell] using h.size, fun k hk hne => (Below.heap_setCell w ⟨gb, i, none⟩ u k (fun e => by simp at e; omega)).trans (h.block k hk hne)⟩

/-- What a draw of bytes and a place ends in. -/
def DrawsP (w : World) (e : Ending) (w' : World) : Prop :=
  ∃ v l a, e = .returned (.tuple #[v, .int .i64 a]) ∧ Own w' w.heap.size v l ∧ l.length ≤ 401 ∧ -9223372036854775808 ≤ a ∧ a ≤ 9223372036854775807 ∧ Below w.heap.size w w'

end Go.Proofs.YtaekanhjkpoifaaDoor
