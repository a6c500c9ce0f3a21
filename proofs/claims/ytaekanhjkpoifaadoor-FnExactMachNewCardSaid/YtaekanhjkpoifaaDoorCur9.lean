/-
  The draws' cursor: ropes, places of a rope: contracts. Own work.
-/
import Derived.Test.YtaekanhjkpoifaaDoorCur6
import Derived.Test.YtaekanhjkpoifaaDoorR04
import Derived.Test.YtaekanhjkpoifaaDoorS01
namespace Go.Proofs.YtaekanhjkpoifaaDoor
open Go.RowKit P
set_option linter.unusedVariables false

/-- Chunks that can be read, whatever becomes of what lies below base. -/
def Far (base : Nat) (w : World) (A : Option Addr) (L : List (List UInt8)) (c : Nat) : Prop :=
  L.length ≤ c ∧ c ≤ maxLen ∧ ∀ w' : World, (∀ k, base ≤ k → k < w.heap.size → w'.heap[k]? = w.heap[k]?) → w.heap.size ≤ w'.heap.size → Cs w' A L
theorem Far.keep {base : Nat} {w w' : World} {A : Option Addr} {L : List (List UInt8)} {c : Nat} (h : Far base w A L c) (hk : ∀ k, base ≤ k → k < w.heap.size → w'.heap[k]? = w.heap[k]?) (hs : w.heap.size ≤ w'.heap.size) : Far base w' A L c :=
  ⟨h.1, h.2.1, fun x hx hz => h.2.2 x (fun k h1 h2 => (hx k h1 (by omega)).trans (hk k h1 h2)) (by omega)⟩
theorem Far.only {base g : Nat} {w w' : World} {A : Option Addr} {L : List (List UInt8)} {c : Nat} (h : Far base w A L c) (hg : g < base) (ho : Only g w w') : Far base w' A L c := h.keep (fun k h1 h2 => ho.block k h2 (fun e => by injection e; omega)) ho.size
theorem Far.cs {base : Nat} {w : World} {A : Option Addr} {L : List (List UInt8)} {c : Nat} (h : Far base w A L c) : Cs w A L := h.2.2 w (fun _ _ _ => rfl) (Nat.le_refl _)
theorem Far.below {base : Nat} {w w' : World} {A : Option Addr} {L : List (List UInt8)} {c : Nat} (h : Far base w A L c) (hb : Below w.heap.size w w') : Far base w' A L c := h.keep (fun k _ h2 => hb.block k h2) hb.size
theorem Far.setNew {base : Nat} {w : World} {A : Option Addr} {L : List (List UInt8)} {c : Nat} (h : Far base w A L c) {b : Nat} (hb : b < base) (i : Nat) (u : Value) : Far base (w.setCell ⟨b, i, none⟩ u) A L c :=
  h.keep (fun k h1 _ => Below.heap_setCell w ⟨b, i, none⟩ u k (fun e => by simp at e; omega)) (by simp [World.setCell])
theorem Far.mono {base base' : Nat} {w : World} {A : Option Addr} {L : List (List UInt8)} {c : Nat} (h : Far base w A L c) (hb : base' ≤ base) : Far base' w A L c := ⟨h.1, h.2.1, fun x hx hz => h.2.2 x (fun k h1 h2 => hx k (by omega) h2) hz⟩
theorem Blk.only {g b : Nat} {w w' : World} {cs : Array Value} {t : TypeId} (h : Blk w b cs t) (ho : Only g w w') (hb : b ≠ g) : Blk w' b cs t := h.of_block (ho.block b h.lt (fun e => hb (by injection e)))

theorem chunksOf_len (l : List UInt8) : (chunksOf l).length ≤ 400 ∧ ∀ x ∈ chunksOf l, x.length ≤ 401 := by
  have h := chunksOf_ok l
  refine ⟨chunksOk_len h, fun x hx => ?_⟩
  obtain ⟨k, hk, rfl⟩ := List.mem_iff_getElem.1 hx
  have h1 := tot_mem (ls := chunksOf l) k hk
  have h2 := chunksOk_tot h
  omega

theorem Only.setNew {g : Nat} {a w : World} (h : Only g a w) {b : Nat} (hb : a.heap.size ≤ b) (i : Nat) (u : Value) : Only g a (w.setCell ⟨b, i, none⟩ u) :=
  ⟨h.os, h.tape, h.output, by simpa [World.setCell] using h.size, fun k hk hne => (Below.heap_setCell w ⟨b, i, none⟩ u k (fun e => by simp at e; omega)).trans (h.block k hk hne)⟩
theorem Lay.set {α : Type} (L : Lay α) {w : World} {cs : List Value} {x : α} {fp : List Nat} (h : L.ow w cs x fp) {b : Nat} (hb : b ∉ fp) (i : Nat) (u : Value) : L.ow (w.setCell ⟨b, i, none⟩ u) cs x fp :=
  L.kept h (fun k hk => Below.heap_setCell _ _ _ _ (fun e => hb (by simp at e; exact e ▸ hk))) (by simp [World.setCell])
theorem Blk.setFar {w : World} {b d : Nat} {cs : Array Value} {t : TypeId} (h : Blk w b cs t) (hne : b ≠ d) (i : Nat) (u : Value) : Blk (w.setCell ⟨d, i, none⟩ u) b cs t := h.of_block (Below.heap_setCell w ⟨d, i, none⟩ u b (fun e => hne (by simpa using e)))

theorem cutsOr_bd (l : List UInt8) : (cutsOr l).length ≤ l.length + 1 ∧ ∀ x ∈ cutsOr l, x ≤ l.length := by
  unfold cutsOr cuts
  split
  · refine ⟨by have := List.length_filter_le (fun k : Nat => isBound l k) (List.range (l.length + 1)); simpa using this, fun x hx => ?_⟩
    have := List.mem_range.1 (List.mem_filter.1 hx).1
    omega
  · simp

theorem OwnN.only {w w' : World} {g base : Nat} {v : Value} {l : List Nat} (h : OwnN w base v l) (ho : Only g w w') (hb : g < base) : OwnN w' base v l := by
  refine World.ownsRow.kept (w' := w') (row := some g) h ho ?_
  cases hv : v.ownBlock with
  | none => exact .inl rfl
  | some k => exact .inr (fun e => by injection e with e; have := (World.ownsRow.lt h k hv).1; omega)

end Go.Proofs.YtaekanhjkpoifaaDoor
