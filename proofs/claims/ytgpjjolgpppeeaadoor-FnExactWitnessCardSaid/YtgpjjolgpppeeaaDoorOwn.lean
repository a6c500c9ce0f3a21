/-
  Slices of bytes that the call itself made. Own work.
-/
import Derived.Test.YtgpjjolgpppeeaaDoorBs0
namespace Go.Proofs.YtgpjjolgpppeeaaDoor
open Go.RowKit P
set_option linter.unusedVariables false

def bV (b : UInt8) : Value := .int .u8 (b.toNat : Int)

/-- v is a slice of the call's own (in blocks from base on, or nil) that holds the bytes l. -/
def Own (w : World) (base : Nat) (v : Value) (l : List UInt8) : Prop := w.ownsRow base 5 1 v l.length (l.map bV)

theorem Own.form {w : World} {base : Nat} {v : Value} {l : List UInt8} (h : Own w base v l) : ∃ A c, v = .slice A l.length c ∧ l.length ≤ c ∧ c ≤ maxLen ∧ Bs w A l := by
  obtain ⟨h1, h2⟩ := h
  rcases h2 with ⟨rfl, h0⟩ | ⟨g, cap, cur, rfl, hb, hh, hn, hc, hs, ht⟩
  · have : l = [] := List.eq_nil_of_length_eq_zero h0
    subst this
    exact ⟨none, 0, rfl, Nat.le_refl _, by unfold maxLen; omega, fun k hk => by simp at hk⟩
  · refine ⟨_, cap, rfl, hn, hc, fun k hk => ⟨g, 0, rfl, (Array.getElem?_eq_some_iff.1 hh).1, ?_⟩⟩
    rw [Nat.zero_add, cell_of_row w g k cur _ (0, 0) hh]
    have h3 : (cur.toList.take (l.length * 1))[k]? = (l.map bV)[k]? := by rw [ht]
    rw [List.getElem?_take, if_pos (by omega)] at h3
    simp only [Array.getElem?_toList] at h3
    rw [h3]
    simp [hk, bV]

theorem Own.below {w w' : World} {base : Nat} {v : Value} {l : List UInt8} (h : Own w base v l) (hb : Below w.heap.size w w') : Own w' base v l :=
  World.ownsRow.kept (w' := w') (row := none) h ⟨hb.os, hb.tape, hb.output, hb.size, fun k hk _ => hb.block k hk⟩ (by cases hv : v.ownBlock <;> simp)

theorem Own.mono {w : World} {base base' : Nat} {v : Value} {l : List UInt8} (h : Own w base v l) (hb : base' ≤ base) : Own w base' v l := by
  obtain ⟨h1, h2⟩ := h
  refine ⟨h1, ?_⟩
  rcases h2 with h2 | ⟨g, cap, cur, hv, hg, r⟩
  · exact .inl h2
  · exact .inr ⟨g, cap, cur, hv, by omega, r⟩

theorem Own.drewN {w : World} {base : Nat} {v : Value} {l : List UInt8} (h : Own w base v l) (n : Nat) : Own (w.drewN n) base v l := h

theorem Own.nil (w : World) (base : Nat) : Own w base (.slice none 0 0) [] := World.ownsRow_nil w base _ _

theorem Own.new (w : World) (l : List UInt8) (hl : l.length ≤ maxLen) : Own (w.alloc (.cells (l.map bV).toArray 5)) w.heap.size (.slice (some ⟨w.heap.size, 0, none⟩) l.length l.length) l := by
  refine ⟨by simp, .inr ⟨w.heap.size, l.length, _, rfl, Nat.le_refl _, heap_alloc_new w _, Nat.le_refl _, hl, by simp, by simpa using List.take_of_length_le (by simp)⟩⟩

theorem below_drewN {B : Nat} {a w : World} (h : Below B a w) (n : Nat) : Below B a (w.drewN n) := ⟨h.os, h.tape, h.output, h.size, h.block⟩
theorem below_of_drewN (w : World) (n : Nat) : Below w.heap.size w (w.drewN n) := below_drewN (Below.refl _ _) n
/-- Two calls one behind the other. -/
theorem below_then {a b c : World} (h : Below a.heap.size a b) (k : Below b.heap.size b c) : Below a.heap.size a c := h.trans (k.mono h.size)

theorem Row.own {w : World} {l : List UInt8} {B : Nat} (h : Row w B l) (base : Nat) (hb : base ≤ B) (hl : l.length ≤ maxLen) : Own w base (.slice (some ⟨B, 0, none⟩) l.length l.length) l := by
  obtain ⟨c, hh, hs, hc⟩ : ∃ c, w.heap[B]? = some (.cells c 5 (0, 0)) ∧ c.size = l.length ∧ ∀ i, i < l.length → c[i]? = some (bV (l.getD i 0)) := by
    have := h
    unfold Row World.rowIs at this
    obtain ⟨c, h1, h2, h3⟩ := this
    exact ⟨c, h1, h2, h3⟩
  refine ⟨by simp, .inr ⟨B, l.length, c, rfl, hb, hh, Nat.le_refl _, hl, by omega, ?_⟩⟩
  apply List.ext_getElem?
  intro i
  rw [List.getElem?_take]
  by_cases hi : i < l.length
  · rw [if_pos (by omega), Array.getElem?_toList, hc i hi]
    simp [hi]
  · rw [if_neg (by omega), List.getElem?_eq_none (by simpa using hi)]

end Go.Proofs.YtgpjjolgpppeeaaDoor
