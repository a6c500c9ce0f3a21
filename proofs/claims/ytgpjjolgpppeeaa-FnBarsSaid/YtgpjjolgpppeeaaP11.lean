/-
  Chapter 7, plain: where the lease with a key stands in a list, and the list without it. Own work.
-/
import Derived.Test.YtgpjjolgpppeeaaP10
namespace Go.Proofs.Ytgpjjolgpppeeaa
open Go.RowKit P
set_option linter.unusedVariables false

theorem leSame_iff (a b : Le) : leSame a b = true ↔ leCmp a b = 0 := by
  unfold leSame
  rw [decide_eq_true_eq]
  rcases leCmp_cases a b with ⟨h, h2⟩ | ⟨h, h2⟩ | ⟨h, h2⟩ <;> constructor <;> intro h3 <;> omega
theorem leSame_no {a b : Le} (h : leCmp a b ≠ 0) : leSame a b = false := by
  cases hs : leSame a b
  · rfl
  · exact absurd ((leSame_iff a b).1 hs) h

def keyIx (es : List Le) (l : Le) : Nat := es.findIdx (fun x => leSame x l)
theorem keyIx_some {es : List Le} {l : Le} {k : Nat} (hk : k < es.length) (h : leSame es[k] l = true) (hall : ∀ j (h : j < k), leSame (es[j]'(by omega)) l = false) : keyIx es l = k := (List.findIdx_eq hk).2 ⟨h, hall⟩
theorem keyIx_none {es : List Le} {l : Le} (hall : ∀ j (h : j < es.length), leSame es[j] l = false) : keyIx es l = es.length := by
  unfold keyIx
  rw [List.findIdx_eq_length]
  intro x hx
  obtain ⟨j, hj, rfl⟩ := List.getElem_of_mem hx
  exact hall j hj

/-- The list without the lease with the key of l, and the code. -/
def dropL (es : List Le) (l : Le) : List Le := if (leOk es && leRight l) = true then (if keyIx es l < es.length then es.take (keyIx es l) ++ es.drop (keyIx es l + 1) else []) else []
def dropN (es : List Le) (l : Le) : Int := if (leOk es && leRight l) = true then (if keyIx es l < es.length then 0 else 5) else 1
theorem dropL_len (es : List Le) (l : Le) : (dropL es l).length ≤ 1000000 := by
  unfold dropL
  split
  · rename_i h
    rw [Bool.and_eq_true] at h
    have h1 := leOk_len h.1
    split
    · rw [List.length_append, List.length_take, List.length_drop]; omega
    · simp
  · simp

theorem leCmp_trans {a b c : Le} (h : leLess a b = true) (k : leCmp b c < 0) : leCmp a c < 0 := by
  have h2 : leLess b c = true := decide_eq_true k
  exact of_decide_eq_true (leLess_trans h h2)
/-- A search that has halved: ahead of i all are less, from j on none is. -/
structure Halved (es : List Le) (l : Le) (i j : Nat) : Prop where
  le : i ≤ j
  hi : j ≤ es.length
  lo : ∀ t (h : t < es.length), t < i → leCmp es[t] l < 0
  up : ∀ t (h : t < es.length), j ≤ t → 0 ≤ leCmp es[t] l
theorem Halved.start (es : List Le) (l : Le) : Halved es l 0 es.length := ⟨Nat.zero_le _, Nat.le_refl _, fun t _ h => by omega, fun t h h2 => by omega⟩
theorem Halved.right {es : List Le} {l : Le} {i j h : Nat} (hok : leOk es = true) (H : Halved es l i j) (h1 : i ≤ h) (h2 : h < j) (hc : leCmp (es[h]'(by have := H.hi; omega)) l < 0) : Halved es l (h + 1) j := by
  have hj := H.hi
  refine ⟨by omega, hj, fun t ht hlt => ?_, H.up⟩
  by_cases e : t = h
  · subst e; exact hc
  · exact leCmp_trans (leLess_lt hok (i := t) (j := h) (by omega) (by omega)) hc
theorem Halved.left {es : List Le} {l : Le} {i j h : Nat} (hok : leOk es = true) (H : Halved es l i j) (h1 : i ≤ h) (h2 : h < j) (hc : ¬ leCmp (es[h]'(by have := H.hi; omega)) l < 0) : Halved es l i h := by
  have hj := H.hi
  refine ⟨h1, by omega, H.lo, fun t ht hge => ?_⟩
  by_cases e : t = h
  · subst e; omega
  · rcases Int.lt_or_le (leCmp es[t] l) 0 with h3 | h3
    · exact absurd (leCmp_trans (leLess_lt hok (i := h) (j := t) (by omega) ht) h3) hc
    · exact h3
theorem Halved.found {es : List Le} {l : Le} {i : Nat} (H : Halved es l i i) (hi : i < es.length) (hc : leCmp es[i] l = 0) : keyIx es l = i :=
  keyIx_some hi ((leSame_iff _ _).2 hc) (fun j hj => leSame_no (by have := H.lo j (by omega) hj; omega))
theorem Halved.gone {es : List Le} {l : Le} {i : Nat} (hok : leOk es = true) (H : Halved es l i i) (hc : ∀ h : i < es.length, leCmp es[i] l ≠ 0) : keyIx es l = es.length := by
  refine keyIx_none (fun j hj => leSame_no (fun e => ?_))
  rcases Nat.lt_trichotomy j i with h | h | h
  · have := H.lo j hj h; omega
  · subst h; exact hc hj e
  · have h1 := leLess_lt hok h hj
    have h2 := H.up i (by omega) (Nat.le_refl _)
    have h3 : leCmp (es[i]'(by omega)) l < 0 := by
      rw [leLess_iff] at h1
      rcases leCmp_cases es[j] l with ⟨g, g2⟩ | ⟨g, g2⟩ | ⟨g, g2⟩
      · omega
      · rcases leCmp_cases (es[i]'(by omega)) l with ⟨g3, g4⟩ | ⟨g3, g4⟩ | ⟨g3, g4⟩ <;> omega
      · omega
    omega
end Go.Proofs.Ytgpjjolgpppeeaa
