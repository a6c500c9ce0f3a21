/-
  Chapter 7: leases, plain. Own work.
-/
import Derived.Test.YtgpjjolgpppeeaaDoorLay
namespace Go.Proofs.YtgpjjolgpppeeaaDoor
open Go.RowKit P
set_option linter.unusedVariables false

/-- A lease: where it begins, where it ends, whose it is, until when. -/
abbrev Le := Int × Int × Int × Int

def leRight (l : Le) : Bool := decide (0 ≤ l.1 ∧ l.1 ≤ l.2.1 ∧ l.2.1 ≤ 400 ∧ 1 ≤ l.2.2.1 ∧ l.2.2.1 ≤ 8 ∧ 1 ≤ l.2.2.2 ∧ l.2.2.2 ≤ 1000)
/-- The order of the keys. -/
def leCmp (a b : Le) : Int :=
  if a.1 < b.1 then -1 else if b.1 < a.1 then 1 else if a.2.1 < b.2.1 then -1 else if b.2.1 < a.2.1 then 1 else if a.2.2.1 < b.2.2.1 then -1 else if b.2.2.1 < a.2.2.1 then 1 else 0
def leLess (a b : Le) : Bool := decide (leCmp a b < 0)
def leSame (a b : Le) : Bool := decide (a.1 = b.1 ∧ a.2.1 = b.2.1 ∧ a.2.2.1 = b.2.2.1)

/-- The lease at j is valid, and behind the one ahead of it. -/
def leGood (es : List Le) (j : Nat) : Bool := leRight (es.getD j (0, 0, 0, 0)) && (decide (j = 0) || leLess (es.getD (j - 1) (0, 0, 0, 0)) (es.getD j (0, 0, 0, 0)))
def leOk (es : List Le) : Bool := decide (es.length ≤ 12) && (List.range es.length).all (leGood es)

theorem leOk_no {es : List Le} {k : Nat} (hk : k < es.length) (h : leGood es k = false) : leOk es = false := by
  unfold leOk
  rw [Bool.and_eq_false_iff]
  right
  rw [List.all_eq_false]
  exact ⟨k, List.mem_range.2 hk, by simp [h]⟩
theorem leOk_big {es : List Le} (h : 12 < es.length) : leOk es = false := by
  unfold leOk
  rw [Bool.and_eq_false_iff]
  left
  exact decide_eq_false (by omega)
theorem leOk_yes {es : List Le} (hl : es.length ≤ 12) (h : ∀ j, j < es.length → leGood es j = true) : leOk es = true := by
  unfold leOk
  rw [Bool.and_eq_true, List.all_eq_true]
  exact ⟨decide_eq_true hl, fun j hj => h j (List.mem_range.1 hj)⟩
theorem leGood_at {es : List Le} {k : Nat} (hk : k < es.length) : leGood es k = (leRight es[k] && (decide (k = 0) || leLess (es.getD (k - 1) (0, 0, 0, 0)) es[k])) := by
  unfold leGood
  rw [List.getD_eq_getElem?_getD, List.getElem?_eq_getElem hk, Option.getD_some]
theorem leGood_at2 {es : List Le} {k : Nat} (hk : k < es.length) (h0 : 0 < k) : leGood es k = (leRight es[k] && leLess es[k - 1] es[k]) := by
  rw [leGood_at hk, decide_eq_false (show ¬ k = 0 by omega), Bool.false_or, List.getD_eq_getElem?_getD, List.getElem?_eq_getElem (show k - 1 < es.length by omega), Option.getD_some]
theorem leGood_0 {es : List Le} (hk : 0 < es.length) : leGood es 0 = leRight es[0] := by
  rw [leGood_at hk]; simp
theorem leOk_len {es : List Le} (h : leOk es = true) : es.length ≤ 12 := by
  unfold leOk at h
  rw [Bool.and_eq_true] at h
  exact of_decide_eq_true h.1
theorem leOk_good {es : List Le} (h : leOk es = true) {j : Nat} (hj : j < es.length) : leGood es j = true := by
  unfold leOk at h
  rw [Bool.and_eq_true, List.all_eq_true] at h
  exact h.2 j (List.mem_range.2 hj)
theorem leRight_of {es : List Le} (h : leOk es = true) {j : Nat} (hj : j < es.length) : leRight es[j] = true := by
  have h1 := leOk_good h hj
  rw [leGood_at hj, Bool.and_eq_true] at h1
  exact h1.1
theorem leLess_of {es : List Le} (h : leOk es = true) {j : Nat} (hj : j + 1 < es.length) : leLess es[j] es[j + 1] = true := by
  have h1 := leOk_good h hj
  rw [leGood_at2 hj (by omega), Bool.and_eq_true] at h1
  exact h1.2

theorem leCmp_cases (a b : Le) : (leCmp a b = -1 ∧ (a.1 < b.1 ∨ a.1 = b.1 ∧ (a.2.1 < b.2.1 ∨ a.2.1 = b.2.1 ∧ a.2.2.1 < b.2.2.1))) ∨ (leCmp a b = 0 ∧ a.1 = b.1 ∧ a.2.1 = b.2.1 ∧ a.2.2.1 = b.2.2.1) ∨ (leCmp a b = 1 ∧ (b.1 < a.1 ∨ a.1 = b.1 ∧ (b.2.1 < a.2.1 ∨ a.2.1 = b.2.1 ∧ b.2.2.1 < a.2.2.1))) := by
  unfold leCmp
  split
  · exact .inl ⟨rfl, by omega⟩
  split
  · exact .inr (.inr ⟨rfl, by omega⟩)
  split
  · exact .inl ⟨rfl, by omega⟩
  split
  · exact .inr (.inr ⟨rfl, by omega⟩)
  split
  · exact .inl ⟨rfl, by omega⟩
  split
  · exact .inr (.inr ⟨rfl, by omega⟩)
  · exact .inr (.inl ⟨rfl, by omega, by omega, by omega⟩)
theorem leLess_iff (a b : Le) : leLess a b = true ↔ (a.1 < b.1 ∨ a.1 = b.1 ∧ (a.2.1 < b.2.1 ∨ a.2.1 = b.2.1 ∧ a.2.2.1 < b.2.2.1)) := by
  unfold leLess
  rw [decide_eq_true_eq]
  rcases leCmp_cases a b with ⟨h, h2⟩ | ⟨h, h2⟩ | ⟨h, h2⟩ <;> constructor <;> intro h3 <;> omega
theorem leLess_trans {a b c : Le} (h : leLess a b = true) (k : leLess b c = true) : leLess a c = true := by
  rw [leLess_iff] at *
  omega
/-- What stands further ahead has the smaller key. -/
theorem leLess_far {es : List Le} (h : leOk es = true) : ∀ (d i : Nat) (hj : i + d + 1 < es.length), leLess (es[i]'(by omega)) es[i + d + 1] = true
  | 0, i, hj => leLess_of h hj
  | d + 1, i, hj => leLess_trans (leLess_far h d i (by omega)) (by have := leLess_of h (j := i + d + 1) hj; exact this)
theorem leLess_lt {es : List Le} (h : leOk es = true) {i j : Nat} (hij : i < j) (hj : j < es.length) : leLess (es[i]'(by omega)) es[j] = true := by
  obtain ⟨d, rfl⟩ : ∃ d, j = i + d + 1 := ⟨j - i - 1, by omega⟩
  exact leLess_far h d i hj
end Go.Proofs.YtgpjjolgpppeeaaDoor
