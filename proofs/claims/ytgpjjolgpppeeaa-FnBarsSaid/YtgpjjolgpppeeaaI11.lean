/-
  Chapter 7, LeaseAll in the program: contract. Own work.
-/
import Derived.Test.YtgpjjolgpppeeaaS11
import Derived.Test.YtgpjjolgpppeeaaS10
namespace Go.Proofs.Ytgpjjolgpppeeaa
open Go.RowKit P
set_option linter.unusedVariables false
set_option linter.unusedSimpArgs false
set_option maxRecDepth 100000

/-- The row while leases are struck from it: what stays of the first j stands at the front, what comes is as it was. -/
structure Kept (a : Int) (es R : List Le) (i j : Nat) : Prop where
  lt : i < j
  le : j ≤ es.length
  ln : R.length = es.length
  fr : R.take i = (es.take j).filter (fun l => decide (l.2.2.1 = a))
  bk : ∀ t, j ≤ t → R[t]? = es[t]?
  in_ : ∀ l ∈ R, leIn l
theorem Kept.start {a : Int} {es : List Le} {k : Nat} (hk : k < es.length) (hn : es[k].2.2.1 ≠ a) (hall : ∀ j (h : j < k), es[j].2.2.1 = a) (hin : ∀ l ∈ es, leIn l) : Kept a es es k (k + 1) := by
  refine ⟨by omega, hk, rfl, ?_, fun _ _ => rfl, hin⟩
  rw [filter_step hk, decide_eq_false hn]
  rw [if_neg (by simp), List.append_nil]
  rw [List.filter_eq_self.2]
  intro l hl
  obtain ⟨j, hj, rfl⟩ := List.getElem_of_mem hl
  rw [List.length_take] at hj
  rw [List.getElem_take]
  exact decide_eq_true (hall j (by omega))
theorem Kept.skip {a : Int} {es R : List Le} {i j : Nat} (h : Kept a es R i j) (hj : j < es.length) (hn : es[j].2.2.1 ≠ a) : Kept a es R i (j + 1) := by
  refine ⟨by have := h.lt; omega, hj, h.ln, ?_, fun t ht => h.bk t (by omega), h.in_⟩
  rw [filter_step hj, decide_eq_false hn, if_neg (by simp), List.append_nil]
  exact h.fr
theorem Kept.keep {a : Int} {es R : List Le} {i j : Nat} (h : Kept a es R i j) (hj : j < es.length) {x y s t : Int} (he : es[j] = (x, y, s, t)) (hs : s = a) : Kept a es (R.set i (x, y, s, t)) (i + 1) (j + 1) := by
  have hij := h.lt
  have hln := h.ln
  have hi : i < R.length := by omega
  refine ⟨by omega, hj, by rw [List.length_set]; exact hln, ?_, fun u hu => ?_, fun l hl => ?_⟩
  · rw [filter_step hj, he, decide_eq_true hs, if_pos rfl, ← h.fr]
    rw [List.take_succ_eq_append_getElem (by rw [List.length_set]; exact hi), List.getElem_set_self, List.take_set_of_le (Nat.le_refl _)]
  · rw [List.getElem?_set_ne (by omega)]
    exact h.bk u (by omega)
  · rcases List.mem_or_eq_of_mem_set hl with h1 | h1
    · exact h.in_ l h1
    · subst h1
      have h2 := h.bk j (Nat.le_refl _)
      rw [List.getElem?_eq_getElem hj, he] at h2
      exact h.in_ _ (List.mem_of_getElem? h2)
theorem Kept.at_ {a : Int} {es R : List Le} {i j : Nat} (h : Kept a es R i j) (hj : j < es.length) : R[j]'(by have := h.ln; omega) = es[j] := by
  have h2 := h.bk j (Nat.le_refl _)
  rw [List.getElem?_eq_getElem hj, List.getElem?_eq_getElem (by have := h.ln; omega)] at h2
  injection h2
end Go.Proofs.Ytgpjjolgpppeeaa
