/-
  Chapter 7, LeaseAll in the model: contract. Own work.
-/
import Derived.Test.YtgpjjolgpppeeaaC10
import Derived.Test.YtgpjjolgpppeeaaS10
namespace Go.Proofs.Ytgpjjolgpppeeaa
open Go.RowKit P
set_option linter.unusedVariables false
set_option linter.unusedSimpArgs false
set_option maxRecDepth 100000

/-- The leases of a session. -/
def leAll (es : List Le) (a : Int) : List Le := if leOk es = true then es.filter (fun l => decide (l.2.2.1 = a)) else []

theorem leAll_len (es : List Le) (a : Int) : (leAll es a).length ≤ 1000000 := by
  unfold leAll
  split
  · rename_i h
    have h1 := leOk_len h
    have h2 := List.length_filter_le (fun l : Le => decide (l.2.2.1 = a)) es
    omega
  · simp
theorem filter_step {p : Le → Bool} {es : List Le} {k : Nat} (hk : k < es.length) : (es.take (k + 1)).filter p = (es.take k).filter p ++ (if p es[k] = true then [es[k]] else []) := by
  rw [List.take_succ_eq_append_getElem hk, List.filter_append]
  congr 1
  by_cases h : p es[k] = true
  · rw [if_pos h, List.filter_cons_of_pos h]; rfl
  · rw [if_neg h, List.filter_cons_of_neg h]; rfl
theorem ll_new (w : World) {l : Le} (h : leIn l) : Ll (w.alloc (.cells (leC l) 43)) (some ⟨w.heap.size, 0, none⟩) [l] := by
  intro k hk
  have hk0 : k = 0 := by simpa using hk
  subst hk0
  have hB := Blk.new w (leC l) 43
  refine ⟨w.heap.size, 0, (leC l).toList, rfl, hB.lt, rfl, fun j hj => ?_, Lay.lease.read (own_lease _ h)⟩
  rw [show 0 + (0 * 4 + j) = j by omega, hB.cell j]
  simp only [List.getElem_cons, Array.getElem_toList]
  rw [Array.getElem?_eq_getElem]

end Go.Proofs.Ytgpjjolgpppeeaa
