/-
 Chapter 10, a document's version and the text at it: the model's contracts. Own work.
-/
import Derived.Test.YtaekanhjkpoifaaGreatDoorRp10
import Derived.Test.YtaekanhjkpoifaaGreatDoorRD06
namespace Go.Proofs.YtaekanhjkpoifaaGreatDoor
open Go.RowKit P
set_option linter.unusedVariables false
set_option linter.unusedSimpArgs false
set_option maxRecDepth 100000

/-- What a list of the edits of a log ends in, told with where it lies. -/
def EsOfP (lg : List Cm) (w : World) (e : Ending) (w' : World) : Prop := ∃ A c, e = .returned (.slice A lg.length c) ∧ lg.length ≤ c ∧ c ≤ maxLen ∧ Es w' A (logE lg) ∧ ((A = none → c = 0) ∧ ∀ x, A = some x → ∃ g, x = ⟨g, 0, none⟩) ∧ Below w.heap.size w w'
theorem EsOfP.mk {lg : List Cm} {w w' : World} {v : Value} {base : Nat} (h : OwnR w w' base v (logE lg)) (hb : Below w.heap.size w w') : EsOfP lg w (.returned v) w' := by
 obtain ⟨A, c, e, h1, h2, h3⟩ := h.es hb
 rw [logE_length] at h1
 obtain ⟨L, _, hrow, _⟩ := h
 subst e
 refine ⟨A, c, by rw [logE_length], h1, h2, h3, ?_, hb⟩
 rcases hrow.2 with ⟨hv, _⟩ | ⟨g, cap, cur, hv, _⟩
 ·simp only [Value.slice.injEq] at hv
  exact ⟨fun _ => hv.2.2, fun x hx => (by rw [hv.1] at hx; cases hx)⟩
 ·simp only [Value.slice.injEq] at hv
  exact ⟨fun h0 => (by rw [hv.1] at h0; cases h0), fun x hx => ⟨g, (by rw [hv.1] at hx; exact (Option.some.inj hx).symm)⟩⟩

end Go.Proofs.YtaekanhjkpoifaaGreatDoor
