/-
  Chapter 8, plain: undo stacks as two lists of edits. Own work.
-/
import Derived.Test.YtdmmdbapkogdhaaP09
namespace Go.Proofs.Ytdmmdbapkogdhaa
open Go.RowKit P
set_option linter.unusedVariables false

def smallE (e : Ed) : Bool := edSmall e.1 e.2.1 e.2.2
/-- A list that a stack may hold. -/
def stFit (es : List Ed) : Bool := decide (es.length ≤ 6) && es.all smallE
def stOk (u r : List Ed) : Bool := stFit u && stFit r
theorem stFit_len {es : List Ed} (h : stFit es = true) : es.length ≤ 6 := by
  unfold stFit at h
  rw [Bool.and_eq_true] at h
  exact of_decide_eq_true h.1
theorem stFit_all {es : List Ed} (h : stFit es = true) : ∀ e ∈ es, smallE e = true := by
  unfold stFit at h
  rw [Bool.and_eq_true] at h
  exact List.all_eq_true.1 h.2
theorem stFit_of {es : List Ed} (hl : es.length ≤ 6) (h : ∀ e ∈ es, smallE e = true) : stFit es = true := by
  unfold stFit
  rw [Bool.and_eq_true]
  exact ⟨decide_eq_true hl, List.all_eq_true.2 h⟩
theorem stFit_big {es : List Ed} (h : ¬ es.length ≤ 6) : stFit es = false := by unfold stFit; rw [decide_eq_false h]; rfl
theorem stFit_bad {es : List Ed} {k : Nat} (hk : k < es.length) (h : smallE es[k] = false) : stFit es = false := by
  cases hf : stFit es
  · rfl
  · rw [stFit_all hf _ (List.getElem_mem hk)] at h; cases h
theorem stFit_yes {es : List Ed} (hl : es.length ≤ 6) : stFit es = es.all smallE := by unfold stFit; rw [decide_eq_true hl]; rfl

/-- A list with one more on top; a full one drops its oldest. -/
def topE (es : List Ed) (e : Ed) : List Ed := if es.length < 6 then es ++ [e] else (es ++ [e]).drop 1
theorem topE_full {es : List Ed} {e : Ed} (h : es.length = 6) : topE es e = es.drop 1 ++ [e] := by
  unfold topE
  rw [if_neg (by omega), List.drop_append_of_le_length (by omega)]
theorem topE_room {es : List Ed} {e : Ed} (h : es.length < 6) : topE es e = es ++ [e] := by unfold topE; rw [if_pos h]
theorem topE_len {es : List Ed} (e : Ed) (h : es.length ≤ 6) : (topE es e).length ≤ 6 := by
  unfold topE
  split
  · rw [List.length_append, List.length_singleton]; omega
  · rw [List.length_drop, List.length_append, List.length_singleton]; omega
def lastE (es : List Ed) : Ed := es.getLastD (0, 0, [])
/-- What StackPush, StackTop, StackTurn, StackMoved give; the flag last. -/
def pushOk (u r : List Ed) (e : Ed) : Bool := stOk u r && smallE e
def pushU (u r : List Ed) (e : Ed) : List Ed := if pushOk u r e = true then topE u e else []
def sideE (u r : List Ed) (redo : Bool) : List Ed := if redo = true then r else u
def topOk (u r : List Ed) (redo : Bool) : Bool := stOk u r && decide (0 < (sideE u r redo).length)
def topV (u r : List Ed) (redo : Bool) : Ed := if topOk u r redo = true then lastE (sideE u r redo) else (0, 0, [])
def turnOk (u r : List Ed) (redo : Bool) (e : Ed) : Bool := topOk u r redo && smallE e
def turnU (u r : List Ed) (redo : Bool) (e : Ed) : List Ed := if turnOk u r redo e = true then (if redo = true then topE u e else u.take (u.length - 1)) else []
def turnR (u r : List Ed) (redo : Bool) (e : Ed) : List Ed := if turnOk u r redo e = true then (if redo = true then r.take (r.length - 1) else topE r e) else []
end Go.Proofs.Ytdmmdbapkogdhaa
