/-
  Chapter 2, the laws' helpers on slices of chunks: contracts, the second part. Own work.
  Chapter 2, the laws' marks on slices of chunks: contracts. Own work.
-/
import Derived.Test.YtgpjjolgpppeeaaC02
namespace Go.Proofs.Ytgpjjolgpppeeaa
open Go.RowKit P
set_option linter.unusedVariables false

end Go.Proofs.Ytgpjjolgpppeeaa

namespace Go.Proofs.Ytgpjjolgpppeeaa
open Go.RowKit P
set_option linter.unusedVariables false

/-- The marks on chunks, from k on. -/
def marksC (k : Nat) : List (List UInt8) → List (List UInt8)
  | [] => []
  | l :: t => marks k l.length :: marksC (k + l.length) t

theorem marksC_length (k : Nat) (ls : List (List UInt8)) : (marksC k ls).length = ls.length := by
  induction ls generalizing k with
  | nil => rfl
  | cons a t ih => simp [marksC, ih]

theorem marksC_snoc (k : Nat) (ls : List (List UInt8)) (a : List UInt8) : marksC k (ls ++ [a]) = marksC k ls ++ [marks (k + tot ls) a.length] := by
  induction ls generalizing k with
  | nil => simp [marksC, tot]
  | cons b t ih =>
    rw [List.cons_append, marksC, ih, marksC, List.cons_append]
    congr 3
    simp only [tot, List.flatten_cons, List.length_append]
    rw [show k + b.length + t.flatten.length = k + (b.length + t.flatten.length) by omega]

theorem marksC_get (k : Nat) (ls : List (List UInt8)) (i : Nat) (hi : i < ls.length) : (marksC k ls)[i]'(by rw [marksC_length]; exact hi) = marks (k + tot (ls.take i)) (ls[i]).length := by
  induction ls generalizing k i with
  | nil => simp at hi
  | cons a t ih =>
    cases i with
    | zero => simp [marksC, tot]
    | succ i =>
      simp only [marksC, List.getElem_cons_succ, List.take_succ_cons]
      rw [ih (k + a.length) i (by simpa using hi)]
      congr 1
      simp only [tot, List.flatten_cons, List.length_append]
      omega

theorem marksC_tot (k : Nat) (ls : List (List UInt8)) : tot (marksC k ls) = tot ls := by
  induction ls generalizing k with
  | nil => rfl
  | cons a t ih =>
    have := ih (k + a.length)
    unfold tot at this ⊢
    simp only [marksC, List.flatten_cons, List.length_append, marks_length, this]

end Go.Proofs.Ytgpjjolgpppeeaa
