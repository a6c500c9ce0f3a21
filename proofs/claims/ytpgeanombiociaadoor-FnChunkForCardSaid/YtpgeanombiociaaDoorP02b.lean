/-
  Chapter 2 in plain Lean, the second part: where a byte of a concatenation lies. No program here. Own work.
-/
import Derived.Test.YtpgeanombiociaaDoorP02
namespace Go.Proofs.YtpgeanombiociaaDoor.P
set_option linter.unusedVariables false

def totL (ls : List (List UInt8)) : Nat := ls.flatten.length

theorem chunkFrom_spec : ∀ (ls : List (List UInt8)) (i : Nat) (a : Int), 0 ≤ a →
    (chunkFrom i ls a = (-1, -1) ∧ (totL ls : Int) < a) ∨
    ∃ k j : Nat, chunkFrom i ls a = (((i + k : Nat) : Int), (j : Int)) ∧ a = totL (ls.take k) + j ∧ ((k = ls.length ∧ j = 0) ∨ ∃ h : k < ls.length, j < (ls[k]).length ∧ ls.flatten[totL (ls.take k) + j]? = (ls[k])[j]?) := by
  intro ls
  induction ls with
  | nil =>
    intro i a ha
    by_cases h : 0 < a
    · left; simp [chunkFrom, h, totL]
    · right
      refine ⟨0, 0, by simp [chunkFrom, h], by simp [totL]; omega, .inl ⟨rfl, rfl⟩⟩
  | cons l t ih =>
    intro i a ha
    simp only [chunkFrom]
    by_cases h : a < l.length
    · right
      rw [if_pos h]
      obtain ⟨j, rfl⟩ := Int.eq_ofNat_of_zero_le ha
      refine ⟨0, j, by simp, by simp [totL], .inr ⟨by simp, by simpa using h, ?_⟩⟩
      have hj : j < l.length := by omega
      simp only [List.take_zero, List.getElem_cons_zero, List.flatten_cons]
      rw [show totL [] + j = j by simp [totL], List.getElem?_append_left hj]
    · rw [if_neg h]
      rcases ih (i + 1) (a - l.length) (by omega) with ⟨h1, h2⟩ | ⟨k, j, h1, h2, h3⟩
      · left
        refine ⟨h1, ?_⟩
        unfold totL at h2 ⊢
        rw [List.flatten_cons, List.length_append]
        omega
      · right
        refine ⟨k + 1, j, ?_, ?_, ?_⟩
        · rw [h1, show i + 1 + k = i + (k + 1) by omega]
        · rw [List.take_succ_cons]
          unfold totL at h2 ⊢
          rw [List.flatten_cons, List.length_append]
          omega
        · rcases h3 with ⟨h4, h5⟩ | ⟨h4, h5, h6⟩
          · exact .inl ⟨by simp [h4], h5⟩
          · refine .inr ⟨by simpa using h4, by simpa using h5, ?_⟩
            simp only [List.take_succ_cons, List.getElem_cons_succ]
            rw [← h6]
            unfold totL
            rw [List.flatten_cons, List.flatten_cons, List.length_append, List.getElem?_append_right (by omega)]
            congr 1
            omega

theorem chunkFor_cases (ls : List (List UInt8)) (a : Int) :
    chunkFor ls a = (-1, -1) ∨
    (chunksOk ls = true ∧ ∃ k j : Nat, chunkFor ls a = ((k : Int), (j : Int)) ∧ a = totL (ls.take k) + j ∧ ((k = ls.length ∧ j = 0) ∨ ∃ h : k < ls.length, j < (ls[k]).length ∧ ls.flatten[totL (ls.take k) + j]? = (ls[k])[j]?)) := by
  unfold chunkFor
  by_cases h : a < 0 ∨ chunksOk ls = false
  · left; rw [if_pos h]
  · rw [if_neg h]
    have hok : chunksOk ls = true := by cases hc : chunksOk ls with
      | true => rfl
      | false => exact absurd (.inr hc) h
    rcases chunkFrom_spec ls 0 a (by omega) with ⟨h1, _⟩ | ⟨k, j, h1, h2, h3⟩
    · left; exact h1
    · right; exact ⟨hok, k, j, by simpa using h1, h2, h3⟩

end Go.Proofs.YtpgeanombiociaaDoor.P
