/-
  Chapter 5, the mathematics of the edit that changes one text into the other: what both begin and end with. Own work.
-/
import Derived.Test.YtepffgahgfipjaaDoorP08
import Derived.Test.YtepffgahgfipjaaDoorP04b
namespace Go.Proofs.YtepffgahgfipjaaDoor
namespace P
set_option linter.unusedVariables false

/-- How many bytes both begin with. -/
def lcp : List UInt8 → List UInt8 → Nat
  | x :: s, y :: t => if x = y then lcp s t + 1 else 0
  | _, _ => 0
theorem lcp_nil (b : List UInt8) : lcp [] b = 0 := by cases b <;> rfl
theorem lcp_le : ∀ (a b : List UInt8), lcp a b ≤ a.length ∧ lcp a b ≤ b.length
  | [], b => by rw [lcp_nil]; exact ⟨Nat.zero_le _, Nat.zero_le _⟩
  | x :: s, [] => ⟨Nat.zero_le _, Nat.zero_le _⟩
  | x :: s, y :: t => by
    have := lcp_le s t
    unfold lcp
    split
    · simp only [List.length_cons]; omega
    · exact ⟨Nat.zero_le _, Nat.zero_le _⟩
theorem take_lcp : ∀ (a b : List UInt8) (k : Nat), k ≤ a.length → k ≤ b.length → (a.take k = b.take k ↔ k ≤ lcp a b)
  | a, b, 0, _, _ => by simp
  | [], b, k + 1, h, _ => by simp at h
  | x :: s, [], k + 1, _, h => by simp at h
  | x :: s, y :: t, k + 1, h1, h2 => by
    have ih := take_lcp s t k (by simpa using h1) (by simpa using h2)
    unfold lcp
    rw [List.take_succ_cons, List.take_succ_cons, List.cons.injEq, ih]
    by_cases e : x = y
    · rw [if_pos e]; constructor
      · rintro ⟨_, h⟩; omega
      · intro h; exact ⟨e, by omega⟩
    · rw [if_neg e]; constructor
      · rintro ⟨h, _⟩; exact absurd h e
      · intro h; omega
theorem lcp_step {a b : List UInt8} {k : Nat} (h1 : k < a.length) (h2 : k < b.length) (hk : k ≤ lcp a b) : (a[k] = b[k] ↔ k + 1 ≤ lcp a b) := by
  have e0 := (take_lcp a b k (by omega) (by omega)).2 hk
  rw [← take_lcp a b (k + 1) (by omega) (by omega), List.take_succ_eq_append_getElem h1, List.take_succ_eq_append_getElem h2, e0, List.append_cancel_left_eq]
  simp only [List.cons.injEq, and_true]

/-- How many bytes both end with. -/
def lcs (a b : List UInt8) : Nat := lcp a.reverse b.reverse
theorem lcs_le (a b : List UInt8) : lcs a b ≤ a.length ∧ lcs a b ≤ b.length := by
  have := lcp_le a.reverse b.reverse
  simpa [lcs] using this
theorem drop_rev (a : List UInt8) (k : Nat) (h : k ≤ a.length) : (a.reverse.take k) = (a.drop (a.length - k)).reverse := by
  rw [List.take_reverse]
theorem drop_lcs (a b : List UInt8) (k : Nat) (h1 : k ≤ a.length) (h2 : k ≤ b.length) : (a.drop (a.length - k) = b.drop (b.length - k) ↔ k ≤ lcs a b) := by
  unfold lcs
  rw [← take_lcp a.reverse b.reverse k (by simpa using h1) (by simpa using h2), drop_rev a k h1, drop_rev b k h2]
  constructor
  · intro h; rw [h]
  · intro h; have := congrArg List.reverse h; simpa using this
theorem lcs_step {a b : List UInt8} {k : Nat} (h1 : k < a.length) (h2 : k < b.length) (hk : k ≤ lcs a b) : (a[a.length - 1 - k] = b[b.length - 1 - k] ↔ k + 1 ≤ lcs a b) := by
  have := lcp_step (a := a.reverse) (b := b.reverse) (k := k) (by simpa using h1) (by simpa using h2) hk
  rw [List.getElem_reverse, List.getElem_reverse] at this
  exact this

/-- The greatest k up to n at which a's last k bytes begin at a boundary. -/
def sufTo (a : List UInt8) : Nat → Nat
  | 0 => 0
  | n + 1 => if isBound a ((a.length : Int) - ((n + 1 : Nat) : Int)) = true then n + 1 else sufTo a n
theorem sufTo_le (a : List UInt8) (n : Nat) : sufTo a n ≤ n := by
  induction n with
  | zero => exact Nat.le_refl _
  | succ n ih => unfold sufTo; split <;> omega
theorem sufTo_bound (a : List UInt8) (n : Nat) : isBound a ((a.length : Int) - (sufTo a n : Nat)) = true := by
  induction n with
  | zero => simpa [sufTo] using isBound_end a
  | succ n ih =>
    unfold sufTo
    split
    · assumption
    · exact ih
theorem sufTo_here (a : List UInt8) (k : Nat) (h : isBound a ((a.length : Int) - (k : Int)) = true) : sufTo a k = k := by
  cases k with
  | zero => rfl
  | succ n => unfold sufTo; rw [if_pos h]
theorem sufTo_next (a : List UInt8) (k : Nat) (h : isBound a ((a.length : Int) - ((k + 1 : Nat) : Int)) = false) : sufTo a (k + 1) = sufTo a k := by
  show (if isBound a ((a.length : Int) - ((k + 1 : Nat) : Int)) = true then k + 1 else sufTo a k) = _
  rw [if_neg (by rw [h]; decide)]

/-- Where both begin alike, a boundary of one text is one of the other. -/
theorem bound_both {a b : List UInt8} (ha : okS 0 a = true) (hb : okS 0 b = true) {k : Nat} (h1 : k ≤ a.length) (h2 : k ≤ b.length) (he : a.take k = b.take k) (h : isBound a (k : Int) = true) : isBound b (k : Int) = true := by
  have hx := okS_take _ a k (Nat.le_refl _) h1 ha h
  rw [he] at hx
  have hb' : okS 0 (b.take k ++ b.drop k) = true := by rw [List.take_append_drop]; exact hb
  have hy := okS_app_right _ _ _ (Nat.le_refl _) hx hb'
  have := bound_join (x := b.take k) hy
  rw [List.take_append_drop, List.length_take, Nat.min_eq_left h2] at this
  exact this
/-- And where both end alike. -/
theorem bound_ends {a b : List UInt8} {k : Nat} (h1 : k ≤ a.length) (h2 : k ≤ b.length) (he : a.drop (a.length - k) = b.drop (b.length - k)) : isBound a ((a.length : Int) - (k : Int)) = isBound b ((b.length : Int) - (k : Int)) := by
  cases k with
  | zero => simp only [Int.natCast_zero, Int.sub_zero, isBound_end]
  | succ n =>
    rw [show (a.length : Int) - ((n + 1 : Nat) : Int) = ((a.length - (n + 1) : Nat) : Int) by omega, show (b.length : Int) - ((n + 1 : Nat) : Int) = ((b.length - (n + 1) : Nat) : Int) by omega,
      isBound_lt a _ (by omega), isBound_lt b _ (by omega)]
    rw [List.drop_eq_getElem_cons (by omega), List.drop_eq_getElem_cons (l := b) (by omega), List.cons.injEq] at he
    rw [he.1]

/-- Where the edit that changes a into b begins, and how much of the ends it keeps. -/
def ofAt (a b : List UInt8) : Nat := cutTo a (lcp a b)
def ofEnd (a b : List UInt8) : Nat := sufTo (a.drop (ofAt a b)) (lcs (a.drop (ofAt a b)) (b.drop (ofAt a b)))
def ofOk (a b : List UInt8) : Bool := isText a && isText b
def ofA (a b : List UInt8) : Int := if ofOk a b = true then ofAt a b else 0
def ofM (a b : List UInt8) : Int := if ofOk a b = true then (a.length : Int) - ofAt a b - ofEnd a b else 0
def ofP (a b : List UInt8) : List UInt8 := if ofOk a b = true then (b.drop (ofAt a b)).take (b.length - ofAt a b - ofEnd a b) else []
theorem ofAt_le (a b : List UInt8) : ofAt a b ≤ a.length ∧ ofAt a b ≤ b.length := by
  have h1 := cutTo_le a (lcp a b)
  have h2 := lcp_le a b
  unfold ofAt
  omega
theorem ofEnd_le (a b : List UInt8) : ofEnd a b ≤ a.length - ofAt a b ∧ ofEnd a b ≤ b.length - ofAt a b := by
  have h1 := sufTo_le (a.drop (ofAt a b)) (lcs (a.drop (ofAt a b)) (b.drop (ofAt a b)))
  have h2 := lcs_le (a.drop (ofAt a b)) (b.drop (ofAt a b))
  rw [List.length_drop, List.length_drop] at h2
  unfold ofEnd
  omega
end P
end Go.Proofs.YtepffgahgfipjaaDoor
