/-
  Chapter 5, the mathematics of the edit that changes one text into the other: what both begin and end with. Own work.
  Chapter 5, what the edit that changes one text into the other does. Own work.
-/
import Derived.Test.YtkplfbhblbinaaaDoorP08
import Derived.Test.YtkplfbhblbinaaaDoorP04b
namespace Go.Proofs.YtkplfbhblbinaaaDoor
namespace P
set_option linter.unusedVariables false

/-- How many bytes both begin with. -/
def lcp : List UInt8 → List UInt8 → Nat
  | x :: s, y :: t => if x = y then lcp s t + 1 else 0
  | _, _ => 0
theorem lcp_nil (b : List UInt8) : lcp [] b = 0 := by cases b <;> rfl
theorem lcp_le : ∀ (a b : List UInt8), lcp a b ≤ a.length ∧ lcp a b ≤ b.length
  | [], b => by rw [lcp_nil]; exact ⟨Nat.zero_le _, Nat.zero_le _⟩
  | x :: s, [] => ⟨Nat.zero_le _, Nat.zero_le _⟩
  | x :: s, y :: t => by
    have := lcp_le s t
    unfold lcp
    split
    · simp only [List.length_cons]; omega
    · exact ⟨Nat.zero_le _, Nat.zero_le _⟩
theorem take_lcp : ∀ (a b : List UInt8) (k : Nat), k ≤ a.length → k ≤ b.length → (a.take k = b.take k ↔ k ≤ lcp a b)
  | a, b, 0, _, _ => by simp
  | [], b, k + 1, h, _ => by simp at h
  | x :: s, [], k + 1, _, h => by simp at h
  | x :: s, y :: t, k + 1, h1, h2 => by
    have ih := take_lcp s t k (by simpa using h1) (by simpa using h2)
    unfold lcp
    rw [List.take_succ_cons, List.take_succ_cons, List.cons.injEq, ih]
    by_cases e : x = y
    · rw [if_pos e]; constructor
      · rintro ⟨_, h⟩; omega
      · intro h; exact ⟨e, by omega⟩
    · rw [if_neg e]; constructor
      · rintro ⟨h, _⟩; exact absurd h e
      · intro h; omega
theorem lcp_step {a b : List UInt8} {k : Nat} (h1 : k < a.length) (h2 : k < b.length) (hk : k ≤ lcp a b) : (a[k] = b[k] ↔ k + 1 ≤ lcp a b) := by
  have e0 := (take_lcp a b k (by omega) (by omega)).2 hk
  rw [← take_lcp a b (k + 1) (by omega) (by omega), List.take_succ_eq_append_getElem h1, List.take_succ_eq_append_getElem h2, e0, List.append_cancel_left_eq]
  simp only [List.cons.injEq, and_true]

/-- How many bytes both end with. -/
def lcs (a b : List UInt8) : Nat := lcp a.reverse b.reverse
theorem lcs_le (a b : List UInt8) : lcs a b ≤ a.length ∧ lcs a b ≤ b.length := by
  have := lcp_le a.reverse b.reverse
  simpa [lcs] using this
theorem drop_rev (a : List UInt8) (k : Nat) (h : k ≤ a.length) : (a.reverse.take k) = (a.drop (a.length - k)).reverse := by
  rw [List.take_reverse]
theorem drop_lcs (a b : List UInt8) (k : Nat) (h1 : k ≤ a.length) (h2 : k ≤ b.length) : (a.drop (a.length - k) = b.drop (b.length - k) ↔ k ≤ lcs a b) := by
  unfold lcs
  rw [← take_lcp a.reverse b.reverse k (by simpa using h1) (by simpa using h2), drop_rev a k h1, drop_rev b k h2]
  constructor
  · intro h; rw [h]
  · intro h; have := congrArg List.reverse h; simpa using this
theorem lcs_step {a b : List UInt8} {k : Nat} (h1 : k < a.length) (h2 : k < b.length) (hk : k ≤ lcs a b) : (a[a.length - 1 - k] = b[b.length - 1 - k] ↔ k + 1 ≤ lcs a b) := by
  have := lcp_step (a := a.reverse) (b := b.reverse) (k := k) (by simpa using h1) (by simpa using h2) hk
  rw [List.getElem_reverse, List.getElem_reverse] at this
  exact this

/-- The greatest k up to n at which a's last k bytes begin at a boundary. -/
def sufTo (a : List UInt8) : Nat → Nat
  | 0 => 0
  | n + 1 => if isBound a ((a.length : Int) - ((n + 1 : Nat) : Int)) = true then n + 1 else sufTo a n
theorem sufTo_le (a : List UInt8) (n : Nat) : sufTo a n ≤ n := by
  induction n with
  | zero => exact Nat.le_refl _
  | succ n ih => unfold sufTo; split <;> omega
theorem sufTo_bound (a : List UInt8) (n : Nat) : isBound a ((a.length : Int) - (sufTo a n : Nat)) = true := by
  induction n with
  | zero => simpa [sufTo] using isBound_end a
  | succ n ih =>
    unfold sufTo
    split
    · assumption
    · exact ih
theorem sufTo_here (a : List UInt8) (k : Nat) (h : isBound a ((a.length : Int) - (k : Int)) = true) : sufTo a k = k := by
  cases k with
  | zero => rfl
  | succ n => unfold sufTo; rw [if_pos h]
theorem sufTo_next (a : List UInt8) (k : Nat) (h : isBound a ((a.length : Int) - ((k + 1 : Nat) : Int)) = false) : sufTo a (k + 1) = sufTo a k := by
  show (if isBound a ((a.length : Int) - ((k + 1 : Nat) : Int)) = true then k + 1 else sufTo a k) = _
  rw [if_neg (by rw [h]; decide)]

/-- Where both begin alike, a boundary of one text is one of the other. -/
theorem bound_both {a b : List UInt8} (ha : okS 0 a = true) (hb : okS 0 b = true) {k : Nat} (h1 : k ≤ a.length) (h2 : k ≤ b.length) (he : a.take k = b.take k) (h : isBound a (k : Int) = true) : isBound b (k : Int) = true := by
  have hx := okS_take _ a k (Nat.le_refl _) h1 ha h
  rw [he] at hx
  have hb' : okS 0 (b.take k ++ b.drop k) = true := by rw [List.take_append_drop]; exact hb
  have hy := okS_app_right _ _ _ (Nat.le_refl _) hx hb'
  have := bound_join (x := b.take k) hy
  rw [List.take_append_drop, List.length_take, Nat.min_eq_left h2] at this
  exact this
/-- And where both end alike. -/
theorem bound_ends {a b : List UInt8} {k : Nat} (h1 : k ≤ a.length) (h2 : k ≤ b.length) (he : a.drop (a.length - k) = b.drop (b.length - k)) : isBound a ((a.length : Int) - (k : Int)) = isBound b ((b.length : Int) - (k : Int)) := by
  cases k with
  | zero => simp only [Int.natCast_zero, Int.sub_zero, isBound_end]
  | succ n =>
    rw [show (a.length : Int) - ((n + 1 : Nat) : Int) = ((a.length - (n + 1) : Nat) : Int) by omega, show (b.length : Int) - ((n + 1 : Nat) : Int) = ((b.length - (n + 1) : Nat) : Int) by omega,
      isBound_lt a _ (by omega), isBound_lt b _ (by omega)]
    rw [List.drop_eq_getElem_cons (by omega), List.drop_eq_getElem_cons (l := b) (by omega), List.cons.injEq] at he
    rw [he.1]

/-- Where the edit that changes a into b begins, and how much of the ends it keeps. -/
def ofAt (a b : List UInt8) : Nat := cutTo a (lcp a b)
def ofEnd (a b : List UInt8) : Nat := sufTo (a.drop (ofAt a b)) (lcs (a.drop (ofAt a b)) (b.drop (ofAt a b)))
def ofOk (a b : List UInt8) : Bool := isText a && isText b
def ofA (a b : List UInt8) : Int := if ofOk a b = true then ofAt a b else 0
def ofM (a b : List UInt8) : Int := if ofOk a b = true then (a.length : Int) - ofAt a b - ofEnd a b else 0
def ofP (a b : List UInt8) : List UInt8 := if ofOk a b = true then (b.drop (ofAt a b)).take (b.length - ofAt a b - ofEnd a b) else []
theorem ofAt_le (a b : List UInt8) : ofAt a b ≤ a.length ∧ ofAt a b ≤ b.length := by
  have h1 := cutTo_le a (lcp a b)
  have h2 := lcp_le a b
  unfold ofAt
  omega
theorem ofEnd_le (a b : List UInt8) : ofEnd a b ≤ a.length - ofAt a b ∧ ofEnd a b ≤ b.length - ofAt a b := by
  have h1 := sufTo_le (a.drop (ofAt a b)) (lcs (a.drop (ofAt a b)) (b.drop (ofAt a b)))
  have h2 := lcs_le (a.drop (ofAt a b)) (b.drop (ofAt a b))
  rw [List.length_drop, List.length_drop] at h2
  unfold ofEnd
  omega
end P
end Go.Proofs.YtkplfbhblbinaaaDoor

namespace Go.Proofs.YtkplfbhblbinaaaDoor
namespace P
set_option linter.unusedVariables false

theorem of_parts {a b : List UInt8} (h : ofOk a b = true) :
    a.take (ofAt a b) = b.take (ofAt a b) ∧ (a.drop (ofAt a b)).drop ((a.drop (ofAt a b)).length - ofEnd a b) = (b.drop (ofAt a b)).drop ((b.drop (ofAt a b)).length - ofEnd a b) ∧
    isBound a (ofAt a b : Int) = true ∧ isBound b (ofAt a b : Int) = true ∧ isBound (a.drop (ofAt a b)) (((a.drop (ofAt a b)).length : Int) - (ofEnd a b : Int)) = true ∧ isBound (b.drop (ofAt a b)) (((b.drop (ofAt a b)).length : Int) - (ofEnd a b : Int)) = true := by
  unfold ofOk at h
  rw [Bool.and_eq_true] at h
  have ha := isText_ok h.1
  have hb := isText_ok h.2
  have l1 := ofAt_le a b
  have l2 := ofEnd_le a b
  have h1 : a.take (ofAt a b) = b.take (ofAt a b) := (take_lcp a b _ l1.1 l1.2).2 (cutTo_le a _)
  have h3 : isBound a (ofAt a b : Int) = true := cutTo_bound a ha _
  have h4 := bound_both ha hb l1.1 l1.2 h1 h3
  have h2 : (a.drop (ofAt a b)).drop ((a.drop (ofAt a b)).length - ofEnd a b) = (b.drop (ofAt a b)).drop ((b.drop (ofAt a b)).length - ofEnd a b) :=
    (drop_lcs _ _ _ (by rw [List.length_drop]; omega) (by rw [List.length_drop]; omega)).2 (sufTo_le _ _)
  have h5 : isBound (a.drop (ofAt a b)) (((a.drop (ofAt a b)).length : Int) - (ofEnd a b : Int)) = true := sufTo_bound _ _
  have h6 := bound_ends (by rw [List.length_drop]; omega) (by rw [List.length_drop]; omega) h2
  exact ⟨h1, h2, h3, h4, h5, by rw [← h6]; exact h5⟩

theorem of_text {a b : List UInt8} (h : ofOk a b = true) : edOk a (ofA a b) (ofM a b) (ofP a b) = true ∧ edText a (ofA a b) (ofM a b) (ofP a b) = b := by
  obtain ⟨h1, h2, h3, h4, h5, h6⟩ := of_parts h
  have l1 := ofAt_le a b
  have l2 := ofEnd_le a b
  have eA : ofA a b = (ofAt a b : Int) := by unfold ofA; rw [if_pos h]
  have eM : ofM a b = (a.length : Int) - ofAt a b - ofEnd a b := by unfold ofM; rw [if_pos h]
  have eP : ofP a b = (b.drop (ofAt a b)).take (b.length - ofAt a b - ofEnd a b) := by unfold ofP; rw [if_pos h]
  rw [eA, eM, eP]
  unfold ofOk at h
  rw [Bool.and_eq_true] at h
  have ha := isText_ok h.1
  have hb := isText_ok h.2
  have la := isText_len h.1
  have lb := isText_len h.2
  generalize ofAt a b = k at *
  generalize ofEnd a b = s at *
  rw [List.length_drop] at h2 h5 h6
  rw [List.length_drop] at h2
  have e1 : (a.drop k).drop (a.length - k - s) = a.drop (a.length - s) := by rw [List.drop_drop]; congr 1; omega
  have hbd := okS_of_bound hb l1.2 h4
  have hput : okS 0 ((b.drop k).take (b.length - k - s)) = true := okS_take _ (b.drop k) _ (Nat.le_refl _) (by rw [List.length_drop]; omega) hbd (by
    rw [show ((b.length - k - s : Nat) : Int) = ((b.length - k : Nat) : Int) - (s : Int) by omega]; exact h6)
  have hpl : ((b.drop k).take (b.length - k - s)).length = b.length - k - s := by rw [List.length_take, List.length_drop]; omega
  refine ⟨(edOk_iff _ _ _ _).2 ⟨by omega, h.1, isText_of (by omega) hput, h3, ?_, by rw [hpl]; omega⟩, ?_⟩
  · rw [show (k : Int) + ((a.length : Int) - k - s) = ((k + (a.length - k - s) : Nat) : Int) by omega, ← isBound_drop a k _ l1.1 (by omega)]
    rw [show ((a.length - k - s : Nat) : Int) = ((a.length - k : Nat) : Int) - (s : Int) by omega]; exact h5
  · unfold edText
    rw [show ((k : Nat) : Int).toNat = k by omega, show ((k : Int) + ((a.length : Int) - k - s)).toNat = a.length - s by omega, ← e1, h2, List.take_append_drop, h1, List.take_append_drop]

theorem ok_enc {l : List UInt8} (h : okS 0 l = true) (hne : l ≠ []) : sz l ≠ 0 ∧ enc (decL l) = l.take (sz l) ∧ okS 0 (l.drop (sz l)) = true := by
  have hs := okS_step hne
  rw [h] at hs
  have hs' := hs.symm
  rw [Bool.and_eq_true, decide_eq_true_eq] at hs'
  obtain ⟨x, u, rfl⟩ : ∃ x u, l = x :: u := by
    cases l with
    | nil => exact absurd rfl hne
    | cons x u => exact ⟨x, u, rfl⟩
  exact ⟨hs'.1, dec_enc x u hs'.1, hs'.2⟩

/-- What is cut and what is put do not begin alike. -/
theorem of_differ {a b : List UInt8} (h : ofOk a b = true) (h1 : ofM a b ≠ 0) (h2 : (ofP a b).length ≠ 0) : runeAt a (ofA a b) ≠ runeAt (ofP a b) 0 := by
  intro he
  obtain ⟨p1, p2, p3, p4, p5, p6⟩ := of_parts h
  have l1 := ofAt_le a b
  have l2 := ofEnd_le a b
  have ht := of_text h
  obtain ⟨_, _, hpt, _, _, _⟩ := (edOk_iff _ _ _ _).1 ht.1
  have eA : ofA a b = (ofAt a b : Int) := by unfold ofA; rw [if_pos h]
  have eM : ofM a b = (a.length : Int) - ofAt a b - ofEnd a b := by unfold ofM; rw [if_pos h]
  have eP : ofP a b = (b.drop (ofAt a b)).take (b.length - ofAt a b - ofEnd a b) := by unfold ofP; rw [if_pos h]
  have hpl : (ofP a b).length = b.length - ofAt a b - ofEnd a b := by rw [eP, List.length_take, List.length_drop]; omega
  have hmax : ∀ j, j ≤ lcp a b → isBound a (j : Int) = true → j ≤ ofAt a b := fun j hj hb => cutTo_max a _ j hj hb
  rw [eM] at h1
  have hh := h
  unfold ofOk at hh
  rw [Bool.and_eq_true] at hh
  have ha := isText_ok hh.1
  obtain ⟨k, hk⟩ : ∃ k, ofAt a b = k := ⟨_, rfl⟩
  obtain ⟨p, hp⟩ : ∃ p, ofP a b = p := ⟨_, rfl⟩
  rw [hk] at p1 p3 l1 l2 eA eP hpl hmax h1
  rw [hp] at hpt eP hpl h2 he
  have hka : k < a.length := by omega
  have hda : a.drop k ≠ [] := by intro e; have := congrArg List.length e; rw [List.length_drop] at this; simp at this; omega
  have hpn : p ≠ [] := by intro e; rw [e] at h2; exact h2 rfl
  have r1 : runeAt a (ofA a b) = decL (a.drop k) := by unfold runeAt; rw [eA, if_neg (by omega), show ((k : Nat) : Int).toNat = k by omega]
  have r2 : runeAt p 0 = decL p := by unfold runeAt; rw [if_neg (by omega)]; rfl
  rw [r1, r2] at he
  obtain ⟨s1, e1, g1⟩ := ok_enc (okS_of_bound ha (by omega) p3) hda
  obtain ⟨s2, e2, g2⟩ := ok_enc (isText_ok hpt) hpn
  have hsz : sz (a.drop k) = sz p := by unfold sz; rw [he]
  have hle1 := sz_le (a.drop k)
  have hle2 := sz_le p
  rw [List.length_drop] at hle1
  rw [hsz] at e1 g1 hle1
  obtain ⟨z, hz⟩ : ∃ z, sz p = z := ⟨_, rfl⟩
  rw [hz] at e1 e2 g1 hle1 hle2 s2
  rw [hpl] at hle2
  have hpre : (a.drop k).take z = (b.drop k).take z := by
    rw [← e1, he, e2, eP, List.take_take, Nat.min_eq_left hle2]
  have htk : a.take (k + z) = b.take (k + z) := by rw [List.take_add, List.take_add, p1, hpre]
  have hj := (take_lcp a b (k + z) (by omega) (by omega)).1 htk
  have hb : isBound a ((k + z : Nat) : Int) = true := by
    rw [List.drop_drop] at g1
    have := bound_join (x := a.take (k + z)) g1
    rw [List.take_append_drop, List.length_take, Nat.min_eq_left (by omega)] at this
    exact this
  have := hmax _ hj hb
  omega
end P
end Go.Proofs.YtkplfbhblbinaaaDoor
