/-
  Chapter 5, the mathematics of joined edits and of lists of edits. Own work.
-/
import Derived.Test.YtaekanhjkpoifaaDoorP08
namespace Go.Proofs.YtaekanhjkpoifaaDoor
namespace P
set_option linter.unusedVariables false

def edSmall (a m : Int) (p : List UInt8) : Bool := decide (0 ≤ a) && (decide (a ≤ 400) && (decide (0 ≤ m) && (decide (m ≤ 400) && decide (p.length ≤ 400))))
theorem edSmall_iff (a m : Int) (p : List UInt8) : edSmall a m p = true ↔ 0 ≤ a ∧ a ≤ 400 ∧ 0 ≤ m ∧ m ≤ 400 ∧ p.length ≤ 400 := by
  unfold edSmall
  simp only [Bool.and_eq_true, decide_eq_true_eq]
/-- The put of the edit b n q behind the edit a m p, in one. -/
def joinPut (a : Int) (p : List UInt8) (b n : Int) (q : List UInt8) : List UInt8 := p.take (b - a).toNat ++ (q ++ p.drop (b - a + n).toNat)
def joinOk (a m : Int) (p : List UInt8) (b n : Int) (q : List UInt8) : Bool :=
  edSmall a m p && (edSmall b n q && (decide (a ≤ b) && (decide (b + n ≤ a + p.length) && decide ((joinPut a p b n q).length ≤ 400))))
theorem joinOk_iff (a m : Int) (p : List UInt8) (b n : Int) (q : List UInt8) : joinOk a m p b n q = true ↔ edSmall a m p = true ∧ edSmall b n q = true ∧ a ≤ b ∧ b + n ≤ a + p.length ∧ (joinPut a p b n q).length ≤ 400 := by
  unfold joinOk
  simp only [Bool.and_eq_true, decide_eq_true_eq]
def joinA (a m : Int) (p : List UInt8) (b n : Int) (q : List UInt8) : Int := if joinOk a m p b n q = true then a else 0
def joinM (a m : Int) (p : List UInt8) (b n : Int) (q : List UInt8) : Int := if joinOk a m p b n q = true then m else 0
def joinP (a m : Int) (p : List UInt8) (b n : Int) (q : List UInt8) : List UInt8 := if joinOk a m p b n q = true then joinPut a p b n q else []
theorem joinPut_len {a m : Int} {p : List UInt8} {b n : Int} {q : List UInt8} (h1 : edSmall a m p = true) (h2 : edSmall b n q = true) (h3 : a ≤ b) (h4 : b + n ≤ a + p.length) : ((joinPut a p b n q).length : Int) = p.length - n + q.length := by
  have s1 := (edSmall_iff a m p).1 h1
  have s2 := (edSmall_iff b n q).1 h2
  unfold joinPut
  rw [List.length_append, List.length_append, List.length_take, List.length_drop]
  omega
theorem joinP_len (a m : Int) (p : List UInt8) (b n : Int) (q : List UInt8) : (joinP a m p b n q).length ≤ 400 := by
  unfold joinP
  split
  · rename_i h; exact ((joinOk_iff a m p b n q).1 h).2.2.2.2
  · simp

/-- The joined edit has the effect of both. -/
theorem join_text {t : List UInt8} {a m : Int} {p : List UInt8} {b n : Int} {q : List UInt8} (h1 : edOk t a m p = true) (h2 : edOk (edText t a m p) b n q = true) (hj : joinOk a m p b n q = true) :
    edOk t a m (joinPut a p b n q) = true ∧ edText t a m (joinPut a p b n q) = edText (edText t a m p) b n q := by
  obtain ⟨s1, s2, h3, h4, h5⟩ := (joinOk_iff a m p b n q).1 hj
  have r1 := edOk_range h1
  have r2 := edOk_range h2
  have l1 := edText_len h1
  have hl := joinPut_len s1 s2 h3 h4
  obtain ⟨k1, k2, k3, k4, k5, k6⟩ := (edOk_iff t a m p).1 h1
  obtain ⟨g1, g2, g3, g4, g5, g6⟩ := (edOk_iff (edText t a m p) b n q).1 h2
  obtain ⟨t1, t2, t3, t4⟩ := ed_texts h1
  have htk : (t.take a.toNat).length = a.toNat := by rw [List.length_take]; omega
  -- inside what a has put
  have hin : ∀ k : Nat, k ≤ p.length → isBound (edText t a m p) (a + (k : Int)) = true → isBound p (k : Int) = true := by
    intro k hk hb
    have e1 : a + (k : Int) = (((t.take a.toNat).length + k : Nat) : Int) := by rw [htk]; omega
    unfold edText at hb
    rw [e1, isBound_app_right _ _ k (by rw [List.length_append]; omega)] at hb
    by_cases hlt : k < p.length
    · rwa [isBound_app_left p _ k hlt] at hb
    · rw [show k = p.length by omega]; exact isBound_end p
  have b1 : isBound p (((b - a).toNat : Nat) : Int) = true := hin _ (by omega) (by rw [show a + (((b - a).toNat : Nat) : Int) = b by omega]; exact g4)
  have b2 : isBound p (((b - a + n).toNat : Nat) : Int) = true := hin _ (by omega) (by rw [show a + (((b - a + n).toNat : Nat) : Int) = b + n by omega]; exact g5)
  have hput : okS 0 (joinPut a p b n q) = true := by
    unfold joinPut
    exact okS_app _ _ _ (Nat.le_refl _) (okS_take _ p _ (Nat.le_refl _) (by omega) t4 b1) (okS_app _ _ _ (Nat.le_refl _) (isText_ok g3) (okS_of_bound t4 (by omega) b2))
  refine ⟨(edOk_iff _ _ _ _).2 ⟨k1, k2, isText_of h5 hput, k4, k5, by omega⟩, ?_⟩
  have d1 : (edText t a m p).take b.toNat = t.take a.toNat ++ p.take (b - a).toNat := by
    unfold edText
    rw [List.take_append, List.take_of_length_le (by omega), htk, show b.toNat - a.toNat = (b - a).toNat by omega, List.take_append_of_le_length (by omega)]
  have d2 : (edText t a m p).drop (b + n).toNat = p.drop (b - a + n).toNat ++ t.drop (a + m).toNat := by
    unfold edText
    rw [List.drop_append, List.drop_of_length_le (by omega), htk, show (b + n).toNat - a.toNat = (b - a + n).toNat by omega, List.drop_append_of_le_length (by omega), List.nil_append]
  rw [show edText (edText t a m p) b n q = (edText t a m p).take b.toNat ++ (q ++ (edText t a m p).drop (b + n).toNat) from rfl, d1, d2]
  unfold edText joinPut
  simp only [List.append_assoc]

/-- An edit of a list. -/
abbrev Ed := Int × Int × List UInt8
/-- The edits done one behind the other, and how many of them were valid. -/
def edsRun : List UInt8 → List Ed → List UInt8 × Nat
  | t, [] => (t, 0)
  | t, e :: es => if edOk t e.1 e.2.1 e.2.2 = true then ((edsRun (edText t e.1 e.2.1 e.2.2) es).1, (edsRun (edText t e.1 e.2.1 e.2.2) es).2 + 1) else (t, 0)
def edsText (t : List UInt8) (es : List Ed) : List UInt8 := if isText t = true then (edsRun t es).1 else []
def edsN (t : List UInt8) (es : List Ed) : Int := if isText t = true then (edsRun t es).2 else -1
theorem edsRun_le (es : List Ed) : ∀ t, (edsRun t es).2 ≤ es.length := by
  induction es with
  | nil => intro t; exact Nat.le_refl _
  | cons e es ih =>
    intro t
    unfold edsRun
    split
    · have := ih (edText t e.1 e.2.1 e.2.2)
      simp only [List.length_cons]; omega
    · exact Nat.zero_le _
theorem edsRun_text (es : List Ed) : ∀ t, isText t = true → isText (edsRun t es).1 = true := by
  induction es with
  | nil => intro t h; exact h
  | cons e es ih =>
    intro t h
    unfold edsRun
    split
    · rename_i hok; exact ih _ (edText_ok hok)
    · exact h
/-- In two parts as at once. -/
theorem edsRun_split (es : List Ed) : ∀ (t : List UInt8) (k : Nat), k ≤ (edsRun t es).2 →
    (edsRun t (es.take k)).2 = k ∧ (edsRun (edsRun t (es.take k)).1 (es.drop k)).1 = (edsRun t es).1 ∧ (edsRun (edsRun t (es.take k)).1 (es.drop k)).2 + k = (edsRun t es).2 := by
  induction es with
  | nil =>
    intro t k hk
    have : k = 0 := by simpa [edsRun] using hk
    subst this
    exact ⟨rfl, rfl, rfl⟩
  | cons e es ih =>
    intro t k hk
    cases k with
    | zero => exact ⟨rfl, rfl, rfl⟩
    | succ k =>
      rw [List.take_succ_cons, List.drop_succ_cons]
      by_cases h : edOk t e.1 e.2.1 e.2.2 = true
      · have e1 : ∀ l, edsRun t (e :: l) = ((edsRun (edText t e.1 e.2.1 e.2.2) l).1, (edsRun (edText t e.1 e.2.1 e.2.2) l).2 + 1) := fun l => by
          show (if edOk t e.1 e.2.1 e.2.2 = true then _ else _) = _
          rw [if_pos h]
        rw [e1] at hk ⊢
        rw [e1]
        obtain ⟨g1, g2, g3⟩ := ih (edText t e.1 e.2.1 e.2.2) k (by simpa using hk)
        exact ⟨by simp only [g1], g2, by simp only; omega⟩
      · have e1 : ∀ l, edsRun t (e :: l) = (t, 0) := fun l => by
          show (if edOk t e.1 e.2.1 e.2.2 = true then _ else _) = _
          rw [if_neg h]
        rw [e1] at hk
        simp at hk
end P
end Go.Proofs.YtaekanhjkpoifaaDoor
