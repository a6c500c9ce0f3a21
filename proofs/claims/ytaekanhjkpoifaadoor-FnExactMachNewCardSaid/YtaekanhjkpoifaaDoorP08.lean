/-
  Chapter 5, the mathematics of edits: when an edit is valid, what it makes, what undoes it. Own work.
-/
import Derived.Test.YtaekanhjkpoifaaDoorP02
namespace Go.Proofs.YtaekanhjkpoifaaDoor
namespace P
set_option linter.unusedVariables false

/-- Whether the edit that puts p for the m bytes at a is valid for the text t. -/
def edOk (t : List UInt8) (a m : Int) (p : List UInt8) : Bool :=
  decide (0 ≤ m) && (isText t && (isText p && ((isBound t a && isBound t (a + m)) && decide ((t.length : Int) - m + p.length ≤ 400))))
/-- What it makes of t. -/
def edText (t : List UInt8) (a m : Int) (p : List UInt8) : List UInt8 := t.take a.toNat ++ (p ++ t.drop (a + m).toNat)
def edDo (t : List UInt8) (a m : Int) (p : List UInt8) : List UInt8 := if edOk t a m p = true then edText t a m p else []
/-- What it cuts. -/
def edCut (t : List UInt8) (a m : Int) : List UInt8 := (t.drop a.toNat).take m.toNat
def backA (t : List UInt8) (a m : Int) (p : List UInt8) : Int := if edOk t a m p = true then a else 0
def backM (t : List UInt8) (a m : Int) (p : List UInt8) : Int := if edOk t a m p = true then p.length else 0
def backP (t : List UInt8) (a m : Int) (p : List UInt8) : List UInt8 := if edOk t a m p = true then edCut t a m else []

theorem edOk_iff (t : List UInt8) (a m : Int) (p : List UInt8) : edOk t a m p = true ↔ 0 ≤ m ∧ isText t = true ∧ isText p = true ∧ isBound t a = true ∧ isBound t (a + m) = true ∧ (t.length : Int) - m + p.length ≤ 400 := by
  unfold edOk
  simp only [Bool.and_eq_true, decide_eq_true_eq, and_assoc]

theorem isBound_range {l : List UInt8} {a : Int} (h : isBound l a = true) : 0 ≤ a ∧ a ≤ l.length := by
  refine ⟨?_, ?_⟩
  all_goals
    apply Classical.byContradiction
    intro g
    rw [isBound_out l a (by omega)] at h
    cases h

theorem edOk_range {t : List UInt8} {a m : Int} {p : List UInt8} (h : edOk t a m p = true) :
    0 ≤ a ∧ 0 ≤ m ∧ a + m ≤ t.length ∧ t.length ≤ 400 ∧ p.length ≤ 400 ∧ (t.length : Int) - m + p.length ≤ 400 := by
  obtain ⟨h1, h2, h3, h4, h5, h6⟩ := (edOk_iff t a m p).1 h
  have := isBound_range h4
  have := isBound_range h5
  have := isText_len h2
  have := isText_len h3
  omega

theorem edText_len {t : List UInt8} {a m : Int} {p : List UInt8} (h : edOk t a m p = true) : ((edText t a m p).length : Int) = t.length - m + p.length := by
  have := edOk_range h
  unfold edText
  rw [List.length_append, List.length_append, List.length_take, List.length_drop]
  omega

theorem edCut_len {t : List UInt8} {a m : Int} {p : List UInt8} (h : edOk t a m p = true) : ((edCut t a m).length : Int) = m := by
  have := edOk_range h
  unfold edCut
  rw [List.length_take, List.length_drop]
  omega

theorem edDo_len (t : List UInt8) (a m : Int) (p : List UInt8) : (edDo t a m p).length ≤ 400 := by
  unfold edDo
  split
  · rename_i h
    have := edText_len h
    have := edOk_range h
    omega
  · simp
theorem backP_len (t : List UInt8) (a m : Int) (p : List UInt8) : (backP t a m p).length ≤ 400 := by
  unfold backP
  split
  · rename_i h
    have := edCut_len h
    have := edOk_range h
    omega
  · simp

/-- The text is what lies before, in and behind the cut. -/
theorem ed_parts {t : List UInt8} {a m : Int} {p : List UInt8} (h : edOk t a m p = true) : t = t.take a.toNat ++ (edCut t a m ++ t.drop (a + m).toNat) := by
  have hr := edOk_range h
  unfold edCut
  rw [show (a + m).toNat = a.toNat + m.toNat by omega, ← List.drop_drop, List.take_append_drop, List.take_append_drop]

/-- The three parts are texts. -/
theorem ed_texts {t : List UInt8} {a m : Int} {p : List UInt8} (h : edOk t a m p = true) : okS 0 (t.take a.toNat) = true ∧ okS 0 (edCut t a m) = true ∧ okS 0 (t.drop (a + m).toNat) = true ∧ okS 0 p = true := by
  have hr := edOk_range h
  obtain ⟨h1, h2, h3, h4, h5, h6⟩ := (edOk_iff t a m p).1 h
  have ht := isText_ok h2
  have b1 : isBound t ((a.toNat : Nat) : Int) = true := by rw [show ((a.toNat : Nat) : Int) = a by omega]; exact h4
  have b2 : isBound t (((a + m).toNat : Nat) : Int) = true := by rw [show (((a + m).toNat : Nat) : Int) = a + m by omega]; exact h5
  refine ⟨okS_take _ t a.toNat (Nat.le_refl _) (by omega) ht b1, ?_, okS_of_bound ht (by omega) b2, isText_ok h3⟩
  have hd := okS_of_bound ht (show a.toNat ≤ t.length by omega) b1
  have hb := isBound_drop t a.toNat m.toNat (by omega) (by omega)
  rw [show ((a.toNat + m.toNat : Nat) : Int) = (((a + m).toNat : Nat) : Int) by omega, b2] at hb
  exact okS_take _ (t.drop a.toNat) m.toNat (Nat.le_refl _) (by rw [List.length_drop]; omega) hd hb

theorem edText_ok {t : List UInt8} {a m : Int} {p : List UInt8} (h : edOk t a m p = true) : isText (edText t a m p) = true := by
  obtain ⟨h1, h2, h3, h4⟩ := ed_texts h
  have hl := edText_len h
  have hr := edOk_range h
  refine isText_of (by omega) ?_
  unfold edText
  exact okS_app _ _ _ (Nat.le_refl _) h1 (okS_app _ _ _ (Nat.le_refl _) h4 h3)

theorem bound_join {x y : List UInt8} (hy : okS 0 y = true) : isBound (x ++ y) ((x.length : Nat) : Int) = true := by
  have := isBound_app_right x y 0 (Nat.zero_le _)
  rw [isBound_zero y hy, Nat.add_zero] at this
  exact this

/-- The inverse edit is valid for the edited text. -/
theorem back_ok {t : List UInt8} {a m : Int} {p : List UInt8} (h : edOk t a m p = true) : edOk (edText t a m p) a p.length (edCut t a m) = true := by
  obtain ⟨h1, h2, h3, h4⟩ := ed_texts h
  have hr := edOk_range h
  have hl := edText_len h
  have hc := edCut_len h
  have htk : ((t.take a.toNat).length : Int) = a := by rw [List.length_take]; omega
  rw [edOk_iff]
  refine ⟨by omega, edText_ok h, isText_of (by omega) h2, ?_, ?_, by omega⟩
  · have := bound_join (x := t.take a.toNat) (okS_app _ _ _ (Nat.le_refl _) h4 h3)
    rw [htk] at this
    exact this
  · have := bound_join (x := t.take a.toNat ++ p) h3
    rw [List.append_assoc, List.length_append, Int.natCast_add, htk] at this
    exact this

/-- It restores the text, and cuts what was put. -/
theorem back_text {t : List UInt8} {a m : Int} {p : List UInt8} (h : edOk t a m p = true) : edText (edText t a m p) a p.length (edCut t a m) = t ∧ edCut (edText t a m p) a p.length = p := by
  have hr := edOk_range h
  have htk : (t.take a.toNat).length = a.toNat := by rw [List.length_take]; omega
  have e1 : (edText t a m p).take a.toNat = t.take a.toNat := by
    unfold edText
    rw [List.take_append_of_le_length (by omega), List.take_of_length_le (by omega)]
  have e2 : (edText t a m p).drop a.toNat = p ++ t.drop (a + m).toNat := by
    unfold edText
    rw [List.drop_append_of_le_length (by omega), List.drop_of_length_le (by omega), List.nil_append]
  have e3 : (edText t a m p).drop (a + (p.length : Int)).toNat = t.drop (a + m).toNat := by
    rw [show (a + (p.length : Int)).toNat = a.toNat + p.length by omega, ← List.drop_drop, e2, List.drop_append_of_le_length (Nat.le_refl _), List.drop_length, List.nil_append]
  refine ⟨?_, ?_⟩
  · rw [show edText (edText t a m p) a p.length (edCut t a m) = (edText t a m p).take a.toNat ++ (edCut t a m ++ (edText t a m p).drop (a + (p.length : Int)).toNat) from rfl, e1, e3]
    exact (ed_parts h).symm
  · rw [show edCut (edText t a m p) a p.length = ((edText t a m p).drop a.toNat).take ((p.length : Int)).toNat from rfl, e2]
    rw [show ((p.length : Int)).toNat = p.length by omega, List.take_append_of_le_length (Nat.le_refl _), List.take_length]
end P
end Go.Proofs.YtaekanhjkpoifaaDoor
