/-
  Chapter 6, the mathematics: positions restored, positions in order. Own work.
-/
import Derived.Test.YtkplfbhblbinaaaDoorP09
namespace Go.Proofs.YtkplfbhblbinaaaDoor
namespace P
set_option linter.unusedVariables false
theorem edOk_small {t : List UInt8} {a m : Int} {l : List UInt8} (h : edOk t a m l = true) : edSmall a m l = true := by
  have := edOk_range h
  rw [edSmall_iff]; omega
theorem posMove_at {p a m : Int} {l : List UInt8} {r : Bool} (hs : edSmall a m l = true) (hp : 0 ≤ p ∧ p ≤ 800) : posMove p r a m l = mvTo p a m l.length (sideOf r a l.length) := by
  unfold posMove posOk
  rw [hs, (isPlace_iff p).2 hp]; rfl
theorem back_small {t : List UInt8} {a m : Int} {l : List UInt8} (h : edOk t a m l = true) : edSmall a l.length (edCut t a m) = true := by
  have := edOk_range h
  have := edCut_len h
  rw [edSmall_iff]; omega
/-- What an edit cuts goes to its place, and stays there. -/
theorem back_in {t : List UInt8} {a m p : Int} {l : List UInt8} (h : edOk t a m l = true) (h1 : a < p) (h2 : p < a + m) :
    posMove p false a m l = a ∧ posMove a false a l.length (edCut t a m) = a := by
  have hr := edOk_range h
  refine ⟨?_, ?_⟩
  · rw [posMove_at (edOk_small h) (by omega)]
    unfold mvTo sideOf
    rw [if_neg (by omega), if_pos (.inr h2)]; rfl
  · rw [posMove_at (back_small h) (by omega)]
    unfold mvTo sideOf
    rw [if_neg (by omega), if_pos (.inl rfl)]; rfl
/-- A position outside an edit is restored. -/
theorem back_out {t : List UInt8} {a m p : Int} {l : List UInt8} (h : edOk t a m l = true) (hp : 0 ≤ p ∧ p ≤ t.length) (hn : ¬ (a < p ∧ p < a + m)) (r : Bool) (hrr : r = true ↔ a + m ≤ p ∧ a < p) :
    posMove (posMove p r a m l) r a l.length (edCut t a m) = p := by
  have hr := edOk_range h
  have hc := edCut_len h
  have e1 : posMove p r a m l = if p < a then p else if p = a then (if r = true then a + l.length else a) else p - m + l.length := by
    rw [posMove_at (edOk_small h) (by omega)]
    unfold mvTo sideOf
    by_cases c1 : p < a
    · rw [if_pos c1, if_pos c1]
    · rw [if_neg c1, if_neg c1]
      by_cases c2 : p = a
      · rw [if_pos (.inl c2), if_pos c2]
      · rw [if_neg (by omega), if_neg c2]
  rw [e1]
  by_cases c1 : p < a
  · rw [if_pos c1, posMove_at (back_small h) (by omega)]
    unfold mvTo
    rw [if_pos c1]
  · rw [if_neg c1]
    by_cases c2 : p = a
    · subst c2
      have : r = false := by cases r; rfl; have := hrr.1 rfl; omega
      subst this
      rw [if_pos rfl, posMove_at (back_small h) (by simp; omega)]
      simp [mvTo, sideOf]
    · have hrt : r = true := hrr.2 (by omega)
      subst hrt
      rw [if_neg c2, posMove_at (back_small h) (by omega)]
      unfold mvTo sideOf
      rw [if_pos rfl, hc, if_neg (by omega)]
      by_cases c3 : p - m + l.length = a
      · rw [if_pos (.inl c3)]; omega
      · rw [if_neg (by omega)]; omega
/-- Positions keep their order. -/
theorem order_moved {p q a m : Int} {l : List UInt8} {r : Bool} (hs : edSmall a m l = true) (hp : 0 ≤ p ∧ p ≤ 800) (hq : 0 ≤ q ∧ q ≤ 800) (hpq : p ≤ q) : posMove p r a m l ≤ posMove q r a m l := by
  have s := (edSmall_iff a m l).1 hs
  rw [posMove_at hs hp, posMove_at hs hq]
  have hb := sideOf_bd r a l.length (by omega)
  exact mvTo_le (by omega) (by omega) hb.1 (Int.le_refl _) hb.2 hpq
theorem order_sides {p a m : Int} {l : List UInt8} (hs : edSmall a m l = true) (hp : 0 ≤ p ∧ p ≤ 800) : posMove p false a m l ≤ posMove p true a m l := by
  have s := (edSmall_iff a m l).1 hs
  rw [posMove_at hs hp, posMove_at hs hp]
  have hb := sideOf_bd false a l.length (by omega)
  have hb2 := sideOf_bd true a l.length (by omega)
  exact mvTo_le (by omega) (by omega) hb.1 (by unfold sideOf; simp; omega) hb2.2 (Int.le_refl _)
theorem order_far {p a m : Int} {l : List UInt8} {r : Bool} (hs : edSmall a m l = true) (hp : 0 ≤ p ∧ p ≤ 800) (h1 : ¬ p < a + m) (h2 : p ≠ a) : posMove p r a m l = p - m + l.length := by
  have s := (edSmall_iff a m l).1 hs
  rw [posMove_at hs hp]
  unfold mvTo
  rw [if_neg (by omega), if_neg (by omega)]
end P
end Go.Proofs.YtkplfbhblbinaaaDoor

namespace Go.Proofs.YtkplfbhblbinaaaDoor
namespace P
set_option linter.unusedVariables false
theorem edOk_move {t : List UInt8} {a m : Int} {p : List UInt8} {b n : Int} {q : List UInt8} (he : edOk t a m p = true) (hb : edOk t b n q = true) : moveOk a m p b n q = true := by
  unfold moveOk
  rw [edOk_small he, edOk_small hb]; rfl
theorem moveA_ok {a m : Int} {p : List UInt8} {b n : Int} {q : List UInt8} (h : moveOk a m p b n q = true) : moveA a m p b n q = spI a b n q.length ∧ moveM a m p b n q = spJ a (a + m) b n q.length - spI a b n q.length ∧ moveP a m p b n q = p := by
  unfold moveA moveM moveP; rw [h]; exact ⟨rfl, rfl, rfl⟩
/-- Two edits that are apart, each moved by the other: in either order the same text. -/
theorem apart_same {t : List UInt8} {a m : Int} {p : List UInt8} {b n : Int} {q : List UInt8} (he : edOk t a m p = true) (hb : edOk t b n q = true) (hap : apart a m p b n q = true) :
    edText (edText t a m p) (moveA b n q a m p) (moveM b n q a m p) (moveP b n q a m p) = edText (edText t b n q) (moveA a m p b n q) (moveM a m p b n q) (moveP a m p b n q) := by
  have r1 := edOk_range he
  have r2 := edOk_range hb
  obtain ⟨e1, e2, e3⟩ := moveA_ok (edOk_move he hb)
  obtain ⟨f1, f2, f3⟩ := moveA_ok (edOk_move hb he)
  rw [e1, e2, e3, f1, f2, f3]
  unfold apart at hap
  rw [edOk_small he, edOk_small hb, Bool.true_and, Bool.true_and, Bool.or_eq_true, decide_eq_true_eq, decide_eq_true_eq] at hap
  rcases hap with h | h
  · obtain ⟨g1, g2, g3, g4⟩ := apart_moves (a := a) (m := m) (b := b) (n := n) (x := (p.length : Int)) (y := (q.length : Int)) (by omega) (by omega) (by omega) (by omega) (by omega) h
    rw [g2, g1, g4, g3]
    exact apart_text he hb h
  · obtain ⟨g1, g2, g3, g4⟩ := apart_moves (a := b) (m := n) (b := a) (n := m) (x := (q.length : Int)) (y := (p.length : Int)) (by omega) (by omega) (by omega) (by omega) (by omega) h
    rw [g2, g1, g4, g3]
    exact (apart_text hb he h).symm
/-- An edit that is valid for a text is valid, but for the length, after another: its bounds are boundaries. -/
theorem moved_bounds {t : List UInt8} {a m : Int} {p : List UInt8} {b n : Int} {q : List UInt8} (he : edOk t a m p = true) (hb : edOk t b n q = true) :
    isBound (edText t b n q) (moveA a m p b n q) = true ∧ isBound (edText t b n q) (moveA a m p b n q + moveM a m p b n q) = true ∧ 0 ≤ moveM a m p b n q := by
  have r1 := edOk_range he
  have r2 := edOk_range hb
  obtain ⟨e1, e2, e3⟩ := moveA_ok (edOk_move he hb)
  obtain ⟨h1, h2, h3, h4, h5, h6⟩ := (edOk_iff t a m p).1 he
  have hx := bound_moved (x := b + q.length) hb (.inr rfl) h4
  have hy := bound_moved (x := b) hb (.inl rfl) h5
  have hbd := spJ_bd (i := a) (j := a + m) (a := b) (m := n) (n := q.length) (by omega) (by omega) (by omega) (by omega) (by omega)
  rw [e1, e2]
  refine ⟨hx, ?_, by omega⟩
  rw [show spI a b n q.length + (spJ a (a + m) b n q.length - spI a b n q.length) = spJ a (a + m) b n q.length by omega]
  unfold spJ
  rcases Int.le_total (mvTo a b n q.length (b + q.length)) (mvTo (a + m) b n q.length b) with h | h
  · rw [Int.max_eq_right h]; exact hy
  · rw [Int.max_eq_left h]; exact hx
/-- A selection at boundaries stays at boundaries. -/
theorem sel_bounds {t : List UInt8} {a m : Int} {p : List UInt8} (he : edOk t a m p = true) {f g : Int} (hf : isBound t f = true) (hg : isBound t g = true) (own : Bool) :
    isBound (edText t a m p) (selF f g a m p own) = true ∧ isBound (edText t a m p) (selT f g a m p own) = true := by
  have r1 := edOk_range he
  have rf := isBound_range hf
  have rg := isBound_range hg
  have hok : selMvOk f g a m p = true := by
    unfold selMvOk
    rw [edOk_small he, (isPlace_iff f).2 (by omega), (isPlace_iff g).2 (by omega)]; rfl
  have hs : ∀ r : Bool, sideOf r a p.length = a ∨ sideOf r a p.length = a + p.length := fun r => by cases r <;> simp [sideOf]
  unfold selF selT
  rw [hok, if_pos rfl, if_pos rfl]
  exact ⟨bound_moved he (hs _) hf, bound_moved he (hs _) hg⟩
/-- It keeps its direction. -/
theorem sel_dir {t : List UInt8} {a m : Int} {p : List UInt8} (he : edOk t a m p = true) {f g : Int} (hf : isBound t f = true) (hg : isBound t g = true) (own : Bool) :
    (f ≤ g → selF f g a m p own ≤ selT f g a m p own) ∧ (g ≤ f → selT f g a m p own ≤ selF f g a m p own) := by
  have r1 := edOk_range he
  have rf := isBound_range hf
  have rg := isBound_range hg
  have hok : selMvOk f g a m p = true := by
    unfold selMvOk
    rw [edOk_small he, (isPlace_iff f).2 (by omega), (isPlace_iff g).2 (by omega)]; rfl
  unfold selF selT
  rw [hok, if_pos rfl, if_pos rfl]
  have hside : ∀ r s : Bool, (r = true → s = true) → sideOf r a p.length ≤ sideOf s a p.length := fun r s h => by
    cases r <;> cases s <;> simp [sideOf] <;> first | omega | (have := h rfl; cases this)
  refine ⟨fun h => ?_, fun h => ?_⟩
  · have b1 := sideOf_bd (own || decide (g < f)) a p.length (by omega)
    have b2 := sideOf_bd (own || decide (f < g)) a p.length (by omega)
    exact mvTo_le (by omega) (by omega) b1.1 (hside _ _ (fun h9 => by rw [decide_eq_false (show ¬ g < f by omega), Bool.or_false] at h9; rw [h9]; rfl)) b2.2 h
  · have b1 := sideOf_bd (own || decide (f < g)) a p.length (by omega)
    have b2 := sideOf_bd (own || decide (g < f)) a p.length (by omega)
    exact mvTo_le (by omega) (by omega) b1.1 (hside _ _ (fun h9 => by rw [decide_eq_false (show ¬ f < g by omega), Bool.or_false] at h9; rw [h9]; rfl)) b2.2 h
end P
end Go.Proofs.YtkplfbhblbinaaaDoor
