/-
  Chapter 6, the mathematics: positions restored, positions in order. Own work.
-/
import Derived.Test.YtoaimklllmelpaaP09
namespace Go.Proofs.Ytoaimklllmelpaa
namespace P
set_option linter.unusedVariables false
theorem edOk_small {t : List UInt8} {a m : Int} {l : List UInt8} (h : edOk t a m l = true) : edSmall a m l = true := by
  have := edOk_range h
  rw [edSmall_iff]; omega
theorem posMove_at {p a m : Int} {l : List UInt8} {r : Bool} (hs : edSmall a m l = true) (hp : 0 ≤ p ∧ p ≤ 800) : posMove p r a m l = mvTo p a m l.length (sideOf r a l.length) := by
  unfold posMove posOk
  rw [hs, (isPlace_iff p).2 hp]; rfl
theorem back_small {t : List UInt8} {a m : Int} {l : List UInt8} (h : edOk t a m l = true) : edSmall a l.length (edCut t a m) = true := by
  have := edOk_range h
  have := edCut_len h
  rw [edSmall_iff]; omega
/-- What an edit cuts goes to its place, and stays there. -/
theorem back_in {t : List UInt8} {a m p : Int} {l : List UInt8} (h : edOk t a m l = true) (h1 : a < p) (h2 : p < a + m) :
    posMove p false a m l = a ∧ posMove a false a l.length (edCut t a m) = a := by
  have hr := edOk_range h
  refine ⟨?_, ?_⟩
  · rw [posMove_at (edOk_small h) (by omega)]
    unfold mvTo sideOf
    rw [if_neg (by omega), if_pos (.inr h2)]; rfl
  · rw [posMove_at (back_small h) (by omega)]
    unfold mvTo sideOf
    rw [if_neg (by omega), if_pos (.inl rfl)]; rfl
/-- A position outside an edit is restored. -/
theorem back_out {t : List UInt8} {a m p : Int} {l : List UInt8} (h : edOk t a m l = true) (hp : 0 ≤ p ∧ p ≤ t.length) (hn : ¬ (a < p ∧ p < a + m)) (r : Bool) (hrr : r = true ↔ a + m ≤ p ∧ a < p) :
    posMove (posMove p r a m l) r a l.length (edCut t a m) = p := by
  have hr := edOk_range h
  have hc := edCut_len h
  have e1 : posMove p r a m l = if p < a then p else if p = a then (if r = true then a + l.length else a) else p - m + l.length := by
    rw [posMove_at (edOk_small h) (by omega)]
    unfold mvTo sideOf
    by_cases c1 : p < a
    · rw [if_pos c1, if_pos c1]
    · rw [if_neg c1, if_neg c1]
      by_cases c2 : p = a
      · rw [if_pos (.inl c2), if_pos c2]
      · rw [if_neg (by omega), if_neg c2]
  rw [e1]
  by_cases c1 : p < a
  · rw [if_pos c1, posMove_at (back_small h) (by omega)]
    unfold mvTo
    rw [if_pos c1]
  · rw [if_neg c1]
    by_cases c2 : p = a
    · subst c2
      have : r = false := by cases r; rfl; have := hrr.1 rfl; omega
      subst this
      rw [if_pos rfl, posMove_at (back_small h) (by simp; omega)]
      simp [mvTo, sideOf]
    · have hrt : r = true := hrr.2 (by omega)
      subst hrt
      rw [if_neg c2, posMove_at (back_small h) (by omega)]
      unfold mvTo sideOf
      rw [if_pos rfl, hc, if_neg (by omega)]
      by_cases c3 : p - m + l.length = a
      · rw [if_pos (.inl c3)]; omega
      · rw [if_neg (by omega)]; omega
/-- Positions keep their order. -/
theorem order_moved {p q a m : Int} {l : List UInt8} {r : Bool} (hs : edSmall a m l = true) (hp : 0 ≤ p ∧ p ≤ 800) (hq : 0 ≤ q ∧ q ≤ 800) (hpq : p ≤ q) : posMove p r a m l ≤ posMove q r a m l := by
  have s := (edSmall_iff a m l).1 hs
  rw [posMove_at hs hp, posMove_at hs hq]
  have hb := sideOf_bd r a l.length (by omega)
  exact mvTo_le (by omega) (by omega) hb.1 (Int.le_refl _) hb.2 hpq
theorem order_sides {p a m : Int} {l : List UInt8} (hs : edSmall a m l = true) (hp : 0 ≤ p ∧ p ≤ 800) : posMove p false a m l ≤ posMove p true a m l := by
  have s := (edSmall_iff a m l).1 hs
  rw [posMove_at hs hp, posMove_at hs hp]
  have hb := sideOf_bd false a l.length (by omega)
  have hb2 := sideOf_bd true a l.length (by omega)
  exact mvTo_le (by omega) (by omega) hb.1 (by unfold sideOf; simp; omega) hb2.2 (Int.le_refl _)
theorem order_far {p a m : Int} {l : List UInt8} {r : Bool} (hs : edSmall a m l = true) (hp : 0 ≤ p ∧ p ≤ 800) (h1 : ¬ p < a + m) (h2 : p ≠ a) : posMove p r a m l = p - m + l.length := by
  have s := (edSmall_iff a m l).1 hs
  rw [posMove_at hs hp]
  unfold mvTo
  rw [if_neg (by omega), if_neg (by omega)]
end P
end Go.Proofs.Ytoaimklllmelpaa
