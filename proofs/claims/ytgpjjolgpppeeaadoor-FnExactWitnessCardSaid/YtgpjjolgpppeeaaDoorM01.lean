/-
  Chapter 11, events: contracts of the program and of the model. Own work.
-/
import Derived.Test.YtgpjjolgpppeeaaDoorN00
import Derived.Test.YtgpjjolgpppeeaaDoorBlk
namespace Go.Proofs.YtgpjjolgpppeeaaDoor
open Go.RowKit P
set_option linter.unusedVariables false
set_option linter.unusedSimpArgs false

/-- Is it an event? -/
def evOk (x s p : Int) (n : Nat) : Bool :=
  if x = 1 then decide (s = 0) && (decide (p = 0) && decide (n ≤ 1000))
  else if x = 2 then decide (1 ≤ s ∧ s ≤ 8) && (decide (p = 0) && decide (n = 0))
  else if x = 3 then decide (s = 0) && (decide (1 ≤ p ∧ p ≤ 1000) && decide (n = 0))
  else false
theorem evOk_no {x s p : Int} {n : Nat} (h1 : x ≠ 1) (h2 : x ≠ 2) (h3 : x ≠ 3) : evOk x s p n = false := by unfold evOk; rw [if_neg h1, if_neg h2, if_neg h3]
theorem bsm1 (w : World) (o : Obj) : Below w.heap.size w (w.alloc o) := (Below.refl w.heap.size w).alloc (Nat.le_refl _) o

set_option maxHeartbeats 400000 in
theorem isTick_any (n : Int) (w : World) : Calls Tryd.prog 45 #[.int .i64 n] w fun e w' => e = .returned (.bool (decide (1 ≤ n ∧ n ≤ 1000))) ∧ w' = w := by
  by_cases h : 1 ≤ n
  · go_enter Tryd.func45, Tryd.ntmps45
    go_wp2
    go_ret
    exact ⟨ret_bool (by simp [h]), rfl⟩
  · have hf : decide (1 ≤ n ∧ n ≤ 1000) = false := by simp; omega
    have HF := Lib.hid hf
    clear hf
    go_enter Tryd.func45, Tryd.ntmps45
    go_wp2
    go_ret
    exact ⟨ret_bool (by simp; omega), rfl⟩
set_option maxHeartbeats 400000 in
theorem l10Session_ev (n : Int) (w : World) : Calls Tryd.prog 92 #[.int .i64 n] w fun e w' => e = .returned (.bool (decide (1 ≤ n ∧ n ≤ 8))) ∧ w' = w := by
  by_cases h : 1 ≤ n
  · go_enter Tryd.func92, Tryd.ntmps92
    go_wp2
    go_ret
    exact ⟨ret_bool (by simp [h]), rfl⟩
  · have hf : decide (1 ≤ n ∧ n ≤ 8) = false := by simp; omega
    have HF := Lib.hid hf
    clear hf
    go_enter Tryd.func92, Tryd.ntmps92
    go_wp2
    go_ret
    exact ⟨ret_bool (by simp; omega), rfl⟩

set_option maxHeartbeats 4000000 in
theorem specEventOk_any (x s p : Int) (A : Option Addr) (n c : Nat) (w : World) :
    Calls Tryd.prog 50 #[.agg #[.int .i64 x, .int .i64 s, .int .i64 p, .slice A n c]] w fun e w' => e = .returned (.bool (evOk x s p n)) ∧ Below w.heap.size w w' := by
  by_cases x1 : x = 1
  · subst x1
    show Calls Tryd.prog 50 _ w fun e w' => e = .returned (.bool (decide (s = 0) && (decide (p = 0) && decide (n ≤ 1000)))) ∧ _
    by_cases s0 : s = 0
    · subst s0
      by_cases p0 : p = 0
      · subst p0
        by_cases n0 : n ≤ 1000
        · rw [decide_eq_true n0]
          have e1 : decide ((n : Int) ≤ 1000) = true := decide_eq_true (by omega)
          have e2 : (n : Int) ≤ 1000 := by omega
          go_enter Tryd.func50, Tryd.ntmps50
          go_wp2
          go_ret
          exact ⟨rfl, bsm1 _ _⟩
        · rw [decide_eq_false n0]
          have e1 : decide ((n : Int) ≤ 1000) = false := decide_eq_false (by omega)
          have e2 : ¬ (n : Int) ≤ 1000 := by omega
          go_enter Tryd.func50, Tryd.ntmps50
          go_wp2
          go_ret
          exact ⟨rfl, bsm1 _ _⟩
      · rw [decide_eq_false p0]
        have e0 : (p == 0) = false := by simp [p0]
        go_enter Tryd.func50, Tryd.ntmps50
        go_wp2
        go_ret
        exact ⟨rfl, bsm1 _ _⟩
    · rw [decide_eq_false s0]
      have e0 : (s == 0) = false := by simp [s0]
      go_enter Tryd.func50, Tryd.ntmps50
      go_wp2
      go_ret
      exact ⟨rfl, bsm1 _ _⟩
  by_cases x2 : x = 2
  · subst x2
    clear x1
    show Calls Tryd.prog 50 _ w fun e w' => e = .returned (.bool (decide (1 ≤ s ∧ s ≤ 8) && (decide (p = 0) && decide (n = 0)))) ∧ _
    obtain ⟨q, hq⟩ : ∃ q, decide (1 ≤ s ∧ s ≤ 8) = q := ⟨_, rfl⟩
    rw [hq]
    have HQ := Lib.hid hq
    clear hq
    cases q
    · go_enter Tryd.func50, Tryd.ntmps50
      go_wp2_with fail
      refine (l10Session_ev s _).mono ?_
      rintro e w1 ⟨rfl, rfl⟩
      rw [HQ.out]
      go_wp2
      go_ret
      exact ⟨rfl, bsm1 _ _⟩
    by_cases p0 : p = 0
    · subst p0
      by_cases n0 : n = 0
      · rw [decide_eq_true n0]
        subst n0
        have e1 : (((0 : Nat) : Int) == 0) = true := rfl
        go_enter Tryd.func50, Tryd.ntmps50
        go_wp2_with fail
        refine (l10Session_ev s _).mono ?_
        rintro e w1 ⟨rfl, rfl⟩
        rw [HQ.out]
        go_wp2
        go_ret
        exact ⟨rfl, bsm1 _ _⟩
      · rw [decide_eq_false n0]
        have e1 : ((n : Int) == 0) = false := by simp; omega
        go_enter Tryd.func50, Tryd.ntmps50
        go_wp2_with fail
        refine (l10Session_ev s _).mono ?_
        rintro e w1 ⟨rfl, rfl⟩
        rw [HQ.out]
        go_wp2
        go_ret
        exact ⟨rfl, bsm1 _ _⟩
    · rw [decide_eq_false p0]
      have e0 : (p == 0) = false := by simp [p0]
      go_enter Tryd.func50, Tryd.ntmps50
      go_wp2_with fail
      refine (l10Session_ev s _).mono ?_
      rintro e w1 ⟨rfl, rfl⟩
      rw [HQ.out]
      go_wp2
      go_ret
      exact ⟨rfl, bsm1 _ _⟩
  by_cases x3 : x = 3
  · subst x3
    clear x1 x2
    show Calls Tryd.prog 50 _ w fun e w' => e = .returned (.bool (decide (s = 0) && (decide (1 ≤ p ∧ p ≤ 1000) && decide (n = 0)))) ∧ _
    by_cases s0 : s = 0
    · subst s0
      by_cases p1 : 1 ≤ p
      · by_cases p2 : p ≤ 1000
        · rw [decide_eq_true (show 1 ≤ p ∧ p ≤ 1000 from ⟨p1, p2⟩)]
          have f1 : decide (p ≥ 1) = true := decide_eq_true p1
          have f2 : decide (p ≤ 1000) = true := decide_eq_true p2
          by_cases n0 : n = 0
          · rw [decide_eq_true n0]
            subst n0
            have e1 : (((0 : Nat) : Int) == 0) = true := rfl
            go_enter Tryd.func50, Tryd.ntmps50
            go_wp2
            go_ret
            exact ⟨rfl, bsm1 _ _⟩
          · rw [decide_eq_false n0]
            have e1 : ((n : Int) == 0) = false := by simp; omega
            go_enter Tryd.func50, Tryd.ntmps50
            go_wp2
            go_ret
            exact ⟨rfl, bsm1 _ _⟩
        · rw [decide_eq_false (fun h : 1 ≤ p ∧ p ≤ 1000 => p2 h.2)]
          have f1 : decide (p ≥ 1) = true := decide_eq_true p1
          have f2 : decide (p ≤ 1000) = false := decide_eq_false p2
          go_enter Tryd.func50, Tryd.ntmps50
          go_wp2
          go_ret
          exact ⟨rfl, bsm1 _ _⟩
      · rw [decide_eq_false (fun h : 1 ≤ p ∧ p ≤ 1000 => p1 h.1)]
        have f1 : decide (p ≥ 1) = false := decide_eq_false (by omega)
        go_enter Tryd.func50, Tryd.ntmps50
        go_wp2
        go_ret
        exact ⟨rfl, bsm1 _ _⟩
    · rw [decide_eq_false s0]
      have e0 : (s == 0) = false := by simp [s0]
      go_enter Tryd.func50, Tryd.ntmps50
      go_wp2
      go_ret
      exact ⟨rfl, bsm1 _ _⟩
  rw [evOk_no x1 x2 x3]
  have e1 : (x == 1) = false := by simp [x1]
  have e2 : (x == 2) = false := by simp [x2]
  have e3 : (x == 3) = false := by simp [x3]
  go_enter Tryd.func50, Tryd.ntmps50
  go_wp2
  go_ret
  exact ⟨rfl, bsm1 _ _⟩

set_option maxHeartbeats 4000000 in
theorem implEventOk_any (x s p : Int) (A : Option Addr) (n c : Nat) (w : World) :
    Calls Tryd.prog 56 #[.agg #[.int .i64 x, .int .i64 s, .int .i64 p, .slice A n c]] w fun e w' => e = .returned (.bool (evOk x s p n)) ∧ Below w.heap.size w w' := by
  by_cases x1 : x = 1
  · subst x1
    show Calls Tryd.prog 56 _ w fun e w' => e = .returned (.bool (decide (s = 0) && (decide (p = 0) && decide (n ≤ 1000)))) ∧ _
    by_cases s0 : s = 0
    · subst s0
      by_cases p0 : p = 0
      · subst p0
        by_cases n0 : n ≤ 1000
        · rw [decide_eq_true n0]
          have e1 : decide ((n : Int) ≤ 1000) = true := decide_eq_true (by omega)
          have e2 : (n : Int) ≤ 1000 := by omega
          go_enter Tryd.func56, Tryd.ntmps56
          go_wp2
          go_ret
          exact ⟨rfl, bsm1 _ _⟩
        · rw [decide_eq_false n0]
          have e1 : decide ((n : Int) ≤ 1000) = false := decide_eq_false (by omega)
          have e2 : ¬ (n : Int) ≤ 1000 := by omega
          go_enter Tryd.func56, Tryd.ntmps56
          go_wp2
          go_ret
          exact ⟨rfl, bsm1 _ _⟩
      · rw [decide_eq_false p0]
        have e0 : (p == 0) = false := by simp [p0]
        go_enter Tryd.func56, Tryd.ntmps56
        go_wp2
        go_ret
        exact ⟨rfl, bsm1 _ _⟩
    · rw [decide_eq_false s0]
      have e0 : (s == 0) = false := by simp [s0]
      go_enter Tryd.func56, Tryd.ntmps56
      go_wp2
      go_ret
      exact ⟨rfl, bsm1 _ _⟩
  by_cases x2 : x = 2
  · subst x2
    clear x1
    show Calls Tryd.prog 56 _ w fun e w' => e = .returned (.bool (decide (1 ≤ s ∧ s ≤ 8) && (decide (p = 0) && decide (n = 0)))) ∧ _
    obtain ⟨q, hq⟩ : ∃ q, decide (1 ≤ s ∧ s ≤ 8) = q := ⟨_, rfl⟩
    rw [hq]
    have HQ := Lib.hid hq
    clear hq
    cases q
    · go_enter Tryd.func56, Tryd.ntmps56
      go_wp2_with fail
      refine (isSession_any s _).mono ?_
      rintro e w1 ⟨rfl, rfl⟩
      rw [HQ.out]
      go_wp2
      go_ret
      exact ⟨rfl, bsm1 _ _⟩
    by_cases p0 : p = 0
    · subst p0
      by_cases n0 : n = 0
      · rw [decide_eq_true n0]
        subst n0
        have e1 : (((0 : Nat) : Int) == 0) = true := rfl
        go_enter Tryd.func56, Tryd.ntmps56
        go_wp2_with fail
        refine (isSession_any s _).mono ?_
        rintro e w1 ⟨rfl, rfl⟩
        rw [HQ.out]
        go_wp2
        go_ret
        exact ⟨rfl, bsm1 _ _⟩
      · rw [decide_eq_false n0]
        have e1 : ((n : Int) == 0) = false := by simp; omega
        go_enter Tryd.func56, Tryd.ntmps56
        go_wp2_with fail
        refine (isSession_any s _).mono ?_
        rintro e w1 ⟨rfl, rfl⟩
        rw [HQ.out]
        go_wp2
        go_ret
        exact ⟨rfl, bsm1 _ _⟩
    · rw [decide_eq_false p0]
      have e0 : (p == 0) = false := by simp [p0]
      go_enter Tryd.func56, Tryd.ntmps56
      go_wp2_with fail
      refine (isSession_any s _).mono ?_
      rintro e w1 ⟨rfl, rfl⟩
      rw [HQ.out]
      go_wp2
      go_ret
      exact ⟨rfl, bsm1 _ _⟩
  by_cases x3 : x = 3
  · subst x3
    clear x1 x2
    show Calls Tryd.prog 56 _ w fun e w' => e = .returned (.bool (decide (s = 0) && (decide (1 ≤ p ∧ p ≤ 1000) && decide (n = 0)))) ∧ _
    by_cases s0 : s = 0
    · subst s0
      obtain ⟨q, hq⟩ : ∃ q, decide (1 ≤ p ∧ p ≤ 1000) = q := ⟨_, rfl⟩
      rw [hq]
      have HQ := Lib.hid hq
      clear hq
      cases q
      · go_enter Tryd.func56, Tryd.ntmps56
        go_wp2_with fail
        refine (isTick_any p _).mono ?_
        rintro e w1 ⟨rfl, rfl⟩
        rw [HQ.out]
        go_wp2
        go_ret
        exact ⟨rfl, bsm1 _ _⟩
      by_cases n0 : n = 0
      · rw [decide_eq_true n0]
        subst n0
        have e1 : (((0 : Nat) : Int) == 0) = true := rfl
        go_enter Tryd.func56, Tryd.ntmps56
        go_wp2_with fail
        refine (isTick_any p _).mono ?_
        rintro e w1 ⟨rfl, rfl⟩
        rw [HQ.out]
        go_wp2
        go_ret
        exact ⟨rfl, bsm1 _ _⟩
      · rw [decide_eq_false n0]
        have e1 : ((n : Int) == 0) = false := by simp; omega
        go_enter Tryd.func56, Tryd.ntmps56
        go_wp2_with fail
        refine (isTick_any p _).mono ?_
        rintro e w1 ⟨rfl, rfl⟩
        rw [HQ.out]
        go_wp2
        go_ret
        exact ⟨rfl, bsm1 _ _⟩
    · rw [decide_eq_false s0]
      have e0 : (s == 0) = false := by simp [s0]
      go_enter Tryd.func56, Tryd.ntmps56
      go_wp2
      go_ret
      exact ⟨rfl, bsm1 _ _⟩
  rw [evOk_no x1 x2 x3]
  have e1 : (x == 1) = false := by simp [x1]
  have e2 : (x == 2) = false := by simp [x2]
  have e3 : (x == 3) = false := by simp [x3]
  go_enter Tryd.func56, Tryd.ntmps56
  go_wp2
  go_ret
  exact ⟨rfl, bsm1 _ _⟩
end Go.Proofs.YtgpjjolgpppeeaaDoor
