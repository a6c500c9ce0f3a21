/-
  Chapter 7, leases: what a lease must be, and the order of the keys, in the model and in the program: contracts. Own work.
-/
import Derived.Test.YtgpjjolgpppeeaaC09
import Derived.Test.YtgpjjolgpppeeaaN00
namespace Go.Proofs.Ytgpjjolgpppeeaa
open Go.RowKit P
set_option linter.unusedVariables false
set_option linter.unusedSimpArgs false
set_option maxRecDepth 100000

set_option maxHeartbeats 400000 in
theorem fitsClock_any (n : Int) (w : World) : Calls Try.prog 76 #[.int .i64 n] w fun e w' => e = .returned (.bool (decide (0 ≤ n ∧ n ≤ 1000))) ∧ w' = w := by
  by_cases h : 0 ≤ n
  · go_enter Try.func76, Try.ntmps76
    go_wp2
    go_ret
    exact ⟨ret_bool (by simp [h]), rfl⟩
  · have hf : decide (0 ≤ n ∧ n ≤ 1000) = false := by simp; omega
    have HF := Lib.hid hf
    clear hf
    go_enter Try.func76, Try.ntmps76
    go_wp2
    go_ret
    exact ⟨ret_bool (by simp; omega), rfl⟩

set_option maxHeartbeats 2000000 in
theorem l07Right_any (i j s t : Int) (w : World) :
    Calls Try.prog 69 #[.agg #[.int .i64 i, .int .i64 j, .int .i64 s, .int .i64 t]] w fun e w' => e = .returned (.bool (leRight (i, j, s, t))) ∧ Below w.heap.size w w' := by
  have hb0 := (Below.refl w.heap.size w).alloc (Nat.le_refl _) (.cells #[.int .i64 i, .int .i64 j, .int .i64 s, .int .i64 t] 43)
  by_cases h0 : 0 ≤ i
  case neg =>
    have hz : leRight (i, j, s, t) = false := decide_eq_false (fun h => h0 (by have := h; simp only at this; omega))
    rw [hz]
    clear hz
    go_enter Try.func69, Try.ntmps69
    go_wp2
    go_ret
    refine ⟨by first | rfl | exact ret_bool (by simp; omega), ?_⟩
    (repeat (first | exact Below.refl _ _ | assumption | refine Below.setCell ?_ (by first | (simp; done) | (simp; omega) | omega) _ | refine Below.drew ?_ | refine below_drewN ?_ _ | refine Below.alloc ?_ (by first | (simp; done) | (simp; omega) | omega) _))
  by_cases h1 : i ≤ j
  case neg =>
    have hz : leRight (i, j, s, t) = false := decide_eq_false (fun h => h1 (by have := h; simp only at this; omega))
    rw [hz]
    clear hz
    go_enter Try.func69, Try.ntmps69
    go_wp2
    go_ret
    refine ⟨by first | rfl | exact ret_bool (by simp; omega), ?_⟩
    (repeat (first | exact Below.refl _ _ | assumption | refine Below.setCell ?_ (by first | (simp; done) | (simp; omega) | omega) _ | refine Below.drew ?_ | refine below_drewN ?_ _ | refine Below.alloc ?_ (by first | (simp; done) | (simp; omega) | omega) _))
  by_cases h2 : j ≤ 400
  case neg =>
    have hz : leRight (i, j, s, t) = false := decide_eq_false (fun h => h2 (by have := h; simp only at this; omega))
    rw [hz]
    clear hz
    go_enter Try.func69, Try.ntmps69
    go_wp2
    go_ret
    refine ⟨by first | rfl | exact ret_bool (by simp; omega), ?_⟩
    (repeat (first | exact Below.refl _ _ | assumption | refine Below.setCell ?_ (by first | (simp; done) | (simp; omega) | omega) _ | refine Below.drew ?_ | refine below_drewN ?_ _ | refine Below.alloc ?_ (by first | (simp; done) | (simp; omega) | omega) _))
  by_cases h3 : 1 ≤ s
  case neg =>
    have hz : leRight (i, j, s, t) = false := decide_eq_false (fun h => h3 (by have := h; simp only at this; omega))
    rw [hz]
    clear hz
    go_enter Try.func69, Try.ntmps69
    go_wp2
    go_ret
    refine ⟨by first | rfl | exact ret_bool (by simp; omega), ?_⟩
    (repeat (first | exact Below.refl _ _ | assumption | refine Below.setCell ?_ (by first | (simp; done) | (simp; omega) | omega) _ | refine Below.drew ?_ | refine below_drewN ?_ _ | refine Below.alloc ?_ (by first | (simp; done) | (simp; omega) | omega) _))
  by_cases h4 : s ≤ 8
  case neg =>
    have hz : leRight (i, j, s, t) = false := decide_eq_false (fun h => h4 (by have := h; simp only at this; omega))
    rw [hz]
    clear hz
    go_enter Try.func69, Try.ntmps69
    go_wp2
    go_ret
    refine ⟨by first | rfl | exact ret_bool (by simp; omega), ?_⟩
    (repeat (first | exact Below.refl _ _ | assumption | refine Below.setCell ?_ (by first | (simp; done) | (simp; omega) | omega) _ | refine Below.drew ?_ | refine below_drewN ?_ _ | refine Below.alloc ?_ (by first | (simp; done) | (simp; omega) | omega) _))
  by_cases h5 : 1 ≤ t
  case neg =>
    have hz : leRight (i, j, s, t) = false := decide_eq_false (fun h => h5 (by have := h; simp only at this; omega))
    rw [hz]
    clear hz
    go_enter Try.func69, Try.ntmps69
    go_wp2
    go_ret
    refine ⟨by first | rfl | exact ret_bool (by simp; omega), ?_⟩
    (repeat (first | exact Below.refl _ _ | assumption | refine Below.setCell ?_ (by first | (simp; done) | (simp; omega) | omega) _ | refine Below.drew ?_ | refine below_drewN ?_ _ | refine Below.alloc ?_ (by first | (simp; done) | (simp; omega) | omega) _))
  have hz : leRight (i, j, s, t) = decide (t ≤ 1000) := by
    unfold leRight
    rw [Bool.eq_iff_iff, decide_eq_true_eq, decide_eq_true_eq]
    simp only
    omega
  rw [hz]
  clear hz
  go_enter Try.func69, Try.ntmps69
  go_wp2
  go_ret
  refine ⟨by first | rfl | exact ret_bool (by simp), ?_⟩
  (repeat (first | exact Below.refl _ _ | assumption | refine Below.setCell ?_ (by first | (simp; done) | (simp; omega) | omega) _ | refine Below.drew ?_ | refine below_drewN ?_ _ | refine Below.alloc ?_ (by first | (simp; done) | (simp; omega) | omega) _))

set_option maxHeartbeats 2000000 in
theorem isValid_any (i j s t : Int) (w : World) :
    Calls Try.prog 75 #[.agg #[.int .i64 i, .int .i64 j, .int .i64 s, .int .i64 t]] w fun e w' => e = .returned (.bool (leRight (i, j, s, t))) ∧ Below w.heap.size w w' := by
  have hb0 := (Below.refl w.heap.size w).alloc (Nat.le_refl _) (.cells #[.int .i64 i, .int .i64 j, .int .i64 s, .int .i64 t] 43)
  by_cases h0 : 0 ≤ i
  case neg =>
    have hz : leRight (i, j, s, t) = false := decide_eq_false (fun h => h0 (by have := h; simp only at this; omega))
    rw [hz]
    clear hz
    go_enter Try.func75, Try.ntmps75
    go_wp2
    go_ret
    refine ⟨by first | rfl | exact ret_bool (by simp; omega), ?_⟩
    (repeat (first | exact Below.refl _ _ | assumption | refine Below.setCell ?_ (by first | (simp; done) | (simp; omega) | omega) _ | refine Below.drew ?_ | refine below_drewN ?_ _ | refine Below.alloc ?_ (by first | (simp; done) | (simp; omega) | omega) _))
  by_cases h1 : i ≤ j
  case neg =>
    have hz : leRight (i, j, s, t) = false := decide_eq_false (fun h => h1 (by have := h; simp only at this; omega))
    rw [hz]
    clear hz
    go_enter Try.func75, Try.ntmps75
    go_wp2
    go_ret
    refine ⟨by first | rfl | exact ret_bool (by simp; omega), ?_⟩
    (repeat (first | exact Below.refl _ _ | assumption | refine Below.setCell ?_ (by first | (simp; done) | (simp; omega) | omega) _ | refine Below.drew ?_ | refine below_drewN ?_ _ | refine Below.alloc ?_ (by first | (simp; done) | (simp; omega) | omega) _))
  by_cases h2 : j ≤ 400
  case neg =>
    have hz : leRight (i, j, s, t) = false := decide_eq_false (fun h => h2 (by have := h; simp only at this; omega))
    rw [hz]
    clear hz
    go_enter Try.func75, Try.ntmps75
    go_wp2
    go_ret
    refine ⟨by first | rfl | exact ret_bool (by simp; omega), ?_⟩
    (repeat (first | exact Below.refl _ _ | assumption | refine Below.setCell ?_ (by first | (simp; done) | (simp; omega) | omega) _ | refine Below.drew ?_ | refine below_drewN ?_ _ | refine Below.alloc ?_ (by first | (simp; done) | (simp; omega) | omega) _))
  by_cases hs : 1 ≤ s ∧ s ≤ 8
  case neg =>
    have hz : leRight (i, j, s, t) = false := decide_eq_false (fun h => hs (by have := h; simp only at this; omega))
    rw [hz]
    clear hz
    go_enter Try.func75, Try.ntmps75
    go_wp2_with fail
    refine (isSession_any s _).mono ?_
    rintro e w0 ⟨rfl, rfl⟩
    rw [decide_eq_false hs]
    go_wp2
    go_ret
    refine ⟨rfl, ?_⟩
    (repeat (first | exact Below.refl _ _ | assumption | refine Below.setCell ?_ (by first | (simp; done) | (simp; omega) | omega) _ | refine Below.drew ?_ | refine below_drewN ?_ _ | refine Below.alloc ?_ (by first | (simp; done) | (simp; omega) | omega) _))
  by_cases h5 : 1 ≤ t
  case neg =>
    have hz : leRight (i, j, s, t) = false := decide_eq_false (fun h => h5 (by have := h; simp only at this; omega))
    rw [hz]
    clear hz
    go_enter Try.func75, Try.ntmps75
    go_wp2_with fail
    refine (isSession_any s _).mono ?_
    rintro e w0 ⟨rfl, rfl⟩
    rw [decide_eq_true hs]
    go_wp2
    go_ret
    refine ⟨rfl, ?_⟩
    (repeat (first | exact Below.refl _ _ | assumption | refine Below.setCell ?_ (by first | (simp; done) | (simp; omega) | omega) _ | refine Below.drew ?_ | refine below_drewN ?_ _ | refine Below.alloc ?_ (by first | (simp; done) | (simp; omega) | omega) _))
  have hz : leRight (i, j, s, t) = decide (t ≤ 1000) := by
    unfold leRight
    rw [Bool.eq_iff_iff, decide_eq_true_eq, decide_eq_true_eq]
    simp only
    omega
  rw [hz]
  clear hz
  go_enter Try.func75, Try.ntmps75
  go_wp2_with fail
  refine (isSession_any s _).mono ?_
  rintro e w0 ⟨rfl, rfl⟩
  rw [decide_eq_true hs]
  go_wp2_with fail
  refine (fitsClock_any t _).mono ?_
  rintro e w1 ⟨rfl, rfl⟩
  go_wp2
  go_ret
  refine ⟨ret_bool (by rw [Bool.eq_iff_iff]; simp; omega), ?_⟩
  (repeat (first | exact Below.refl _ _ | assumption | refine Below.setCell ?_ (by first | (simp; done) | (simp; omega) | omega) _ | refine Below.drew ?_ | refine below_drewN ?_ _ | refine Below.alloc ?_ (by first | (simp; done) | (simp; omega) | omega) _))

set_option maxHeartbeats 2000000 in
theorem l07Less_any (i j s t x y u v : Int) (w : World) :
    Calls Try.prog 70 #[.agg #[.int .i64 i, .int .i64 j, .int .i64 s, .int .i64 t], .agg #[.int .i64 x, .int .i64 y, .int .i64 u, .int .i64 v]] w fun e w' => e = .returned (.bool (leLess (i, j, s, t) (x, y, u, v))) ∧ Below w.heap.size w w' := by
  by_cases h1 : i = x
  · have e1 : (i != x) = false := by simp [h1]
    by_cases h2 : j = y
    · have e2 : (j != y) = false := by simp [h2]
      have hz : leLess (i, j, s, t) (x, y, u, v) = decide (s < u) := by
        rw [Bool.eq_iff_iff, leLess_iff, decide_eq_true_eq]
        simp only
        omega
      rw [hz]
      clear hz h1 h2
      go_enter Try.func70, Try.ntmps70
      go_wp2
      go_ret
      refine ⟨by first | rfl | exact ret_bool (by simp), ?_⟩
      (repeat (first | exact Below.refl _ _ | assumption | refine Below.setCell ?_ (by first | (simp; done) | (simp; omega) | omega) _ | refine Below.drew ?_ | refine below_drewN ?_ _ | refine Below.alloc ?_ (by first | (simp; done) | (simp; omega) | omega) _))
    · have e2 : (j != y) = true := by simp [h2]
      have hz : leLess (i, j, s, t) (x, y, u, v) = decide (j < y) := by
        rw [Bool.eq_iff_iff, leLess_iff, decide_eq_true_eq]
        simp only
        omega
      rw [hz]
      clear hz h1 h2
      go_enter Try.func70, Try.ntmps70
      go_wp2
      go_ret
      refine ⟨by first | rfl | exact ret_bool (by simp), ?_⟩
      (repeat (first | exact Below.refl _ _ | assumption | refine Below.setCell ?_ (by first | (simp; done) | (simp; omega) | omega) _ | refine Below.drew ?_ | refine below_drewN ?_ _ | refine Below.alloc ?_ (by first | (simp; done) | (simp; omega) | omega) _))
  · have e1 : (i != x) = true := by simp [h1]
    have hz : leLess (i, j, s, t) (x, y, u, v) = decide (i < x) := by
      rw [Bool.eq_iff_iff, leLess_iff, decide_eq_true_eq]
      simp only
      omega
    rw [hz]
    clear hz h1
    go_enter Try.func70, Try.ntmps70
    go_wp2
    go_ret
    refine ⟨by first | rfl | exact ret_bool (by simp), ?_⟩
    (repeat (first | exact Below.refl _ _ | assumption | refine Below.setCell ?_ (by first | (simp; done) | (simp; omega) | omega) _ | refine Below.drew ?_ | refine below_drewN ?_ _ | refine Below.alloc ?_ (by first | (simp; done) | (simp; omega) | omega) _))

def sgn3 (a b : Int) : Int := if a < b then -1 else if b < a then 1 else 0
theorem sgn3_eq (a b : Int) : sgn3 a b = if a < b then -1 else if b < a then 1 else 0 := rfl

set_option maxHeartbeats 400000 in
theorem isNaN_int (x : Int) (w : World) : Calls Try.prog 170 #[.int .i64 x] w fun e w' => e = .returned (.bool false) ∧ w' = w := by
  have hx : (x != x) = false := by simp
  go_enter Try.func170, Try.ntmps170
  go_wp2
  go_ret
  exact ⟨ret_bool (by simp), rfl⟩

set_option maxHeartbeats 1000000 in
theorem cmpInt_any (x y : Int) (w : World) : Calls Try.prog 159 #[.int .i64 x, .int .i64 y] w fun e w' => e = .returned (.int .i64 (sgn3 x y)) ∧ w' = w := by
  by_cases h1 : x < y
  · rw [show sgn3 x y = -1 from if_pos h1]
    go_enter Try.func159, Try.ntmps159
    go_wp2_with fail
    refine (isNaN_int x _).mono ?_
    rintro e w1 ⟨rfl, rfl⟩
    go_wp2_with fail
    refine (isNaN_int y _).mono ?_
    rintro e w2 ⟨rfl, rfl⟩
    go_wp2
    go_ret
    exact ⟨rfl, rfl⟩
  · by_cases h2 : y < x
    · rw [show sgn3 x y = 1 from by unfold sgn3; rw [if_neg h1, if_pos h2]]
      go_enter Try.func159, Try.ntmps159
      go_wp2_with fail
      refine (isNaN_int x _).mono ?_
      rintro e w1 ⟨rfl, rfl⟩
      go_wp2_with fail
      refine (isNaN_int y _).mono ?_
      rintro e w2 ⟨rfl, rfl⟩
      go_wp2
      go_ret
      exact ⟨rfl, rfl⟩
    · rw [show sgn3 x y = 0 from by unfold sgn3; rw [if_neg h1, if_neg h2]]
      go_enter Try.func159, Try.ntmps159
      go_wp2_with fail
      refine (isNaN_int x _).mono ?_
      rintro e w1 ⟨rfl, rfl⟩
      go_wp2_with fail
      refine (isNaN_int y _).mono ?_
      rintro e w2 ⟨rfl, rfl⟩
      go_wp2
      go_ret
      exact ⟨rfl, rfl⟩
end Go.Proofs.Ytgpjjolgpppeeaa
