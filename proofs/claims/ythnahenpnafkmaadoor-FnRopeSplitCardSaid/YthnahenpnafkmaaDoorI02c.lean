/-
  Chapter 2, measSum, measFits, MeasAdd of the program: contracts. Own work.
-/
import Derived.Test.YthnahenpnafkmaaDoorI02b
import Derived.Handy
namespace Go.Proofs.YthnahenpnafkmaaDoor
open Go.RowKit P
set_option linter.unusedVariables false
set_option maxRecDepth 100000

set_option maxHeartbeats 2000000 in
theorem measSum_any (b : Nat) (a0 a1 a2 b0 b1 b2 : Int) (c : Nat) (w : World) (hb : b < w.heap.size) (h0 : 0 ≤ a0 ∧ a0 ≤ 1000000000) (h1 : 0 ≤ a1 ∧ a1 ≤ 1000000000) (h2 : 0 ≤ a2 ∧ a2 ≤ 1000000000)
    (k0 : 0 ≤ b0 ∧ b0 ≤ 1000000000) (k1 : 0 ≤ b1 ∧ b1 ≤ 1000000000) (k2 : 0 ≤ b2 ∧ b2 ≤ 1000000000) (hB : Blk w b #[.int .i64 a0, .int .i64 a1, .int .i64 a2, .int .i64 b0, .int .i64 b1, .int .i64 b2] 35) :
    Calls Tryd.prog 25 #[.slice (some ⟨b, 0, none⟩) 2 c] w fun e w' => e = .returned (meas (a0 + b0) (a1 + b1) (a2 + b2)) ∧ Below w.heap.size w w' := by
  have c0 : w.cell? ⟨b, 0, none⟩ = some (.int .i64 a0) := hB.cell 0
  have c1 : w.cell? ⟨b, 1, none⟩ = some (.int .i64 a1) := hB.cell 1
  have c2 : w.cell? ⟨b, 2, none⟩ = some (.int .i64 a2) := hB.cell 2
  have c3 : w.cell? ⟨b, 3, none⟩ = some (.int .i64 b0) := hB.cell 3
  have c4 : w.cell? ⟨b, 4, none⟩ = some (.int .i64 b1) := hB.cell 4
  have c5 : w.cell? ⟨b, 5, none⟩ = some (.int .i64 b2) := hB.cell 5
  obtain ⟨h00, h01⟩ := h0
  obtain ⟨h10, h11⟩ := h1
  obtain ⟨h20, h21⟩ := h2
  obtain ⟨k00, k01⟩ := k0
  obtain ⟨k10, k11⟩ := k1
  obtain ⟨k20, k21⟩ := k2
  have hb1 : b < w.heap.size + 1 := by omega
  have hb2 : b < w.heap.size + 1 + 1 := by omega
  have hb3 : b < w.heap.size + 1 + 1 + 1 := by omega
  clear hB
  go_enter Tryd.func25, Tryd.ntmps25
  go_wp2
  go_rounds 3
  refine bodyPost_ret (v := meas (a0 + b0) (a1 + b1) (a2 + b2)) (by simp [results, Tryd.results25, go_sem, meas]) rfl ⟨rfl, ?_⟩
  (repeat (first | exact Below.refl _ _ | assumption | refine Below.setCell ?_ (by first | (simp; done) | (simp; omega) | omega) _ | refine Below.drew ?_ | refine below_drewN ?_ _ | refine Below.alloc ?_ (by first | (simp; done) | (simp; omega) | omega) _))

set_option maxHeartbeats 400000 in
theorem fitsText_any (n : Int) (w : World) : Calls Tryd.prog 50 #[.int .i64 n] w fun e w' => e = .returned (.bool (decide (0 ≤ n ∧ n ≤ 400))) ∧ w' = w := by
  by_cases h : 0 ≤ n
  · go_enter Tryd.func50, Tryd.ntmps50
    go_wp2
    go_ret
    exact ⟨ret_bool (by simp [h]), rfl⟩
  · have hd : decide (0 ≤ n) = false := by simpa using h
    have H := Lib.hid h
    clear h
    go_enter Tryd.func50, Tryd.ntmps50
    go_wp2
    go_ret
    exact ⟨ret_bool (by simp), rfl⟩

def mFits (a b r : Int) : Bool := decide (0 ≤ a ∧ a ≤ 400) && decide (0 ≤ b ∧ b ≤ 400) && decide (0 ≤ r ∧ r ≤ 400)

set_option maxHeartbeats 1000000 in
theorem measFits_any (a b r : Int) (w : World) : Calls Tryd.prog 24 #[meas a b r] w fun e w' => e = .returned (.bool (mFits a b r)) ∧ Below w.heap.size w w' := by
  unfold meas mFits
  generalize hq1 : decide (0 ≤ a ∧ a ≤ 400) = q1
  generalize hq2 : decide (0 ≤ b ∧ b ≤ 400) = q2
  generalize hq3 : decide (0 ≤ r ∧ r ≤ 400) = q3
  have H1 := Lib.hid hq1
  have H2 := Lib.hid hq2
  have H3 := Lib.hid hq3
  clear hq1 hq2 hq3
  have hfin := fun t => (Below.refl w.heap.size w).alloc (Nat.le_refl _) (.cells #[.int .i64 a, .int .i64 b, .int .i64 r] t)
  cases q1
  · go_enter Tryd.func24, Tryd.ntmps24
    go_wp2_with (go_at_call 50; refine (fitsText_any _ _).mono ?_; rintro e w1 ⟨rfl, rfl⟩; first | rw [H1.out] | rw [H2.out] | rw [H3.out])
    go_ret
    exact ⟨rfl, hfin _⟩
  · cases q2
    · go_enter Tryd.func24, Tryd.ntmps24
      go_wp2_with (go_at_call 50; refine (fitsText_any _ _).mono ?_; rintro e w1 ⟨rfl, rfl⟩; first | rw [H1.out] | rw [H2.out] | rw [H3.out])
      go_ret
      exact ⟨rfl, hfin _⟩
    · go_enter Tryd.func24, Tryd.ntmps24
      go_wp2_with (go_at_call 50; refine (fitsText_any _ _).mono ?_; rintro e w1 ⟨rfl, rfl⟩; first | rw [H1.out] | rw [H2.out] | rw [H3.out])
      go_ret
      exact ⟨rfl, hfin _⟩
end Go.Proofs.YthnahenpnafkmaaDoor
