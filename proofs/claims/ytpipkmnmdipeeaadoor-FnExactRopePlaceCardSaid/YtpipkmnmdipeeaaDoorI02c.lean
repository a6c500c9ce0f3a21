/-
  Chapter 2, measSum, measFits, MeasAdd of the program: contracts. Own work.
-/
import Derived.Test.YtpipkmnmdipeeaaDoorI02b
import Derived.Handy
namespace Go.Proofs.YtpipkmnmdipeeaaDoor
open Go.RowKit P
set_option linter.unusedVariables false
set_option maxRecDepth 100000

set_option maxHeartbeats 2000000 in
theorem measSum_any (b : Nat) (a0 a1 a2 b0 b1 b2 : Int) (c : Nat) (w : World) (hb : b < w.heap.size) (h0 : 0 ≤ a0 ∧ a0 ≤ 1000000000) (h1 : 0 ≤ a1 ∧ a1 ≤ 1000000000) (h2 : 0 ≤ a2 ∧ a2 ≤ 1000000000)
    (k0 : 0 ≤ b0 ∧ b0 ≤ 1000000000) (k1 : 0 ≤ b1 ∧ b1 ≤ 1000000000) (k2 : 0 ≤ b2 ∧ b2 ≤ 1000000000) (hB : Blk w b #[.int .i64 a0, .int .i64 a1, .int .i64 a2, .int .i64 b0, .int .i64 b1, .int .i64 b2] 43) :
    Calls Tryd.prog 87 #[.slice (some ⟨b, 0, none⟩) 2 c] w fun e w' => e = .returned (meas (a0 + b0) (a1 + b1) (a2 + b2)) ∧ Below w.heap.size w w' := by
  have c0 : w.cell? ⟨b, 0, none⟩ = some (.int .i64 a0) := hB.cell 0
  have c1 : w.cell? ⟨b, 1, none⟩ = some (.int .i64 a1) := hB.cell 1
  have c2 : w.cell? ⟨b, 2, none⟩ = some (.int .i64 a2) := hB.cell 2
  have c3 : w.cell? ⟨b, 3, none⟩ = some (.int .i64 b0) := hB.cell 3
  have c4 : w.cell? ⟨b, 4, none⟩ = some (.int .i64 b1) := hB.cell 4
  have c5 : w.cell? ⟨b, 5, none⟩ = some (.int .i64 b2) := hB.cell 5
  obtain ⟨h00, h01⟩ := h0
  obtain ⟨h10, h11⟩ := h1
  obtain ⟨h20, h21⟩ := h2
  obtain ⟨k00, k01⟩ := k0
  obtain ⟨k10, k11⟩ := k1
  obtain ⟨k20, k21⟩ := k2
  have hb1 : b < w.heap.size + 1 := by omega
  have hb2 : b < w.heap.size + 1 + 1 := by omega
  have hb3 : b < w.heap.size + 1 + 1 + 1 := by omega
  clear hB
  go_enter Tryd.func87, Tryd.ntmps87
  go_wp2
  go_rounds 3
  refine bodyPost_ret (v := meas (a0 + b0) (a1 + b1) (a2 + b2)) (by simp [results, Tryd.results87, go_sem, meas]) rfl ⟨rfl, ?_⟩
  (repeat (first | exact Below.refl _ _ | assumption | refine Below.setCell ?_ (by first | (simp; done) | (simp; omega) | omega) _ | refine Below.drew ?_ | refine below_drewN ?_ _ | refine Below.alloc ?_ (by first | (simp; done) | (simp; omega) | omega) _))

def mFits (a b r : Int) : Bool := decide (0 ≤ a ∧ a ≤ 400) && decide (0 ≤ b ∧ b ≤ 400) && decide (0 ≤ r ∧ r ≤ 400)

end Go.Proofs.YtpipkmnmdipeeaaDoor
