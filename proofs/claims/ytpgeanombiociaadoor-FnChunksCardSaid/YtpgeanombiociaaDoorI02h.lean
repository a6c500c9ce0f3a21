/-
  Chapter 2, MeasAdd of the program: contract (beside the texts' functions). Own work.
-/
import Derived.Test.YtpgeanombiociaaDoorI02c
namespace Go.Proofs.YtpgeanombiociaaDoor
open Go.RowKit P
set_option linter.unusedVariables false

def mAdd (a b c x y z : Int) (k : Int) : Int := if mFits a b c = true ∧ mFits x y z = true then k else 0

theorem mFits_iff (a b c : Int) : mFits a b c = true ↔ 0 ≤ a ∧ a ≤ 400 ∧ 0 ≤ b ∧ b ≤ 400 ∧ 0 ≤ c ∧ c ≤ 400 := by
  unfold mFits; simp [and_assoc]

set_option maxHeartbeats 2000000 in
theorem implMeasAdd_any (a b c x y z : Int) (w : World) : Calls Tryd.prog 25 #[meas a b c, meas x y z] w fun e w' => e = .returned (meas (mAdd a b c x y z (a + x)) (mAdd a b c x y z (b + y)) (mAdd a b c x y z (c + z))) ∧ Below w.heap.size w w' := by
  have hsum := fun b' w' => measSum_any b' a b c x y z 2 w'
  have hf1 := fun w' => measFits_any a b c w'
  have hf2 := fun w' => measFits_any x y z w'
  have i1 := mFits_iff a b c
  have i2 := mFits_iff x y z
  have hal := ((((Below.refl w.heap.size w).alloc (Nat.le_refl _) (.cells #[.int .i64 a, .int .i64 b, .int .i64 c] 33)).alloc (by simp) (.cells #[.int .i64 x, .int .i64 y, .int .i64 z] 33)).alloc (by simp; omega) (.cells #[.int .i64 0, .int .i64 0, .int .i64 0] 33))
  have hB2 := (Blk.new w #[.int .i64 a, .int .i64 b, .int .i64 c] 33)
  have hB2' := (hB2.alloc (.cells #[.int .i64 x, .int .i64 y, .int .i64 z] 33)).alloc (.cells #[.int .i64 0, .int .i64 0, .int .i64 0] 33)
  have hB3 := (Blk.new (w.alloc (.cells #[.int .i64 a, .int .i64 b, .int .i64 c] 33)) #[.int .i64 x, .int .i64 y, .int .i64 z] 33).alloc (.cells #[.int .i64 0, .int .i64 0, .int .i64 0] 33)
  have hB4 := (Blk.new ((w.alloc (.cells #[.int .i64 a, .int .i64 b, .int .i64 c] 33)).alloc (.cells #[.int .i64 x, .int .i64 y, .int .i64 z] 33)) #[.int .i64 0, .int .i64 0, .int .i64 0] 33)
  unfold meas at hsum hf1 hf2 ⊢
  generalize hq1 : mFits a b c = q1 at *
  generalize hq2 : mFits x y z = q2 at *
  have hz : ∀ k, mAdd a b c x y z k = if q1 = true ∧ q2 = true then k else 0 := fun k => by unfold mAdd; rw [hq1, hq2]
  have HZ := Lib.hid hz
  have HS := Lib.hid hsum
  have HF1 := Lib.hid hf1
  have HF2 := Lib.hid hf2
  clear hq1 hq2 hz hsum hf1 hf2 hB2
  cases q1
  · clear i1 i2 HF2 HS
    go_enter Tryd.func25, Tryd.ntmps25
    go_wp2_with fail
    refine (HF1.out _).mono ?_
    rintro e w1 ⟨rfl, hb1⟩
    have hr := hB4.below hb1
    rw [show ((w.alloc (.cells #[.int .i64 a, .int .i64 b, .int .i64 c] 33)).alloc (.cells #[.int .i64 x, .int .i64 y, .int .i64 z] 33)).heap.size = w.heap.size + 1 + 1 by simp] at hr
    have d0 : w1.cell? ⟨w.heap.size + 1 + 1, 0, none⟩ = some (.int .i64 0) := hr.cell 0
    have d1 : w1.cell? ⟨w.heap.size + 1 + 1, 1, none⟩ = some (.int .i64 0) := hr.cell 1
    have d2 : w1.cell? ⟨w.heap.size + 1 + 1, 2, none⟩ = some (.int .i64 0) := hr.cell 2
    have f0 := hr.frozen 0
    have f1 := hr.frozen 1
    have f2 := hr.frozen 2
    have hb2 := hal.trans (hb1.mono (by simp; omega))
    go_wp2
    refine bodyPost_ret (v := .agg #[.int .i64 0, .int .i64 0, .int .i64 0]) (by simp [results, Tryd.results25, go_sem, d0, d1, d2]) rfl ⟨by simp [HZ.out], ?_⟩
    (repeat (first | exact Below.refl _ _ | assumption | refine Below.setCell ?_ (by first | (simp; done) | (simp; omega) | omega) _ | refine Below.drew ?_ | refine below_drewN ?_ _ | refine Below.alloc ?_ (by first | (simp; done) | (simp; omega) | omega) _))
  · cases q2
    · clear i1 i2 HS
      go_enter Tryd.func25, Tryd.ntmps25
      go_wp2_with fail
      refine (HF1.out _).mono ?_
      rintro e w1 ⟨rfl, hb1⟩
      have hr := hB4.below hb1
      have hx := hB3.below hb1
      rw [show ((w.alloc (.cells #[.int .i64 a, .int .i64 b, .int .i64 c] 33)).alloc (.cells #[.int .i64 x, .int .i64 y, .int .i64 z] 33)).heap.size = w.heap.size + 1 + 1 by simp] at hr
      rw [show (w.alloc (.cells #[.int .i64 a, .int .i64 b, .int .i64 c] 33)).heap.size = w.heap.size + 1 by simp] at hx
      have x0 : w1.cell? ⟨w.heap.size + 1, 0, none⟩ = some (.int .i64 x) := hx.cell 0
      have x1 : w1.cell? ⟨w.heap.size + 1, 1, none⟩ = some (.int .i64 y) := hx.cell 1
      have x2 : w1.cell? ⟨w.heap.size + 1, 2, none⟩ = some (.int .i64 z) := hx.cell 2
      have hb2 := hal.trans (hb1.mono (by simp; omega))
      go_wp2_with fail
      refine (HF2.out _).mono ?_
      rintro e w2 ⟨rfl, hb3⟩
      have hr := hr.below hb3
      have d0 : w2.cell? ⟨w.heap.size + 1 + 1, 0, none⟩ = some (.int .i64 0) := hr.cell 0
      have d1 : w2.cell? ⟨w.heap.size + 1 + 1, 1, none⟩ = some (.int .i64 0) := hr.cell 1
      have d2 : w2.cell? ⟨w.heap.size + 1 + 1, 2, none⟩ = some (.int .i64 0) := hr.cell 2
      have f0 := hr.frozen 0
      have f1 := hr.frozen 1
      have f2 := hr.frozen 2
      have hb4 := below_then hb2 hb3
      go_wp2
      refine bodyPost_ret (v := .agg #[.int .i64 0, .int .i64 0, .int .i64 0]) (by simp [results, Tryd.results25, go_sem, d0, d1, d2]) rfl ⟨by simp [HZ.out], ?_⟩
      (repeat (first | exact Below.refl _ _ | assumption | refine Below.setCell ?_ (by first | (simp; done) | (simp; omega) | omega) _ | refine Below.drew ?_ | refine below_drewN ?_ _ | refine Below.alloc ?_ (by first | (simp; done) | (simp; omega) | omega) _))
    · obtain ⟨g0, g1, g2, g3, g4, g5⟩ := i1.1 rfl
      obtain ⟨k0, k1, k2, k3, k4, k5⟩ := i2.1 rfl
      clear i1 i2
      go_enter Tryd.func25, Tryd.ntmps25
      go_wp2_with fail
      refine (HF1.out _).mono ?_
      rintro e w1 ⟨rfl, hb1⟩
      have hr := hB4.below hb1
      have hx := hB3.below hb1
      have ha := hB2'.below hb1
      rw [show ((w.alloc (.cells #[.int .i64 a, .int .i64 b, .int .i64 c] 33)).alloc (.cells #[.int .i64 x, .int .i64 y, .int .i64 z] 33)).heap.size = w.heap.size + 1 + 1 by simp] at hr
      rw [show (w.alloc (.cells #[.int .i64 a, .int .i64 b, .int .i64 c] 33)).heap.size = w.heap.size + 1 by simp] at hx
      have x0 : w1.cell? ⟨w.heap.size + 1, 0, none⟩ = some (.int .i64 x) := hx.cell 0
      have x1 : w1.cell? ⟨w.heap.size + 1, 1, none⟩ = some (.int .i64 y) := hx.cell 1
      have x2 : w1.cell? ⟨w.heap.size + 1, 2, none⟩ = some (.int .i64 z) := hx.cell 2
      have hb2 := hal.trans (hb1.mono (by simp; omega))
      go_wp2_with fail
      refine (HF2.out _).mono ?_
      rintro e w2 ⟨rfl, hb3⟩
      have hr := hr.below hb3
      have hx := hx.below hb3
      have ha := ha.below hb3
      have x0 : w2.cell? ⟨w.heap.size + 1, 0, none⟩ = some (.int .i64 x) := hx.cell 0
      have x1 : w2.cell? ⟨w.heap.size + 1, 1, none⟩ = some (.int .i64 y) := hx.cell 1
      have x2 : w2.cell? ⟨w.heap.size + 1, 2, none⟩ = some (.int .i64 z) := hx.cell 2
      have a0 : w2.cell? ⟨w.heap.size, 0, none⟩ = some (.int .i64 a) := ha.cell 0
      have a1 : w2.cell? ⟨w.heap.size, 1, none⟩ = some (.int .i64 b) := ha.cell 1
      have a2 : w2.cell? ⟨w.heap.size, 2, none⟩ = some (.int .i64 c) := ha.cell 2
      have hb4 := below_then hb2 hb3
      go_wp2_with fail
      refine (HS.out _ _ (by simp) ⟨by omega, by omega⟩ ⟨by omega, by omega⟩ ⟨by omega, by omega⟩ ⟨by omega, by omega⟩ ⟨by omega, by omega⟩ ⟨by omega, by omega⟩ (by exact Blk.new _ _ _)).mono ?_
      rintro e w3 ⟨rfl, hb5⟩
      have hr := (hr.alloc (.cells #[.int .i64 a, .int .i64 b, .int .i64 c, .int .i64 x, .int .i64 y, .int .i64 z] 33)).below hb5
      have d0 : w3.cell? ⟨w.heap.size + 1 + 1, 0, none⟩ = some (.int .i64 0) := hr.cell 0
      have d1 : w3.cell? ⟨w.heap.size + 1 + 1, 1, none⟩ = some (.int .i64 0) := hr.cell 1
      have d2 : w3.cell? ⟨w.heap.size + 1 + 1, 2, none⟩ = some (.int .i64 0) := hr.cell 2
      have f0 := hr.frozen 0
      have f1 := hr.frozen 1
      have f2 := hr.frozen 2
      have hb6 := below_then hb4 (((Below.refl _ _).alloc (Nat.le_refl _) (.cells #[.int .i64 a, .int .i64 b, .int .i64 c, .int .i64 x, .int .i64 y, .int .i64 z] 33)).trans (hb5.mono (by simp)))
      go_wp2
      refine bodyPost_ret (v := .agg #[.int .i64 (a + x), .int .i64 (b + y), .int .i64 (c + z)]) (by simp [results, Tryd.results25, go_sem, d0, d1, d2]) rfl ⟨by simp [HZ.out], ?_⟩
      (repeat (first | exact Below.refl _ _ | assumption | refine Below.setCell ?_ (by first | (simp; done) | (simp; omega) | omega) _ | refine Below.drew ?_ | refine below_drewN ?_ _ | refine Below.alloc ?_ (by first | (simp; done) | (simp; omega) | omega) _))


theorem m_app {a b : List UInt8} (ha : isText a = true) (hb : isText b = true) (hab : isText (a ++ b) = true) : mB (a ++ b) = mB a + mB b ∧ mR (a ++ b) = mR a + mR b ∧ mL (a ++ b) = mL a + mL b := by
  unfold mB mR mL
  rw [if_pos ha, if_pos hb, if_pos hab, if_pos ha, if_pos hb, if_pos hab, if_pos ha, if_pos hb, if_pos hab, runeCount_app ha hb hab, lines_app, List.length_append]
  refine ⟨by omega, rfl, by omega⟩

theorem mAdd_fits {a b c x y z : Int} (h1 : 0 ≤ a ∧ a ≤ 400 ∧ 0 ≤ b ∧ b ≤ 400 ∧ 0 ≤ c ∧ c ≤ 400) (h2 : 0 ≤ x ∧ x ≤ 400 ∧ 0 ≤ y ∧ y ≤ 400 ∧ 0 ≤ z ∧ z ≤ 400) (k : Int) : mAdd a b c x y z k = k := by
  unfold mAdd
  rw [if_pos ⟨(mFits_iff a b c).2 h1, (mFits_iff x y z).2 h2⟩]
end Go.Proofs.YtpgeanombiociaaDoor
