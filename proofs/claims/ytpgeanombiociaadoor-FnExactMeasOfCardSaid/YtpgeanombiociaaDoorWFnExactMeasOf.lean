/-
  FnExactMeasOf, its walk. Own work.
-/
import Derived.Test.YtpgeanombiociaaDoorLaw
import Derived.Test.YtpgeanombiociaaDoorS02
namespace Go.Proofs.YtpgeanombiociaaDoor.fnExactMeasOf
open Go.ChangeShapes Go.WideShapes Go.ChangeAt Go.RowKit P
set_option linter.unusedVariables false

set_option maxHeartbeats 1000000 in
theorem eqMeas_any (a b r x y z : Int) (w : World) : Calls Tryd.prog 34 #[meas a b r, meas x y z] w fun e w' => e = .returned (.bool (decide (a = x ∧ b = y ∧ r = z))) ∧ Below w.heap.size w w' := by
  unfold meas
  by_cases h1 : a = x
  · subst h1
    have n1 : (a != a) = false := by simp
    by_cases h2 : b = y
    · subst h2
      have n2 : (b != b) = false := by simp
      by_cases h3 : r = z
      · subst h3
        have n3 : (r != r) = false := by simp
        go_enter Tryd.func34, Tryd.ntmps34
        go_wp2
        go_ret
        exact ⟨by simp, by (repeat (first | exact Below.refl _ _ | assumption | refine Below.setCell ?_ (by first | (simp; done) | (simp; omega) | omega) _ | refine Below.drew ?_ | refine below_drewN ?_ _ | refine Below.alloc ?_ (by first | (simp; done) | (simp; omega) | omega) _))⟩
      · have n3 : (r != z) = true := by simpa using h3
        have H3 := Lib.hid h3
        clear h3
        go_enter Tryd.func34, Tryd.ntmps34
        go_wp2
        go_ret
        exact ⟨by simp [H3.out], by (repeat (first | exact Below.refl _ _ | assumption | refine Below.setCell ?_ (by first | (simp; done) | (simp; omega) | omega) _ | refine Below.drew ?_ | refine below_drewN ?_ _ | refine Below.alloc ?_ (by first | (simp; done) | (simp; omega) | omega) _))⟩
    · have n2 : (b != y) = true := by simpa using h2
      have H2 := Lib.hid h2
      clear h2
      go_enter Tryd.func34, Tryd.ntmps34
      go_wp2
      go_ret
      exact ⟨by simp [H2.out], by (repeat (first | exact Below.refl _ _ | assumption | refine Below.setCell ?_ (by first | (simp; done) | (simp; omega) | omega) _ | refine Below.drew ?_ | refine below_drewN ?_ _ | refine Below.alloc ?_ (by first | (simp; done) | (simp; omega) | omega) _))⟩
  · have n1 : (a != x) = true := by simpa using h1
    have H1 := Lib.hid h1
    clear h1
    go_enter Tryd.func34, Tryd.ntmps34
    go_wp2
    go_ret
    exact ⟨by simp [H1.out], by (repeat (first | exact Below.refl _ _ | assumption | refine Below.setCell ?_ (by first | (simp; done) | (simp; omega) | omega) _ | refine Below.drew ?_ | refine below_drewN ?_ _ | refine Below.alloc ?_ (by first | (simp; done) | (simp; omega) | omega) _))⟩

set_option maxHeartbeats 1000000 in
theorem walk (A : Option Addr) (l : List UInt8) (c : Nat) (hc : l.length ≤ c) (hm : c ≤ maxLen) (w : World) (hB : Bs w A l) (hT : Tab w) :
    Calls Tryd.prog 6 #[.slice A l.length c] w fun e w' => e = .returned (.bool true) ∧ Below w.heap.size w w' := by
  by_cases hbig : 1048576 < (l.length : Int)
  · go_enter Tryd.func6, Tryd.ntmps6
    go_wp2
    go_ret
    exact ⟨rfl, Below.refl _ _⟩
  · have hl : l.length ≤ 1048576 := by omega
    clear hc hm
    go_enter Tryd.func6, Tryd.ntmps6
    go_wp2_with fail
    refine (toByteS_any A l c _ hl (by exact hB)).mono ?_
    rintro e w1 ⟨rfl, hrow1, hb1⟩
    go_wp2_with fail
    refine (specMeasOf_any _ l _ _ (by omega) (by omega) (by exact hrow1.bs)).mono ?_
    rintro e w2 ⟨rfl, hb2⟩
    have hb2 := below_then hb1 hb2
    have hs2 := hb2.size
    have hB2 := hB.below hb2
    have hT2 := hT.below hb2
    clear hb1 hrow1
    unfold meas
    go_wp2_with fail
    have hal := (Below.refl w2.heap.size w2).alloc (Nat.le_refl _) (.cells #[.int .i64 (mB l), .int .i64 (mR l), .int .i64 (mL l)] 33)
    refine (toByteS_any A l c _ hl (by exact hB2.below hal)).mono ?_
    rintro e w3 ⟨rfl, hrow3, hb3⟩
    have hrow3 : Row w3 (w2.heap.size + 1) l := by simpa using hrow3
    have hT3 := (hT2.below hal).below hb3
    have hx3 := (Blk.new w2 _ _).below hb3
    have hb3 := hal.trans (hb3.mono (by simp))
    have hb3' := below_then hb2 hb3
    clear hb2 hT2 hal
    go_wp2_with fail
    refine (measOf_any _ l _ _ (by omega) (by omega) (by exact hT3) (by exact hrow3.bs)).mono ?_
    rintro e w4 ⟨rfl, hb4⟩
    unfold meas
    have hx4 := hx3.below hb4
    have hz4 := hx4.lt
    have hB4 := hB2.below (below_then hb3 hb4)
    have hr4 := hrow3.bs.below hb4
    have hb4 := below_then hb3' hb4
    have d0 : w4.cell? ⟨w2.heap.size, 0, none⟩ = some (.int .i64 (mB l)) := hx4.cell 0
    have d1 : w4.cell? ⟨w2.heap.size, 1, none⟩ = some (.int .i64 (mR l)) := hx4.cell 1
    have d2 : w4.cell? ⟨w2.heap.size, 2, none⟩ = some (.int .i64 (mL l)) := hx4.cell 2
    have hq : decide (mB l = mB l ∧ mR l = mR l ∧ mL l = mL l) = true := by simp
    have HQ := Lib.hid hq
    clear hq hx3 hrow3 hT3 hb3 hB2 hx4 hb3'
    have heq := fun W => eqMeas_any (mB l) (mR l) (mL l) (mB l) (mR l) (mL l) W
    unfold meas at heq
    rw [HQ.out] at heq
    go_wp2_with fail
    refine (heq _).mono ?_
    rintro e w5 ⟨rfl, hb5⟩
    have hal := hb4.alloc hb4.size (.cells #[.int .i64 (mB l), .int .i64 (mR l), .int .i64 (mL l)] 33)
    have hB5 := (hB4.below ((Below.refl _ _).alloc (Nat.le_refl _) _)).below hb5
    have hr5 := (hr4.below ((Below.refl _ _).alloc (Nat.le_refl _) _)).below hb5
    have hb5 := below_then hal hb5
    clear heq hB4 hb4 hr4 hal d0 d1 d2
    go_wp2_with fail
    refine (toByteS_any A l c _ hl (by exact hB5)).mono ?_
    rintro e w6 ⟨rfl, hrow6, hb6⟩
    have hr6 := hr5.below hb6
    have hb6 := below_then hb5 hb6
    go_wp2_with fail
    refine (eqByteS_any _ _ l l _ _ _ (by omega) (by exact hr6) (by exact hrow6.bs)).mono ?_
    rintro e w7 ⟨rfl, n7, rfl⟩
    rw [decide_eq_true (rfl : l = l)]
    go_wp2
    go_ret
    exact ⟨rfl, below_drewN hb6 n7⟩

end Go.Proofs.YtpgeanombiociaaDoor.fnExactMeasOf
