/-
  Chapter 5, the model's EditOk: contract. Own work.
-/
import Derived.Test.YtepffgahgfipjaaDoorS01
import Derived.Test.YtepffgahgfipjaaDoorP08
import Derived.Test.YtepffgahgfipjaaDoorEB
namespace Go.Proofs.YtepffgahgfipjaaDoor
open Go.RowKit P
set_option linter.unusedVariables false
set_option linter.unusedSimpArgs false
set_option maxRecDepth 100000

set_option maxHeartbeats 4000000 in
theorem specEditOk_any (A : Option Addr) (l : List UInt8) (c : Nat) (a m : Int) (Ap : Option Addr) (p : List UInt8) (cp : Nat) (w : World) (hl : l.length ≤ c) (hc9 : c ≤ 9223372036854775807) (hpc : p.length ≤ cp) (hcp9 : cp ≤ 9223372036854775807) (hA : Bs w A l) (hP : Bs w Ap p) :
    Calls Tryd.prog 36 #[.slice A l.length c, .agg #[.int .i64 a, .int .i64 m, .slice Ap p.length cp]] w fun e w' => e = .returned (.bool (edOk l a m p)) ∧ Below w.heap.size w w' := by
  obtain ⟨q0, hq0⟩ : ∃ q, isText l = q := ⟨_, rfl⟩
  obtain ⟨q1, hq1⟩ : ∃ q, cutOk l a = q := ⟨_, rfl⟩
  obtain ⟨q2, hq2⟩ : ∃ q, cutOk l (a + m) = q := ⟨_, rfl⟩
  obtain ⟨q3, hq3⟩ : ∃ q, isText p = q := ⟨_, rfl⟩
  obtain ⟨R, hR⟩ : ∃ R, edOk l a m p = R := ⟨_, rfl⟩
  have hc1 : q1 = (q0 && isBound l a) := by rw [← hq1, ← hq0]; rfl
  have hc2 : q2 = (q0 && isBound l (a + m)) := by rw [← hq2, ← hq0]; rfl
  have hRq : R = (decide (0 ≤ m) && (q0 && (q3 && ((isBound l a && isBound l (a + m)) && decide ((l.length : Int) - m + p.length ≤ 400))))) := by rw [← hR, ← hq0, ← hq3]; rfl
  have hrg : q1 = true → 0 ≤ a ∧ a ≤ (l.length : Int) := fun h => by
    rw [hc1, Bool.and_eq_true] at h
    exact isBound_range h.2
  have hrg2 : isBound l (a + m) = true → a + m ≤ (l.length : Int) := fun h => (isBound_range h).2
  have hlen0 : q0 = true → l.length ≤ 400 := fun h => isText_len (hq0.trans h)
  have hlen3 : q3 = true → p.length ≤ 400 := fun h => isText_len (hq3.trans h)
  have F0 : q0 = false → R = false := fun h => by rw [hRq, h]; simp
  have F1 : q1 = false → R = false := fun h => by rw [hRq]; rw [hc1] at h; cases q0 <;> simp_all
  have F2 : q2 = false → R = false := fun h => by rw [hRq]; rw [hc2] at h; cases q0 <;> simp_all
  have F3 : q3 = false → R = false := fun h => by rw [hRq, h]; simp
  have F4 : m < 0 → R = false := fun h => by rw [hRq, decide_eq_false (by omega)]; rfl
  have F5 : (l.length : Int) - a < m → R = false := fun h => by
    have : isBound l (a + m) = false := by
      cases hz : isBound l (a + m)
      · rfl
      · have := hrg2 hz; omega
    rw [hRq, this]; simp
  have F6 : 0 ≤ m → q1 = true → q2 = true → q3 = true → R = decide ((l.length : Int) - m + p.length ≤ 400) := fun h0 h1 h2 h3 => by
    rw [hc1, Bool.and_eq_true] at h1
    rw [hc2, Bool.and_eq_true] at h2
    rw [hRq, decide_eq_true h0, h1.1, h3, h1.2, h2.2]
    simp
  have HQ0 := Lib.hid hq0
  have HQ1 := Lib.hid hq1
  have HQ2 := Lib.hid hq2
  have HQ3 := Lib.hid hq3
  have HR := Lib.hid hR
  have HRG := Lib.hid hrg
  have HL0 := Lib.hid hlen0
  have HL3 := Lib.hid hlen3
  have G0 := Lib.hid F0
  have G1 := Lib.hid F1
  have G2 := Lib.hid F2
  have G3 := Lib.hid F3
  have G4 := Lib.hid F4
  have G5 := Lib.hid F5
  have G6 := Lib.hid F6
  have hal := (Below.refl w.heap.size w).alloc (Nat.le_refl _) (.cells #[.int .i64 a, .int .i64 m, .slice Ap p.length cp] 25)
  have bE := EBox.new w a m Ap p.length cp
  rw [hR]
  clear hq0 hq1 hq2 hq3 hR hc1 hc2 hRq hrg hrg2 hlen0 hlen3 F0 F1 F2 F3 F4 F5 F6
  go_enter Tryd.func36, Tryd.ntmps36
  go_wp2_with fail
  generalize w.alloc (.cells #[.int .i64 a, .int .i64 m, .slice Ap p.length cp] 25) = W1 at *
  refine (specTextOk_any A l c _ hl hc9 (by exact hA.below hal)).mono ?_
  rintro e w2 ⟨rfl, hb2⟩
  rw [HQ0.out]
  have bE := bE.below hb2
  have hb2 := below_then hal hb2
  have k0 := bE.c0
  clear hal
  cases q0
  · have e1 := G0.out rfl
    go_wp2
    go_ret
    exact ⟨ret_bool e1.symm, hb2⟩
  have hl4 := HL0.out rfl
  go_wp2_with fail
  refine (specCutOk_any A l c a _ hl hc9 (by exact hA.below hb2)).mono ?_
  rintro e w3 ⟨rfl, hb3⟩
  rw [HQ1.out]
  have bE := bE.below hb3
  have hb3 := below_then hb2 hb3
  clear k0 hb2
  have k0 := bE.c0
  have k1 := bE.c1
  cases q1
  · have e1 := G1.out rfl
    go_wp2
    go_ret
    exact ⟨ret_bool e1.symm, hb3⟩
  obtain ⟨ha0, ha4⟩ := HRG.out rfl
  by_cases hneg : m < 0
  · have e1 := G4.out hneg
    go_wp2
    go_ret
    exact ⟨ret_bool e1.symm, hb3⟩
  by_cases hover : (l.length : Int) - a < m
  · have e1 := G5.out hover
    go_wp2
    go_ret
    exact ⟨ret_bool e1.symm, hb3⟩
  have hm0 : 0 ≤ m := by omega
  go_wp2_with fail
  refine (specCutOk_any A l c (a + m) _ hl hc9 (by exact hA.below hb3)).mono ?_
  rintro e w4 ⟨rfl, hb4⟩
  rw [HQ2.out]
  have bE := bE.below hb4
  have hb4 := below_then hb3 hb4
  clear k0 k1 hb3
  have k1 := bE.c1
  have k2 := bE.c2
  cases q2
  · have e1 := G2.out rfl
    go_wp2
    go_ret
    exact ⟨ret_bool e1.symm, hb4⟩
  go_wp2_with fail
  refine (specTextOk_any Ap p cp _ hpc hcp9 (by exact hP.below hb4)).mono ?_
  rintro e w5 ⟨rfl, hb5⟩
  rw [HQ3.out]
  have bE := bE.below hb5
  have hb5 := below_then hb4 hb5
  clear k1 k2 hb4
  have k1 := bE.c1
  have k2 := bE.c2
  cases q3
  · have e1 := G3.out rfl
    go_wp2
    go_ret
    exact ⟨ret_bool e1.symm, hb5⟩
  have hp4 := HL3.out rfl
  have e1 := G6.out hm0 (by trivial) (by trivial) (by trivial)
  go_wp2
  go_ret
  exact ⟨ret_bool e1.symm, hb5⟩
end Go.Proofs.YtepffgahgfipjaaDoor
