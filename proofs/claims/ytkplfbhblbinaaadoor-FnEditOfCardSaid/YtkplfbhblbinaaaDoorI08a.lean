/-
  Chapter 5, the program's EditOk and the methods under it: contracts. Own work.
-/
import Derived.Test.YtkplfbhblbinaaaDoorI01f
import Derived.Test.YtkplfbhblbinaaaDoorP08c
import Derived.Test.YtkplfbhblbinaaaDoorEB
import Derived.Test.YtkplfbhblbinaaaDoorS08
import Derived.Test.YtkplfbhblbinaaaDoorJ07
import Derived.Deep.RegionHeld3
namespace Go.Proofs.YtkplfbhblbinaaaDoor
open Go.RowKit P
set_option linter.unusedVariables false
set_option linter.unusedSimpArgs false
set_option maxRecDepth 100000

theorem wrap_end {l : List UInt8} {a m : Int} (hm : 0 ≤ m) (hm2 : m ≤ 9223372036854775807) (hl : l.length ≤ 400) (ha : isBound l a = true) : isBound l (IntKind.i64.wrap (a + m)) = isBound l (a + m) := by
  have h := isBound_range ha
  by_cases h1 : a + m ≤ 9223372036854775807
  · rw [IntWalk.i64_in _ ⟨by omega, h1⟩]
  · rw [isBound_out _ (a + m) (by omega), isBound_out]
    left
    rw [IntKind.wrap_i64]
    omega

/-- Whether the edit cuts whole code points out of a text. -/
def edWhole (l : List UInt8) (a m : Int) : Bool := decide (0 ≤ m) && (isBound l a && isBound l (a + m))

set_option maxHeartbeats 2000000 in
theorem cutsWhole_any (a m : Int) (Ap : Option Addr) (n cp : Nat) (A : Option Addr) (l : List UInt8) (c : Nat) (w : World) (hl : l.length ≤ 400) (hm9 : m ≤ 9223372036854775807) (hA : Bs w A l) :
    Calls Tryd.prog 82 #[.agg #[.int .i64 a, .int .i64 m, .slice Ap n cp], .slice A l.length c] w fun e w' => e = .returned (.bool (edWhole l a m)) ∧ Below w.heap.size w w' := by
  have hb0 := (Below.refl w.heap.size w).alloc (Nat.le_refl _) (.cells #[.int .i64 a, .int .i64 m, .slice Ap n cp] 25)
  have bE := EBox.new w a m Ap n cp
  obtain ⟨q1, hq1⟩ : ∃ q, isBound l a = q := ⟨_, rfl⟩
  obtain ⟨z, hz⟩ : ∃ z, IntKind.i64.wrap (a + m) = z := ⟨_, rfl⟩
  obtain ⟨q2, hq2⟩ : ∃ q, isBound l z = q := ⟨_, rfl⟩
  obtain ⟨R, hR⟩ : ∃ R, edWhole l a m = R := ⟨_, rfl⟩
  have F0 : m < 0 → R = false := fun h => by rw [← hR]; unfold edWhole; rw [decide_eq_false (by omega)]; rfl
  have F1 : q1 = false → R = false := fun h => by rw [← hR]; unfold edWhole; rw [hq1, h]; simp
  have F2 : 0 ≤ m → q1 = true → R = q2 := fun h0 h => by
    rw [← hR, ← hq2, ← hz, wrap_end h0 hm9 hl (hq1.trans h)]
    unfold edWhole
    rw [decide_eq_true h0, hq1, h]; simp
  have HQ1 := Lib.hid hq1
  have HQ2 := Lib.hid hq2
  have G0 := Lib.hid F0
  have G1 := Lib.hid F1
  have G2 := Lib.hid F2
  have HZ := Lib.hid hz
  rw [hR]
  clear hq1 hq2 hR hz F0 F1 F2
  by_cases hneg : m < 0
  · have e1 := G0.out hneg
    have hg : (decide (m ≥ 0)) = false := decide_eq_false (by omega)
    go_enter Tryd.func82, Tryd.ntmps82
    go_wp2
    go_ret
    exact ⟨ret_bool e1.symm, hb0⟩
  have hm0 : 0 ≤ m := by omega
  go_enter Tryd.func82, Tryd.ntmps82
  go_wp2_with fail
  generalize w.alloc (.cells #[.int .i64 a, .int .i64 m, .slice Ap n cp] 25) = W1 at *
  refine (isBoundary_any A l c a _ (by omega) (by exact hA.below hb0)).mono ?_
  rintro e w2 ⟨rfl, rfl⟩
  rw [HQ1.out]
  have k0 := bE.c0
  have k1 := bE.c1
  have k2 := bE.c2
  cases q1
  · have e1 := G1.out rfl
    go_wp2
    go_ret
    exact ⟨ret_bool e1.symm, hb0⟩
  have e1 := G2.out hm0 rfl
  go_wp2_with fail
  refine (edEnd_any a m z Ap n cp _ HZ.out).mono ?_
  rintro e w3 ⟨rfl, hb3⟩
  have hb3 := below_then hb0 hb3
  clear k0 k1 k2
  go_wp2_with fail
  refine (isBoundary_any A l c _ _ (by omega) (by exact hA.below hb3)).mono ?_
  rintro e w4 ⟨rfl, rfl⟩
  rw [HQ2.out]
  go_wp2
  go_ret
  exact ⟨ret_bool e1.symm, hb3⟩

/-- Whether an edit fits a text, apart from the length of the result. -/
def edFits (l : List UInt8) (a m : Int) (p : List UInt8) : Bool := isText p && edWhole l a m

set_option maxHeartbeats 2000000 in
theorem fits_any (a m : Int) (Ap : Option Addr) (p : List UInt8) (cp : Nat) (A : Option Addr) (l : List UInt8) (c : Nat) (w : World) (hl : l.length ≤ 400) (hpc : p.length ≤ cp) (hcp9 : cp ≤ 9223372036854775807) (hm9 : m ≤ 9223372036854775807) (hT : Tab w) (hA : Bs w A l) (hP : Bs w Ap p) :
    Calls Tryd.prog 56 #[.agg #[.int .i64 a, .int .i64 m, .slice Ap p.length cp], .slice A l.length c] w fun e w' => e = .returned (.bool (edFits l a m p)) ∧ Below w.heap.size w w' := by
  obtain ⟨q1, hq1⟩ : ∃ q, edWhole l a m = q := ⟨_, rfl⟩
  obtain ⟨q3, hq3⟩ : ∃ q, isText p = q := ⟨_, rfl⟩
  rw [show edFits l a m p = (q3 && q1) by rw [← hq1, ← hq3]; rfl]
  have HQ1 := Lib.hid hq1
  have HQ3 := Lib.hid hq3
  have hal := (Below.refl w.heap.size w).alloc (Nat.le_refl _) (.cells #[.int .i64 a, .int .i64 m, .slice Ap p.length cp] 25)
  have bE := EBox.new w a m Ap p.length cp
  clear hq1 hq3
  go_enter Tryd.func56, Tryd.ntmps56
  go_wp2_with fail
  generalize w.alloc (.cells #[.int .i64 a, .int .i64 m, .slice Ap p.length cp] 25) = W1 at *
  refine (textOk_any Ap p cp _ hpc hcp9 (by exact hT.below hal) (by exact hP.below hal)).mono ?_
  rintro e w3 ⟨rfl, n3, rfl⟩
  rw [HQ3.out]
  have hb1 := below_drewN (Below.refl W1.heap.size W1) n3
  have bE := bE.below hb1
  have hb3 := below_then hal hb1
  generalize W1.drewN n3 = w3 at *
  clear hb1 hal
  have k0 := bE.c0
  have k1 := bE.c1
  have k2 := bE.c2
  cases q3
  · go_wp2
    go_ret
    exact ⟨rfl, hb3⟩
  go_wp2_with fail
  refine (cutsWhole_any a m Ap p.length cp A l c _ hl hm9 (by exact hA.below hb3)).mono ?_
  rintro e w4 ⟨rfl, hb4⟩
  rw [HQ1.out]
  have hb4 := below_then hb3 hb4
  clear k0 k1 k2
  go_wp2
  go_ret
  exact ⟨rfl, hb4⟩

set_option maxHeartbeats 2000000 in
theorem implEditOk_any (A : Option Addr) (l : List UInt8) (c : Nat) (a m : Int) (Ap : Option Addr) (p : List UInt8) (cp : Nat) (w : World) (hl : l.length ≤ c) (hc9 : c ≤ 9223372036854775807) (hpc : p.length ≤ cp) (hcp9 : cp ≤ 9223372036854775807) (hm9 : m ≤ 9223372036854775807) (hT : Tab w) (hA : Bs w A l) (hP : Bs w Ap p) :
    Calls Tryd.prog 17 #[.slice A l.length c, .agg #[.int .i64 a, .int .i64 m, .slice Ap p.length cp]] w fun e w' => e = .returned (.bool (edOk l a m p)) ∧ Below w.heap.size w w' := by
  obtain ⟨q0, hq0⟩ : ∃ q, isText l = q := ⟨_, rfl⟩
  obtain ⟨q1, hq1⟩ : ∃ q, edFits l a m p = q := ⟨_, rfl⟩
  obtain ⟨R, hR⟩ : ∃ R, edOk l a m p = R := ⟨_, rfl⟩
  have hRq : R = (q0 && (q1 && decide ((l.length : Int) - m + p.length ≤ 400))) := by
    rw [← hR, ← hq0, ← hq1]
    unfold edOk edFits edWhole
    cases decide (0 ≤ m) <;> cases isText l <;> cases isText p <;> simp
  have hlen0 : q0 = true → l.length ≤ 400 := fun h => isText_len (hq0.trans h)
  have hrg : q1 = true → 0 ≤ m ∧ m ≤ (l.length : Int) ∧ p.length ≤ 400 := fun h => by
    rw [← hq1] at h
    unfold edFits edWhole at h
    simp only [Bool.and_eq_true, decide_eq_true_eq] at h
    have g1 := isBound_range h.2.2.1
    have g2 := isBound_range h.2.2.2
    have g3 := isText_len h.1
    omega
  have F0 : q0 = false → R = false := fun h => by rw [hRq, h]; rfl
  have F1 : q1 = false → R = false := fun h => by rw [hRq, h]; simp
  have F6 : q0 = true → q1 = true → R = decide ((l.length : Int) - m + p.length ≤ 400) := fun h1 h2 => by rw [hRq, h1, h2]; simp
  have HQ0 := Lib.hid hq0
  have HQ1 := Lib.hid hq1
  have HRG := Lib.hid hrg
  have HL0 := Lib.hid hlen0
  have G0 := Lib.hid F0
  have G1 := Lib.hid F1
  have G6 := Lib.hid F6
  have hal := (Below.refl w.heap.size w).alloc (Nat.le_refl _) (.cells #[.int .i64 a, .int .i64 m, .slice Ap p.length cp] 25)
  have bE := EBox.new w a m Ap p.length cp
  rw [hR]
  clear hq0 hq1 hR hRq hrg hlen0 F0 F1 F6
  go_enter Tryd.func17, Tryd.ntmps17
  go_wp2_with fail
  generalize w.alloc (.cells #[.int .i64 a, .int .i64 m, .slice Ap p.length cp] 25) = W1 at *
  refine (textOk_any A l c _ hl hc9 (by exact hT.below hal) (by exact hA.below hal)).mono ?_
  rintro e w2 ⟨rfl, n2, rfl⟩
  rw [HQ0.out]
  have hb1 := below_drewN (Below.refl W1.heap.size W1) n2
  have bE := bE.below hb1
  have hb2 := below_then hal hb1
  generalize W1.drewN n2 = w2 at *
  have k0 := bE.c0
  have k1 := bE.c1
  have k2 := bE.c2
  clear hb1 hal
  cases q0
  · have e1 := G0.out rfl
    go_wp2
    go_ret
    exact ⟨ret_bool e1.symm, hb2⟩
  have hl4 := HL0.out rfl
  go_wp2_with fail
  refine (fits_any a m Ap p cp A l c _ hl4 hpc hcp9 hm9 (by exact hT.below hb2) (by exact hA.below hb2) (by exact hP.below hb2)).mono ?_
  rintro e w4 ⟨rfl, hb4⟩
  rw [HQ1.out]
  have bE := bE.below hb4
  have hb4 := below_then hb2 hb4
  clear hb2 k0 k1 k2
  have k0 := bE.c0
  have k1 := bE.c1
  have k2 := bE.c2
  cases q1
  · have e1 := G1.out rfl
    go_wp2
    go_ret
    exact ⟨ret_bool e1.symm, hb4⟩
  obtain ⟨hm0, hm4, hp4⟩ := HRG.out rfl
  have e1 := G6.out (by trivial) (by trivial)
  go_wp2
  go_ret
  exact ⟨ret_bool e1.symm, hb4⟩
end Go.Proofs.YtkplfbhblbinaaaDoor
