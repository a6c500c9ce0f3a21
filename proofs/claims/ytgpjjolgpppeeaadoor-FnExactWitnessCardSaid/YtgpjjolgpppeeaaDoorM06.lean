/-
  Chapter 12, what may answer an event: contracts of the program and of the model. Own work.
-/
import Derived.Test.YtgpjjolgpppeeaaDoorM03
import Derived.Test.YtgpjjolgpppeeaaDoorN08
import Derived.Test.YtgpjjolgpppeeaaDoorN12
import Derived.Test.YtgpjjolgpppeeaaDoorN14
import Derived.Deep.RegionHeld3
import Derived.Deep.DeepCutAuto
namespace Go.Proofs.YtgpjjolgpppeeaaDoor
open Go.RowKit P
set_option linter.unusedVariables false
set_option linter.unusedSimpArgs false
set_option maxRecDepth 100000

/-- What answers a frame at once; what may answer an event. -/
def frA (u x s p q r : Int) (l : List UInt8) (y : Int) (dl : List UInt8) : Bool :=
  decide (u = rqFd dl (gb dl 1)) && (decide (x = rqFd dl (gb dl 0) ∧ s = rqFd dl (gb dl 1) ∧ p = rqFd dl (wd dl 2) ∧ q = rqFd dl (wd dl 4) ∧ r = rqFd dl (wd dl 6) ∧ l = rqT dl) && decide (y = if rqGood dl = true then 10 else 1))
def pkA (u x s p q r : Int) (l : List UInt8) (es : Int) : Bool := decide (u = es) && (decide (s = es) && rqOk x s p q r l)
def mayA (u x s p q r : Int) (l : List UInt8) (y i j : Int) (m : List UInt8) (ex es : Int) (dl : List UInt8) : Bool :=
  rpOk y i j m && (if ex = 1 then frA u x s p q r l y dl else if ex = 2 then pkA u x s p q r l es else false)

set_option maxHeartbeats 4000000 in
theorem l12Same_any (x s p q r x' s' p' q' r' : Int) (A B : Option Addr) (l l' : List UInt8) (c d : Nat) (w : World) (hA : Bs w A l) (hB : Bs w B l') :
    Calls Tryd.prog 93 #[.agg #[.int .i64 x, .int .i64 s, .int .i64 p, .int .i64 q, .int .i64 r, .slice A l.length c], .agg #[.int .i64 x', .int .i64 s', .int .i64 p', .int .i64 q', .int .i64 r', .slice B l'.length d]] w fun e w' => e = .returned (.bool (decide (x = x' ∧ s = s' ∧ p = p' ∧ q = q' ∧ r = r' ∧ l = l'))) ∧ Below w.heap.size w w' := by
  have hb0 := (bsm1 w (.cells #[.int .i64 x, .int .i64 s, .int .i64 p, .int .i64 q, .int .i64 r, .slice A l.length c] 29)).alloc (by simp) (.cells #[.int .i64 x', .int .i64 s', .int .i64 p', .int .i64 q', .int .i64 r', .slice B l'.length d] 29)
  have HA := Lib.hid (hA.below hb0)
  have HC := Lib.hid (hB.below hb0)
  have HB0 := Lib.hid hb0
  clear hA hB hb0
  obtain ⟨z, hz⟩ : ∃ z, decide (x = x' ∧ s = s' ∧ p = p' ∧ q = q' ∧ r = r' ∧ l = l') = z := ⟨_, rfl⟩
  rw [hz]
  have HZ := Lib.hid hz
  clear hz
  by_cases hx : x = x'
  case neg =>
    have ex : (x == x') = false := by simp [hx]
    have hzf : z = false := by rw [← HZ.out]; simp [hx]
    subst hzf
    go_enter Tryd.func93, Tryd.ntmps93
    go_wp2
    go_ret
    exact ⟨rfl, HB0.out⟩
  have ex : (x == x') = true := by simp [hx]
  have Qx := Lib.hid hx
  clear hx
  by_cases hs : s = s'
  case neg =>
    have es : (s == s') = false := by simp [hs]
    have hzf : z = false := by rw [← HZ.out]; simp [hs]
    subst hzf
    go_enter Tryd.func93, Tryd.ntmps93
    go_wp2
    go_ret
    exact ⟨rfl, HB0.out⟩
  have es : (s == s') = true := by simp [hs]
  have Qs := Lib.hid hs
  clear hs
  by_cases hp : p = p'
  case neg =>
    have ep : (p == p') = false := by simp [hp]
    have hzf : z = false := by rw [← HZ.out]; simp [hp]
    subst hzf
    go_enter Tryd.func93, Tryd.ntmps93
    go_wp2
    go_ret
    exact ⟨rfl, HB0.out⟩
  have ep : (p == p') = true := by simp [hp]
  have Qp := Lib.hid hp
  clear hp
  by_cases hq : q = q'
  case neg =>
    have eq : (q == q') = false := by simp [hq]
    have hzf : z = false := by rw [← HZ.out]; simp [hq]
    subst hzf
    go_enter Tryd.func93, Tryd.ntmps93
    go_wp2
    go_ret
    exact ⟨rfl, HB0.out⟩
  have eq : (q == q') = true := by simp [hq]
  have Qq := Lib.hid hq
  clear hq
  by_cases hr : r = r'
  case neg =>
    have er : (r == r') = false := by simp [hr]
    have hzf : z = false := by rw [← HZ.out]; simp [hr]
    subst hzf
    go_enter Tryd.func93, Tryd.ntmps93
    go_wp2
    go_ret
    exact ⟨rfl, HB0.out⟩
  have er : (r == r') = true := by simp [hr]
  have Qr := Lib.hid hr
  clear hr
  have hl : z = decide (l = l') := by rw [← HZ.out]; simp [Qx.out, Qs.out, Qp.out, Qq.out, Qr.out]
  have HE := Lib.hid hl
  clear hl Qx Qs Qp Qq Qr HZ
  have hzz : (l == l') = z := by rw [HE.out]; by_cases h : l = l' <;> simp [h]
  clear HE
  go_enter Tryd.func93, Tryd.ntmps93
  have hc1 := run_conv_bs c l.length rfl HA.out
  have hc2 := run_conv_bs d l'.length rfl HC.out
  go_wp2
  go_ret
  refine ⟨by simp [hzz], ?_⟩
  have h9 := HB0.out
  (repeat (first | exact Below.refl _ _ | assumption | refine Below.setCell ?_ (by first | (simp; done) | (simp; omega) | omega) _ | refine Below.drew ?_ | refine below_drewN ?_ _ | refine Below.alloc ?_ (by first | (simp; done) | (simp; omega) | omega) _))

set_option maxHeartbeats 16000000 in
theorem l12Frame_any (a u x s p q r f y i j ex es ep : Int) (A : Option Addr) (l : List UInt8) (c : Nat) (C : Option Addr) (m : List UInt8) (d : Nat) (D : Option Addr) (dl : List UInt8) (dc : Nat) (w : World) (hl : l.length ≤ c) (hc9 : c ≤ 9223372036854775807) (hm : m.length ≤ d) (hd9 : d ≤ 9223372036854775807) (hdl : dl.length ≤ dc) (hdc9 : dc ≤ 9223372036854775807) (hPl : D = none → dc = 0) (hpp : ∀ a, D = some a → ∃ g o, a = ⟨g, o, none⟩) (hd6 : dl.length ≤ 1048576) (hA : Bs w A l) (hC : Bs w C m) (hD : Bs w D dl) :
    Calls Tryd.prog 51 #[.agg #[.int .i64 ex, .int .i64 es, .int .i64 ep, .slice D dl.length dc], .agg #[.int .i64 a, .int .i64 u, .int .i64 x, .int .i64 s, .int .i64 p, .int .i64 q, .int .i64 r, .slice A l.length c, .int .i64 f, .int .i64 y, .int .i64 i, .int .i64 j, .slice C m.length d]] w fun e w' => e = .returned (.bool (frA u x s p q r l y dl)) ∧ Below w.heap.size w w' := by
  have hb0 := ((Below.refl w.heap.size w).alloc (Nat.le_refl _) (.cells #[.int .i64 ex, .int .i64 es, .int .i64 ep, .slice D dl.length dc] 83)).alloc (by simp) (.cells #[.int .i64 a, .int .i64 u, .int .i64 x, .int .i64 s, .int .i64 p, .int .i64 q, .int .i64 r, .slice A l.length c, .int .i64 f, .int .i64 y, .int .i64 i, .int .i64 j, .slice C m.length d] 85)
  have hx := (Blk.new w #[.int .i64 ex, .int .i64 es, .int .i64 ep, .slice D dl.length dc] 83).alloc (.cells #[.int .i64 a, .int .i64 u, .int .i64 x, .int .i64 s, .int .i64 p, .int .i64 q, .int .i64 r, .slice A l.length c, .int .i64 f, .int .i64 y, .int .i64 i, .int .i64 j, .slice C m.length d] 85)
  have hy := Blk.new (w.alloc (.cells #[.int .i64 ex, .int .i64 es, .int .i64 ep, .slice D dl.length dc] 83)) #[.int .i64 a, .int .i64 u, .int .i64 x, .int .i64 s, .int .i64 p, .int .i64 q, .int .i64 r, .slice A l.length c, .int .i64 f, .int .i64 y, .int .i64 i, .int .i64 j, .slice C m.length d] 85
  simp only [World.size_alloc] at hy
  have BY := Lib.hid hx
  have BX := Lib.hid hy
  have HA := Lib.hid (hA.below hb0)
  have HC := Lib.hid (hC.below hb0)
  have HD := Lib.hid (hD.below hb0)
  have HB := Lib.hid hb0
  clear hx hy hA hC hD hb0 HC
  obtain ⟨f0, hf0⟩ : ∃ z, rqFd dl (gb dl 0) = z := ⟨_, rfl⟩
  have Hf0 := Lib.hid hf0
  clear hf0
  obtain ⟨f1, hf1⟩ : ∃ z, rqFd dl (gb dl 1) = z := ⟨_, rfl⟩
  have Hf1 := Lib.hid hf1
  clear hf1
  obtain ⟨f2, hf2⟩ : ∃ z, rqFd dl (wd dl 2) = z := ⟨_, rfl⟩
  have Hf2 := Lib.hid hf2
  clear hf2
  obtain ⟨f3, hf3⟩ : ∃ z, rqFd dl (wd dl 4) = z := ⟨_, rfl⟩
  have Hf3 := Lib.hid hf3
  clear hf3
  obtain ⟨f4, hf4⟩ : ∃ z, rqFd dl (wd dl 6) = z := ⟨_, rfl⟩
  have Hf4 := Lib.hid hf4
  clear hf4
  obtain ⟨t, ht⟩ : ∃ z, rqT dl = z := ⟨_, rfl⟩
  have Ht := Lib.hid ht
  clear ht
  obtain ⟨g, hg⟩ : ∃ z, rqGood dl = z := ⟨_, rfl⟩
  have Hg := Lib.hid hg
  clear hg
  obtain ⟨ZZ, hZZ⟩ : ∃ z, frA u x s p q r l y dl = z := ⟨_, rfl⟩
  rw [hZZ]
  have HF0 : Hid (ZZ = (decide (u = f1) && (decide (x = f0 ∧ s = f1 ∧ p = f2 ∧ q = f3 ∧ r = f4 ∧ l = t) && decide (y = if g = true then 10 else 1)))) := Lib.hid (by rw [← hZZ, ← Hf0.out, ← Hf1.out, ← Hf2.out, ← Hf3.out, ← Hf4.out, ← Ht.out, ← Hg.out]; rfl)
  clear hZZ
  have q0 := BY.out.cell 0
  have q1 := BY.out.cell 1
  have q2 := BY.out.cell 2
  have q3 := BY.out.cell 3
  go_enter Tryd.func51, Tryd.ntmps51
  go_wp2_with fail
  generalize (w.alloc (.cells #[.int .i64 ex, .int .i64 es, .int .i64 ep, .slice D dl.length dc] 83)).alloc (.cells #[.int .i64 a, .int .i64 u, .int .i64 x, .int .i64 s, .int .i64 p, .int .i64 q, .int .i64 r, .slice A l.length c, .int .i64 f, .int .i64 y, .int .i64 i, .int .i64 j, .slice C m.length d] 85) = W at *
  refine (specReqParse_any D dl dc _ hdl hdc9 hPl hpp (by exact HD.out) hd6).mono ?_
  rintro e w2 hg2
  unfold GivesRq at hg2
  obtain ⟨v, rfl, hown, hb2⟩ := hg2
  rw [Hf0.out, Hf1.out, Hf2.out, Hf3.out, Hf4.out, Hg.out]
  rw [Ht.out] at hown
  obtain ⟨V, cv, rfl, hv1, hv2, _, _, _⟩ := own_plain9 hown
  have hal := (Below.refl w2.heap.size w2).alloc (Nat.le_refl _) (.cells #[.int .i64 f0, .int .i64 f1, .int .i64 f2, .int .i64 f3, .int .i64 f4, .slice V t.length cv] 29)
  have HV := Lib.hid ((own_bs9 hown).below hal)
  have BR := Lib.hid (Blk.new w2 #[.int .i64 f0, .int .i64 f1, .int .i64 f2, .int .i64 f3, .int .i64 f4, .slice V t.length cv] 29)
  have BX := Lib.hid ((BX.out.below hb2).below hal)
  have HA := Lib.hid ((HA.out.below hb2).below hal)
  have HB := Lib.hid (below_then (below_then HB.out hb2) hal)
  clear hb2 hown
  clear q0 q1 q2 q3 BY HD
  cases g
  case false =>
    have hff : f0 = 0 ∧ f1 = 0 ∧ f2 = 0 ∧ f3 = 0 ∧ f4 = 0 ∧ t = [] := by
      have h9 := Hg.out
      refine ⟨?_, ?_, ?_, ?_, ?_, ?_⟩
      · rw [← Hf0.out]; unfold rqFd; rw [h9]; rfl
      · rw [← Hf1.out]; unfold rqFd; rw [h9]; rfl
      · rw [← Hf2.out]; unfold rqFd; rw [h9]; rfl
      · rw [← Hf3.out]; unfold rqFd; rw [h9]; rfl
      · rw [← Hf4.out]; unfold rqFd; rw [h9]; rfl
      · rw [← Ht.out]; unfold rqT; rw [h9]; rfl
    have HF : Hid (ZZ = (decide (u = 0) && (decide (x = 0 ∧ s = 0 ∧ p = 0 ∧ q = 0 ∧ r = 0 ∧ l = []) && decide (y = 1)))) := Lib.hid (by
      obtain ⟨g0, g1, g2, g3, g4, g5⟩ := hff
      rw [HF0.out, g0, g1, g2, g3, g4, g5]; rfl)
    clear HF0 Hf0 Hf1 Hf2 Hf3 Hf4 Ht Hg hal hff HV
    have HV := Lib.hid (show ∀ W : World, Bs W (none : Option Addr) [] from fun W k hk => absurd hk (by simp))
    by_cases hu : u = 0
    case neg =>
      have eu : (u == 0) = false := by simp [hu]
      have hzf : ZZ = false := by rw [HF.out]; simp [hu]
      subst hzf
      have p0 := BX.out.cell 0
      have p1 := BX.out.cell 1
      have p2 := BX.out.cell 2
      have p3 := BX.out.cell 3
      have p4 := BX.out.cell 4
      have p5 := BX.out.cell 5
      have p6 := BX.out.cell 6
      have p7 := BX.out.cell 7
      have p8 := BX.out.cell 8
      have p9 := BX.out.cell 9
      have p10 := BX.out.cell 10
      have p11 := BX.out.cell 11
      have p12 := BX.out.cell 12
      have r0 := BR.out.cell 0
      have r1 := BR.out.cell 1
      have r2 := BR.out.cell 2
      have r3 := BR.out.cell 3
      have r4 := BR.out.cell 4
      have r5 := BR.out.cell 5
      go_wp2
      go_ret
      exact ⟨rfl, HB.out⟩
    have eu : (u == 0) = true := by simp [hu]
    have HU := Lib.hid hu
    clear hu
    obtain ⟨k9, hk9⟩ : ∃ z, decide (x = 0 ∧ s = 0 ∧ p = 0 ∧ q = 0 ∧ r = 0 ∧ l = []) = z := ⟨_, rfl⟩
    have HK9 := Lib.hid hk9
    clear hk9
    have p0 := BX.out.cell 0
    have p1 := BX.out.cell 1
    have p2 := BX.out.cell 2
    have p3 := BX.out.cell 3
    have p4 := BX.out.cell 4
    have p5 := BX.out.cell 5
    have p6 := BX.out.cell 6
    have p7 := BX.out.cell 7
    have p8 := BX.out.cell 8
    have p9 := BX.out.cell 9
    have p10 := BX.out.cell 10
    have p11 := BX.out.cell 11
    have p12 := BX.out.cell 12
    have r0 := BR.out.cell 0
    have r1 := BR.out.cell 1
    have r2 := BR.out.cell 2
    have r3 := BR.out.cell 3
    have r4 := BR.out.cell 4
    have r5 := BR.out.cell 5
    go_wp2_with fail
    refine (l12Same_any x s p q r 0 0 0 0 0 A none l [] c 0 _ (by exact HA.out) (by exact HV.out _)).mono ?_
    rintro e w3 ⟨rfl, hb3⟩
    rw [HK9.out]
    have BX := Lib.hid (BX.out.below hb3)
    have HB := Lib.hid (below_then HB.out hb3)
    clear hb3 BR r0 r1 r2 r3 r4 r5 p0 p1 p2 p3 p4 p5 p6 p7 p8 p9 p10 p11 p12
    have p0 := BX.out.cell 0
    have p1 := BX.out.cell 1
    have p2 := BX.out.cell 2
    have p3 := BX.out.cell 3
    have p4 := BX.out.cell 4
    have p5 := BX.out.cell 5
    have p6 := BX.out.cell 6
    have p7 := BX.out.cell 7
    have p8 := BX.out.cell 8
    have p9 := BX.out.cell 9
    have p10 := BX.out.cell 10
    have p11 := BX.out.cell 11
    have p12 := BX.out.cell 12
    cases k9
    case false =>
      have hzf : ZZ = false := by rw [HF.out, HK9.out]; simp
      subst hzf
      go_wp2
      go_ret
      exact ⟨rfl, HB.out⟩
    by_cases hy : y = 1
    case neg =>
      have ey : (y == 1) = false := by simp [hy]
      have hzf : ZZ = false := by rw [HF.out]; simp [hy]
      subst hzf
      go_wp2
      go_ret
      exact ⟨rfl, HB.out⟩
    have ey : (y == 1) = true := by simp [hy]
    have hzf : ZZ = true := by rw [HF.out, HK9.out, decide_eq_true HU.out, decide_eq_true hy]; rfl
    subst hzf
    clear hy
    go_wp2
    go_ret
    exact ⟨rfl, HB.out⟩
  case true =>
    have HF : Hid (ZZ = (decide (u = f1) && (decide (x = f0 ∧ s = f1 ∧ p = f2 ∧ q = f3 ∧ r = f4 ∧ l = t) && decide (y = 10)))) := Lib.hid (by rw [HF0.out]; rfl)
    clear HF0 Hf0 Hf1 Hf2 Hf3 Hf4 Ht Hg hal
    by_cases hu : u = f1
    case neg =>
      have eu : (u == f1) = false := by simp [hu]
      have hzf : ZZ = false := by rw [HF.out]; simp [hu]
      subst hzf
      have p0 := BX.out.cell 0
      have p1 := BX.out.cell 1
      have p2 := BX.out.cell 2
      have p3 := BX.out.cell 3
      have p4 := BX.out.cell 4
      have p5 := BX.out.cell 5
      have p6 := BX.out.cell 6
      have p7 := BX.out.cell 7
      have p8 := BX.out.cell 8
      have p9 := BX.out.cell 9
      have p10 := BX.out.cell 10
      have p11 := BX.out.cell 11
      have p12 := BX.out.cell 12
      have r0 := BR.out.cell 0
      have r1 := BR.out.cell 1
      have r2 := BR.out.cell 2
      have r3 := BR.out.cell 3
      have r4 := BR.out.cell 4
      have r5 := BR.out.cell 5
      go_wp2
      go_ret
      exact ⟨rfl, HB.out⟩
    have eu : (u == f1) = true := by simp [hu]
    have HU := Lib.hid hu
    clear hu
    obtain ⟨k9, hk9⟩ : ∃ z, decide (x = f0 ∧ s = f1 ∧ p = f2 ∧ q = f3 ∧ r = f4 ∧ l = t) = z := ⟨_, rfl⟩
    have HK9 := Lib.hid hk9
    clear hk9
    have p0 := BX.out.cell 0
    have p1 := BX.out.cell 1
    have p2 := BX.out.cell 2
    have p3 := BX.out.cell 3
    have p4 := BX.out.cell 4
    have p5 := BX.out.cell 5
    have p6 := BX.out.cell 6
    have p7 := BX.out.cell 7
    have p8 := BX.out.cell 8
    have p9 := BX.out.cell 9
    have p10 := BX.out.cell 10
    have p11 := BX.out.cell 11
    have p12 := BX.out.cell 12
    have r0 := BR.out.cell 0
    have r1 := BR.out.cell 1
    have r2 := BR.out.cell 2
    have r3 := BR.out.cell 3
    have r4 := BR.out.cell 4
    have r5 := BR.out.cell 5
    go_wp2_with fail
    refine (l12Same_any x s p q r f0 f1 f2 f3 f4 A V l t c cv _ (by exact HA.out) (by exact HV.out)).mono ?_
    rintro e w3 ⟨rfl, hb3⟩
    rw [HK9.out]
    have BX := Lib.hid (BX.out.below hb3)
    have HB := Lib.hid (below_then HB.out hb3)
    clear hb3 BR r0 r1 r2 r3 r4 r5 p0 p1 p2 p3 p4 p5 p6 p7 p8 p9 p10 p11 p12
    have p0 := BX.out.cell 0
    have p1 := BX.out.cell 1
    have p2 := BX.out.cell 2
    have p3 := BX.out.cell 3
    have p4 := BX.out.cell 4
    have p5 := BX.out.cell 5
    have p6 := BX.out.cell 6
    have p7 := BX.out.cell 7
    have p8 := BX.out.cell 8
    have p9 := BX.out.cell 9
    have p10 := BX.out.cell 10
    have p11 := BX.out.cell 11
    have p12 := BX.out.cell 12
    cases k9
    case false =>
      have hzf : ZZ = false := by rw [HF.out, HK9.out]; simp
      subst hzf
      go_wp2
      go_ret
      exact ⟨rfl, HB.out⟩
    by_cases hy : y = 10
    case neg =>
      have ey : (y == 10) = false := by simp [hy]
      have hzf : ZZ = false := by rw [HF.out]; simp [hy]
      subst hzf
      go_wp2
      go_ret
      exact ⟨rfl, HB.out⟩
    have ey : (y == 10) = true := by simp [hy]
    have hzf : ZZ = true := by rw [HF.out, HK9.out, decide_eq_true HU.out, decide_eq_true hy]; rfl
    subst hzf
    clear hy
    go_wp2
    go_ret
    exact ⟨rfl, HB.out⟩

set_option maxHeartbeats 16000000 in
theorem mayAnswer_any (a u x s p q r f y i j ex es ep : Int) (A : Option Addr) (l : List UInt8) (c : Nat) (C : Option Addr) (m : List UInt8) (d : Nat) (D : Option Addr) (dl : List UInt8) (dc : Nat) (w : World) (hl : l.length ≤ c) (hc9 : c ≤ 9223372036854775807) (hm : m.length ≤ d) (hd9 : d ≤ 9223372036854775807) (hdl : dl.length ≤ dc) (hdc9 : dc ≤ 9223372036854775807) (hPl : D = none → dc = 0) (hpp : ∀ a, D = some a → ∃ g o, a = ⟨g, o, none⟩) (hT : Tab w) (hA : Bs w A l) (hC : Bs w C m) (hD : Bs w D dl) :
    Calls Tryd.prog 57 #[.agg #[.int .i64 a, .int .i64 u, .int .i64 x, .int .i64 s, .int .i64 p, .int .i64 q, .int .i64 r, .slice A l.length c, .int .i64 f, .int .i64 y, .int .i64 i, .int .i64 j, .slice C m.length d], .agg #[.int .i64 ex, .int .i64 es, .int .i64 ep, .slice D dl.length dc]] w fun e w' => e = .returned (.bool (mayA u x s p q r l y i j m ex es dl)) ∧ Below w.heap.size w w' := by
  have hb0 := ((Below.refl w.heap.size w).alloc (Nat.le_refl _) (.cells #[.int .i64 a, .int .i64 u, .int .i64 x, .int .i64 s, .int .i64 p, .int .i64 q, .int .i64 r, .slice A l.length c, .int .i64 f, .int .i64 y, .int .i64 i, .int .i64 j, .slice C m.length d] 85)).alloc (by simp) (.cells #[.int .i64 ex, .int .i64 es, .int .i64 ep, .slice D dl.length dc] 83)
  have hx := (Blk.new w #[.int .i64 a, .int .i64 u, .int .i64 x, .int .i64 s, .int .i64 p, .int .i64 q, .int .i64 r, .slice A l.length c, .int .i64 f, .int .i64 y, .int .i64 i, .int .i64 j, .slice C m.length d] 85).alloc (.cells #[.int .i64 ex, .int .i64 es, .int .i64 ep, .slice D dl.length dc] 83)
  have hy := Blk.new (w.alloc (.cells #[.int .i64 a, .int .i64 u, .int .i64 x, .int .i64 s, .int .i64 p, .int .i64 q, .int .i64 r, .slice A l.length c, .int .i64 f, .int .i64 y, .int .i64 i, .int .i64 j, .slice C m.length d] 85)) #[.int .i64 ex, .int .i64 es, .int .i64 ep, .slice D dl.length dc] 83
  simp only [World.size_alloc] at hy
  have BX := Lib.hid hx
  have BY := Lib.hid hy
  have HA := Lib.hid (hA.below hb0)
  have HC := Lib.hid (hC.below hb0)
  have HD := Lib.hid (hD.below hb0)
  have HB := Lib.hid hb0
  have HT := Lib.hid (hT.below hb0)
  clear hx hy hA hC hD hb0 hT
  obtain ⟨ZZ, hZZ⟩ : ∃ z, mayA u x s p q r l y i j m ex es dl = z := ⟨_, rfl⟩
  rw [hZZ]
  obtain ⟨z1, hz1⟩ : ∃ z, rpOk y i j m = z := ⟨_, rfl⟩
  have HZ1 := Lib.hid hz1
  have HZZ : Hid (ZZ = (z1 && (if ex = 1 then frA u x s p q r l y dl else if ex = 2 then pkA u x s p q r l es else false))) := Lib.hid (by rw [← hZZ, ← hz1]; rfl)
  clear hZZ hz1
  have p0 := BX.out.cell 0
  have p1 := BX.out.cell 1
  have p2 := BX.out.cell 2
  have p3 := BX.out.cell 3
  have p4 := BX.out.cell 4
  have p5 := BX.out.cell 5
  have p6 := BX.out.cell 6
  have p7 := BX.out.cell 7
  have p8 := BX.out.cell 8
  have p9 := BX.out.cell 9
  have p10 := BX.out.cell 10
  have p11 := BX.out.cell 11
  have p12 := BX.out.cell 12
  have q0 := BY.out.cell 0
  have q1 := BY.out.cell 1
  have q2 := BY.out.cell 2
  have q3 := BY.out.cell 3
  go_enter Tryd.func57, Tryd.ntmps57
  go_wp2_with fail
  generalize (w.alloc (.cells #[.int .i64 a, .int .i64 u, .int .i64 x, .int .i64 s, .int .i64 p, .int .i64 q, .int .i64 r, .slice A l.length c, .int .i64 f, .int .i64 y, .int .i64 i, .int .i64 j, .slice C m.length d] 85)).alloc (.cells #[.int .i64 ex, .int .i64 es, .int .i64 ep, .slice D dl.length dc] 83) = W at *
  refine (implReplyOk_any y i j C m d _ hm hd9 (by exact HT.out) (by exact HC.out)).mono ?_
  rintro e w1 ⟨rfl, hb1⟩
  rw [HZ1.out]
  have BX := Lib.hid (BX.out.below hb1)
  have BY := Lib.hid (BY.out.below hb1)
  have HA := Lib.hid (HA.out.below hb1)
  have HD := Lib.hid (HD.out.below hb1)
  have HT := Lib.hid (HT.out.below hb1)
  have HB := Lib.hid (below_then HB.out hb1)
  clear hb1 HC p0 p1 p2 p3 p4 p5 p6 p7 p8 p9 p10 p11 p12 q0 q1 q2 q3
  cases z1
  case false =>
    have hzf : ZZ = false := by rw [HZZ.out]; rfl
    subst hzf
    go_wp2
    go_ret
    exact ⟨rfl, HB.out⟩
  have p0 := BX.out.cell 0
  have p1 := BX.out.cell 1
  have p2 := BX.out.cell 2
  have p3 := BX.out.cell 3
  have p4 := BX.out.cell 4
  have p5 := BX.out.cell 5
  have p6 := BX.out.cell 6
  have p7 := BX.out.cell 7
  have p8 := BX.out.cell 8
  have p9 := BX.out.cell 9
  have p10 := BX.out.cell 10
  have p11 := BX.out.cell 11
  have p12 := BX.out.cell 12
  have q0 := BY.out.cell 0
  have q1 := BY.out.cell 1
  have q2 := BY.out.cell 2
  have q3 := BY.out.cell 3
  by_cases e1 : ex = 1
  case pos =>
    have d1 : (ex == 1) = true := by simp [e1]
    obtain ⟨f0, hf0⟩ : ∃ z, rqFd dl (gb dl 0) = z := ⟨_, rfl⟩
    have Hf0 := Lib.hid hf0
    clear hf0
    obtain ⟨f1, hf1⟩ : ∃ z, rqFd dl (gb dl 1) = z := ⟨_, rfl⟩
    have Hf1 := Lib.hid hf1
    clear hf1
    obtain ⟨f2, hf2⟩ : ∃ z, rqFd dl (wd dl 2) = z := ⟨_, rfl⟩
    have Hf2 := Lib.hid hf2
    clear hf2
    obtain ⟨f3, hf3⟩ : ∃ z, rqFd dl (wd dl 4) = z := ⟨_, rfl⟩
    have Hf3 := Lib.hid hf3
    clear hf3
    obtain ⟨f4, hf4⟩ : ∃ z, rqFd dl (wd dl 6) = z := ⟨_, rfl⟩
    have Hf4 := Lib.hid hf4
    clear hf4
    obtain ⟨t, ht⟩ : ∃ z, rqT dl = z := ⟨_, rfl⟩
    have Ht := Lib.hid ht
    clear ht
    obtain ⟨g, hg⟩ : ∃ z, rqGood dl = z := ⟨_, rfl⟩
    have Hg := Lib.hid hg
    clear hg
    have HF0 : Hid (ZZ = (decide (u = f1) && (decide (x = f0 ∧ s = f1 ∧ p = f2 ∧ q = f3 ∧ r = f4 ∧ l = t) && decide (y = if g = true then 10 else 1)))) := Lib.hid (by rw [HZZ.out, if_pos e1, ← Hf0.out, ← Hf1.out, ← Hf2.out, ← Hf3.out, ← Hf4.out, ← Ht.out, ← Hg.out]; rfl)
    clear HZZ e1
    go_wp2_with fail
    refine (implReqParse_any D dl dc _ hdl hdc9 hPl hpp (by exact HT.out) (by exact HD.out)).mono ?_
    rintro e w2 hg2
    unfold GivesRq at hg2
    obtain ⟨v, rfl, hown, hb2⟩ := hg2
    rw [Hf0.out, Hf1.out, Hf2.out, Hf3.out, Hf4.out, Hg.out]
    rw [Ht.out] at hown
    obtain ⟨V, cv, rfl, hv1, hv2, _, _, _⟩ := own_plain9 hown
    have hal := (Below.refl w2.heap.size w2).alloc (Nat.le_refl _) (.cells #[.int .i64 f0, .int .i64 f1, .int .i64 f2, .int .i64 f3, .int .i64 f4, .slice V t.length cv] 29)
    have HV := Lib.hid ((own_bs9 hown).below hal)
    have BR := Lib.hid (Blk.new w2 #[.int .i64 f0, .int .i64 f1, .int .i64 f2, .int .i64 f3, .int .i64 f4, .slice V t.length cv] 29)
    have BX := Lib.hid ((BX.out.below hb2).below hal)
    have HA := Lib.hid ((HA.out.below hb2).below hal)
    have HB := Lib.hid (below_then (below_then HB.out hb2) hal)
    clear hb2 hown
    clear p0 p1 p2 p3 p4 p5 p6 p7 p8 p9 p10 p11 p12 q0 q1 q2 q3 BY HD HT
    cases g
    case false =>
      have HF : Hid (ZZ = (decide (u = f1) && (decide (x = f0 ∧ s = f1 ∧ p = f2 ∧ q = f3 ∧ r = f4 ∧ l = t) && decide (y = 1)))) := Lib.hid (by rw [HF0.out]; rfl)
      clear HF0 Hf0 Hf1 Hf2 Hf3 Hf4 Ht Hg hal d1
      by_cases hu : u = f1
      case neg =>
        have eu : (u == f1) = false := by simp [hu]
        have hzf : ZZ = false := by rw [HF.out]; simp [hu]
        subst hzf
        have p0 := BX.out.cell 0
        have p1 := BX.out.cell 1
        have p2 := BX.out.cell 2
        have p3 := BX.out.cell 3
        have p4 := BX.out.cell 4
        have p5 := BX.out.cell 5
        have p6 := BX.out.cell 6
        have p7 := BX.out.cell 7
        have p8 := BX.out.cell 8
        have p9 := BX.out.cell 9
        have p10 := BX.out.cell 10
        have p11 := BX.out.cell 11
        have p12 := BX.out.cell 12
        have r0 := BR.out.cell 0
        have r1 := BR.out.cell 1
        have r2 := BR.out.cell 2
        have r3 := BR.out.cell 3
        have r4 := BR.out.cell 4
        have r5 := BR.out.cell 5
        go_wp2
        go_ret
        exact ⟨rfl, HB.out⟩
      have eu : (u == f1) = true := by simp [hu]
      have HU := Lib.hid hu
      clear hu
      obtain ⟨k9, hk9⟩ : ∃ z, decide (x = f0 ∧ s = f1 ∧ p = f2 ∧ q = f3 ∧ r = f4 ∧ l = t) = z := ⟨_, rfl⟩
      have HK9 := Lib.hid hk9
      clear hk9
      have p0 := BX.out.cell 0
      have p1 := BX.out.cell 1
      have p2 := BX.out.cell 2
      have p3 := BX.out.cell 3
      have p4 := BX.out.cell 4
      have p5 := BX.out.cell 5
      have p6 := BX.out.cell 6
      have p7 := BX.out.cell 7
      have p8 := BX.out.cell 8
      have p9 := BX.out.cell 9
      have p10 := BX.out.cell 10
      have p11 := BX.out.cell 11
      have p12 := BX.out.cell 12
      have r0 := BR.out.cell 0
      have r1 := BR.out.cell 1
      have r2 := BR.out.cell 2
      have r3 := BR.out.cell 3
      have r4 := BR.out.cell 4
      have r5 := BR.out.cell 5
      go_wp2_with fail
      refine (reqEquals_any x s p q r f0 f1 f2 f3 f4 A V l t c cv _ (by exact HA.out) (by exact HV.out)).mono ?_
      rintro e w3 ⟨rfl, hb3⟩
      rw [HK9.out]
      have BX := Lib.hid (BX.out.below hb3)
      have HB := Lib.hid (below_then HB.out hb3)
      clear hb3 BR r0 r1 r2 r3 r4 r5 p0 p1 p2 p3 p4 p5 p6 p7 p8 p9 p10 p11 p12
      have p0 := BX.out.cell 0
      have p1 := BX.out.cell 1
      have p2 := BX.out.cell 2
      have p3 := BX.out.cell 3
      have p4 := BX.out.cell 4
      have p5 := BX.out.cell 5
      have p6 := BX.out.cell 6
      have p7 := BX.out.cell 7
      have p8 := BX.out.cell 8
      have p9 := BX.out.cell 9
      have p10 := BX.out.cell 10
      have p11 := BX.out.cell 11
      have p12 := BX.out.cell 12
      cases k9
      case false =>
        have hzf : ZZ = false := by rw [HF.out, HK9.out]; simp
        subst hzf
        go_wp2
        go_ret
        exact ⟨rfl, HB.out⟩
      by_cases hy : y = 1
      case neg =>
        have ey : (y == 1) = false := by simp [hy]
        have hzf : ZZ = false := by rw [HF.out]; simp [hy]
        subst hzf
        go_wp2
        go_ret
        exact ⟨rfl, HB.out⟩
      have ey : (y == 1) = true := by simp [hy]
      have hzf : ZZ = true := by rw [HF.out, HK9.out, decide_eq_true HU.out, decide_eq_true hy]; rfl
      subst hzf
      clear hy
      go_wp2
      go_ret
      exact ⟨rfl, HB.out⟩
    case true =>
      have HF : Hid (ZZ = (decide (u = f1) && (decide (x = f0 ∧ s = f1 ∧ p = f2 ∧ q = f3 ∧ r = f4 ∧ l = t) && decide (y = 10)))) := Lib.hid (by rw [HF0.out]; rfl)
      clear HF0 Hf0 Hf1 Hf2 Hf3 Hf4 Ht Hg hal d1
      by_cases hu : u = f1
      case neg =>
        have eu : (u == f1) = false := by simp [hu]
        have hzf : ZZ = false := by rw [HF.out]; simp [hu]
        subst hzf
        have p0 := BX.out.cell 0
        have p1 := BX.out.cell 1
        have p2 := BX.out.cell 2
        have p3 := BX.out.cell 3
        have p4 := BX.out.cell 4
        have p5 := BX.out.cell 5
        have p6 := BX.out.cell 6
        have p7 := BX.out.cell 7
        have p8 := BX.out.cell 8
        have p9 := BX.out.cell 9
        have p10 := BX.out.cell 10
        have p11 := BX.out.cell 11
        have p12 := BX.out.cell 12
        have r0 := BR.out.cell 0
        have r1 := BR.out.cell 1
        have r2 := BR.out.cell 2
        have r3 := BR.out.cell 3
        have r4 := BR.out.cell 4
        have r5 := BR.out.cell 5
        go_wp2
        go_ret
        exact ⟨rfl, HB.out⟩
      have eu : (u == f1) = true := by simp [hu]
      have HU := Lib.hid hu
      clear hu
      obtain ⟨k9, hk9⟩ : ∃ z, decide (x = f0 ∧ s = f1 ∧ p = f2 ∧ q = f3 ∧ r = f4 ∧ l = t) = z := ⟨_, rfl⟩
      have HK9 := Lib.hid hk9
      clear hk9
      have p0 := BX.out.cell 0
      have p1 := BX.out.cell 1
      have p2 := BX.out.cell 2
      have p3 := BX.out.cell 3
      have p4 := BX.out.cell 4
      have p5 := BX.out.cell 5
      have p6 := BX.out.cell 6
      have p7 := BX.out.cell 7
      have p8 := BX.out.cell 8
      have p9 := BX.out.cell 9
      have p10 := BX.out.cell 10
      have p11 := BX.out.cell 11
      have p12 := BX.out.cell 12
      have r0 := BR.out.cell 0
      have r1 := BR.out.cell 1
      have r2 := BR.out.cell 2
      have r3 := BR.out.cell 3
      have r4 := BR.out.cell 4
      have r5 := BR.out.cell 5
      go_wp2_with fail
      refine (reqEquals_any x s p q r f0 f1 f2 f3 f4 A V l t c cv _ (by exact HA.out) (by exact HV.out)).mono ?_
      rintro e w3 ⟨rfl, hb3⟩
      rw [HK9.out]
      have BX := Lib.hid (BX.out.below hb3)
      have HB := Lib.hid (below_then HB.out hb3)
      clear hb3 BR r0 r1 r2 r3 r4 r5 p0 p1 p2 p3 p4 p5 p6 p7 p8 p9 p10 p11 p12
      have p0 := BX.out.cell 0
      have p1 := BX.out.cell 1
      have p2 := BX.out.cell 2
      have p3 := BX.out.cell 3
      have p4 := BX.out.cell 4
      have p5 := BX.out.cell 5
      have p6 := BX.out.cell 6
      have p7 := BX.out.cell 7
      have p8 := BX.out.cell 8
      have p9 := BX.out.cell 9
      have p10 := BX.out.cell 10
      have p11 := BX.out.cell 11
      have p12 := BX.out.cell 12
      cases k9
      case false =>
        have hzf : ZZ = false := by rw [HF.out, HK9.out]; simp
        subst hzf
        go_wp2
        go_ret
        exact ⟨rfl, HB.out⟩
      by_cases hy : y = 10
      case neg =>
        have ey : (y == 10) = false := by simp [hy]
        have hzf : ZZ = false := by rw [HF.out]; simp [hy]
        subst hzf
        go_wp2
        go_ret
        exact ⟨rfl, HB.out⟩
      have ey : (y == 10) = true := by simp [hy]
      have hzf : ZZ = true := by rw [HF.out, HK9.out, decide_eq_true HU.out, decide_eq_true hy]; rfl
      subst hzf
      clear hy
      go_wp2
      go_ret
      exact ⟨rfl, HB.out⟩
  have d1 : (ex == 1) = false := by simp [e1]
  by_cases e2 : ex = 2
  case neg =>
    have d2 : (ex == 2) = false := by simp [e2]
    have hzf : ZZ = false := by rw [HZZ.out, if_neg e1, if_neg e2]; rfl
    subst hzf
    clear e1 e2
    go_wp2
    go_ret
    exact ⟨rfl, HB.out⟩
  have d2 : (ex == 2) = true := by simp [e2]
  have HF : Hid (ZZ = pkA u x s p q r l es) := Lib.hid (by rw [HZZ.out, if_neg e1, if_pos e2]; rfl)
  clear HZZ e1 e2
  by_cases hu : u = es
  case neg =>
    have eu : (u == es) = false := by simp [hu]
    have hzf : ZZ = false := by rw [HF.out]; unfold pkA; simp [hu]
    subst hzf
    go_wp2
    go_ret
    exact ⟨rfl, HB.out⟩
  have eu : (u == es) = true := by simp [hu]
  have HU := Lib.hid hu
  clear hu
  by_cases hs : s = es
  case neg =>
    have eu2 : (s == es) = false := by simp [hs]
    have hzf : ZZ = false := by rw [HF.out]; unfold pkA; simp [hs]
    subst hzf
    go_wp2
    go_ret
    exact ⟨rfl, HB.out⟩
  have eu2 : (s == es) = true := by simp [hs]
  have hZq : ZZ = rqOk x s p q r l := by rw [HF.out]; unfold pkA; rw [decide_eq_true HU.out, decide_eq_true hs]; rfl
  have HZQ := Lib.hid hZq
  clear hs hZq HF
  go_wp2_with fail
  refine (implReqOk_any x s p q r A l c _ hl hc9 (by exact HT.out) (by exact HA.out)).mono ?_
  rintro e w2 ⟨rfl, hb2⟩
  rw [← HZQ.out]
  have HB := Lib.hid (below_then HB.out hb2)
  clear hb2 p0 p1 p2 p3 p4 p5 p6 p7 p8 p9 p10 p11 p12 q0 q1 q2 q3 BX BY HA HD HT HZQ
  cases ZZ
  case false =>
    go_wp2
    go_ret
    exact ⟨rfl, HB.out⟩
  case true =>
    go_wp2
    go_ret
    exact ⟨rfl, HB.out⟩
end Go.Proofs.YtgpjjolgpppeeaaDoor
