/-
 Chapter 10, the member of a session: contracts of the program and of the model. Own work.
-/
import Derived.Test.YtaekanhjkpoifaaGreatDoorRD17
import Derived.Test.YtaekanhjkpoifaaGreatDoorRS09
namespace Go.Proofs.YtaekanhjkpoifaaGreatDoor
open Go.RowKit P
set_option linter.unusedVariables false
set_option linter.unusedSimpArgs false
set_option maxRecDepth 100000

set_option maxHeartbeats 1000000 in
theorem placeCl_any (s0 f0 t0 s : Int) (U : Option Addr) (un uc : Nat) (R : Option Addr) (rn rc : Nat) (w : World) :
  Calls Tryz.prog 91 #[.agg #[.int .i64 s0, .int .i64 f0, .int .i64 t0, .slice U un uc, .slice R rn rc], .int .i64 s] w fun e w' => e = .returned (.int .i64 (sgn3 s0 s)) ∧ Below w.heap.size w w' := by
 have hal := (Below.refl w.heap.size w).alloc (Nat.le_refl _) (.cells #[.int .i64 s0, .int .i64 f0, .int .i64 t0, .slice U un uc, .slice R rn rc] 50)
 have BX := Lib.hid (Blk.new w #[.int .i64 s0, .int .i64 f0, .int .i64 t0, .slice U un uc, .slice R rn rc] 50)
 have HB := Lib.hid hal
 have p0 := BX.out.cell 0
 clear hal
 go_enter Tryz.func91, Tryz.ntmps91
 go_wp2_with fail
 generalize w.alloc (.cells #[.int .i64 s0, .int .i64 f0, .int .i64 t0, .slice U un uc, .slice R rn rc] 50) = W at *
 refine (cmpInt_any s0 s _).mono ?_
 rintro e w1 ⟨rfl, rfl⟩
 go_wp2
 go_ret
 exact ⟨rfl, HB.out⟩
/-- What the search for a session gives. -/
def FoundM (ms : List Mb) (s : Int) (w : World) (e : Ending) (w' : World) : Prop :=
 ∃ (i : Nat) (f : Bool), e = .returned (.tuple #[.int .i64 (i : Int), .bool f]) ∧ f = decide (mIx ms s < ms.length) ∧ (f = true → i = mIx ms s) ∧ Below w.heap.size w w'

set_option maxHeartbeats 8000000 in
theorem bsearchM_any (A : Option Addr) (ms : List Mb) (c : Nat) (s : Int) (w : World) (hl8 : ms.length ≤ 8) (hst : Srtd ms) (hA : Mbs w A ms) :
  Calls Tryz.prog 90 #[.slice A ms.length c, .int .i64 s, .func (.func 91) #[] #[]] w (FoundM ms s w) := by
 have HST := Lib.hid hst
 have HH0 := Lib.hid (Hm.start ms s)
 clear hst
 go_enter Tryz.func90, Tryz.ntmps90
 go_wp2
 go_loopw [9, 10] (fun s9 s10 wr => ∃ (i j : Nat), s9 = .int .i64 i ∧ s10 = .int .i64 j ∧ Hid (Hm ms s i j) ∧ Below w.heap.size w wr)
  (fun s9 s10 _ => (intOf s10).toNat - (intOf s9).toNat)
 case atStart => exact ⟨0, ms.length, rfl, rfl, HH0, Below.refl _ _⟩
 case round =>
  obtain ⟨i, j, rfl, rfl, HH, hb⟩ := hrel
  have hij := HH.out.le
  have hje := HH.out.hi
  by_cases hlt : i < j
  ·obtain ⟨k, hkk⟩ : ∃ k, (i + j) / 2 = k := ⟨_, rfl⟩
   have hk1 : i ≤ k := by omega
   have hk2 : k < j := by omega
   have hkl : k < ms.length := by omega
   have hki0 : (0 : Int) ≤ (k : Int) := by omega
   have hki : (k : Int) < (ms.length : Int) := by omega
   have hij9 : (i : Int) < (j : Int) := by omega
   have hks : ((i : Int) + (j : Int)) / 2 = (k : Int) := by omega
   obtain ⟨b, off, s0, f0, t0, U0, u0, c0, R0, r0, d0, rfl, hbl, hek, k0, k1, k2, k3, k4, _⟩ := (hA.below hb).at_ k hkl
   obtain ⟨q, hq⟩ : ∃ q, sgn3 s0 s = q := ⟨_, rfl⟩
   have HQ := Lib.hid hq
   have HEK := Lib.hid hek
   clear hq hek hkk
   go_wp2_with fail
   refine (placeCl_any s0 f0 t0 s U0 u0.length c0 R0 r0.length d0 _).mono ?_
   rintro e w1 ⟨rfl, hb1⟩
   rw [HQ.out]
   have hb9 := below_then hb hb1
   clear k0 k1 k2 k3 k4
   by_cases hq0 : q < 0
   ·have hc : ms[k].1 < s := by
     rw [HEK.out]
     have h9 := HQ.out
     unfold sgn3 at h9
     by_cases h1 : s0 < s
     ·exact h1
     ·rw [if_neg h1] at h9
      split at h9 <;> omega
    have HN := Lib.hid (HH.out.right HST.out hk1 hk2 hkl hc)
    clear hc
    go_wp2
    go_roundw
    case rel => exact ⟨k + 1, j, by go_num, rfl, HN, hb9⟩
    case measure => simp [intOf]; omega
   ·have hc : ¬ ms[k].1 < s := by
     rw [HEK.out]
     have h9 := HQ.out
     unfold sgn3 at h9
     intro h1
     rw [if_pos h1] at h9
     omega
    have HN := Lib.hid (HH.out.left HST.out hk1 hk2 hkl hc)
    clear hc
    go_wp2
    go_roundw
    case rel => exact ⟨i, k, rfl, rfl, HN, hb9⟩
    case measure => simp [intOf]; omega
  ·have hij2 : i = j := by omega
   subst hij2
   by_cases hie : i < ms.length
   ·have hki0 : (0 : Int) ≤ (i : Int) := by omega
    have hki : (i : Int) < (ms.length : Int) := by omega
    have hnij : ¬ (i : Int) < (i : Int) := by omega
    obtain ⟨b, off, s0, f0, t0, U0, u0, c0, R0, r0, d0, rfl, hbl, hek, k0, k1, k2, k3, k4, _⟩ := (hA.below hb).at_ i hie
    obtain ⟨q, hq⟩ : ∃ q, sgn3 s0 s = q := ⟨_, rfl⟩
    have HQ := Lib.hid hq
    have HEK := Lib.hid hek
    clear hq hek
    go_wp2_with fail
    refine (placeCl_any s0 f0 t0 s U0 u0.length c0 R0 r0.length d0 _).mono ?_
    rintro e w1 ⟨rfl, hb1⟩
    rw [HQ.out]
    have hb9 := below_then hb hb1
    clear k0 k1 k2 k3 k4
    by_cases hq0 : q = 0
    ·have hqe : (q == 0) = true := by simp [hq0]
     have hes : ms[i].1 = s := by
      rw [HEK.out]
      have h9 := HQ.out
      unfold sgn3 at h9
      show s0 = s
      by_cases h1 : s0 < s
      ·rw [if_pos h1] at h9; omega
      ·rw [if_neg h1] at h9
       by_cases h2 : s < s0
       ·rw [if_pos h2] at h9; omega
       ·omega
     have HK := Lib.hid (HH.out.found hie hes)
     have HQ0 := Lib.hid hq0
     clear hq0 hes
     go_wp2
     refine bodyPost_ret (v := .tuple #[.int .i64 (i : Int), .bool true]) (by simp [results, Tryz.results90, go_sem, HQ0.out]) rfl ?_
     exact ⟨i, true, rfl, by rw [HK.out, decide_eq_true hie], fun _ => HK.out.symm, hb9⟩
    ·have hqe : (q == 0) = false := by simp [hq0]
     have hes : ∀ hl : i < ms.length, ms[i].1 ≠ s := fun hl h => by
      rw [HEK.out] at h
      have h8 : s0 = s := h
      have h9 := HQ.out
      unfold sgn3 at h9
      rw [if_neg (by omega), if_neg (by omega)] at h9
      omega
     have HK := Lib.hid (HH.out.missed hes HST.out)
     have HQ0 := Lib.hid hq0
     clear hq0 hes
     go_wp2
     refine bodyPost_ret (v := .tuple #[.int .i64 (i : Int), .bool false]) (by simp [results, Tryz.results90, go_sem, HQ0.out]) rfl ?_
     exact ⟨i, false, rfl, by rw [HK.out, decide_eq_false (Nat.lt_irrefl _)], (fun h => by cases h), hb9⟩
   ·have hki : ¬ (i : Int) < (ms.length : Int) := by omega
    have hnij : ¬ (i : Int) < (i : Int) := by omega
    have HK := Lib.hid (HH.out.missed (fun hl => absurd hl hie) HST.out)
    go_wp2
    go_ret2
    exact ⟨i, false, rfl, by rw [HK.out, decide_eq_false (Nat.lt_irrefl _)], (fun h => by cases h), hb⟩

set_option maxHeartbeats 2000000 in
theorem placeOf_doc (a : Da) (d : Dc) (s : Int) (w : World) (hl8 : d.mem.length ≤ 8) (hst : Srtd d.mem) (hD : RdD w a d) :
  Calls Tryz.prog 58 #[.agg #[.slice a.s d.start.length a.cs, .slice a.t d.text.length a.ct, .slice a.l d.log.length a.cl, .int .i64 d.clock, .slice a.m d.mem.length a.cm, .slice a.e d.lea.length a.ce], .int .i64 s] w (FoundM d.mem s w) := by
 have hal := (Below.refl w.heap.size w).alloc (Nat.le_refl _) (.cells #[.slice a.s d.start.length a.cs, .slice a.t d.text.length a.ct, .slice a.l d.log.length a.cl, .int .i64 d.clock, .slice a.m d.mem.length a.cm, .slice a.e d.lea.length a.ce] 36)
 have BX := Lib.hid (Blk.new w #[.slice a.s d.start.length a.cs, .slice a.t d.text.length a.ct, .slice a.l d.log.length a.cl, .int .i64 d.clock, .slice a.m d.mem.length a.cm, .slice a.e d.lea.length a.ce] 36)
 have HM := Lib.hid (hD.m.below hal)
 have HB := Lib.hid hal
 have p4 := BX.out.cell 4
 clear hal hD
 go_enter Tryz.func58, Tryz.ntmps58
 go_wp2_with fail
 generalize w.alloc (.cells #[.slice a.s d.start.length a.cs, .slice a.t d.text.length a.ct, .slice a.l d.log.length a.cl, .int .i64 d.clock, .slice a.m d.mem.length a.cm, .slice a.e d.lea.length a.ce] 36) = W at *
 refine (bsearchM_any a.m d.mem a.cm s _ hl8 hst HM.out).mono ?_
 rintro e w1 ⟨i, f, rfl, h1, h2, hb⟩
 have H1 := Lib.hid h1
 have H2 := Lib.hid h2
 have HB := Lib.hid (below_then HB.out hb)
 clear h1 h2 hb
 go_wp2
 go_ret2
 exact ⟨i, f, rfl, H1.out, H2.out, HB.out⟩
end Go.Proofs.YtaekanhjkpoifaaGreatDoor
