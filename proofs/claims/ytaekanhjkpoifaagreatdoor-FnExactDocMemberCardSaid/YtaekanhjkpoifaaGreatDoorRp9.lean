/-
  Texts of one claim in one: D07, S15, S16. Own work.
-/
import Derived.Test.YtaekanhjkpoifaaGreatDoorRp8
import Derived.Test.YtaekanhjkpoifaaGreatDoorRp4
import Derived.Test.YtaekanhjkpoifaaGreatDoorRI23
import Derived.Test.YtaekanhjkpoifaaGreatDoorRK01
import Derived.Test.YtaekanhjkpoifaaGreatDoorRS09
import Derived.Test.YtaekanhjkpoifaaGreatDoorRp5
import Derived.Deep.RegionHeld3
import Derived.Test.YtaekanhjkpoifaaGreatDoorRp6

/-
 Chapter 10, when a document is valid: the program's contracts. Own work.
-/
namespace Go.Proofs.YtaekanhjkpoifaaGreatDoor
open Go.RowKit P
set_option linter.unusedVariables false
set_option linter.unusedSimpArgs false
set_option maxRecDepth 100000

theorem bytesEqual_any (A B : Option Addr) (l r : List UInt8) (c d : Nat) (w : World) (hA : Bs w A l) (hB : Bs w B r) :
  Calls Tryz.prog 102 #[.slice A l.length c, .slice B r.length d] w fun e w' => e = .returned (.bool (decide (l = r))) ∧ Below w.heap.size w w' := by
 have hc1 := run_conv_bs c l.length rfl hA
 have hc2 := run_conv_bs d r.length rfl hB
 obtain ⟨z, hz⟩ : ∃ z, decide (l = r) = z := ⟨_, rfl⟩
 have hzz : (l == r) = z := by rw [← hz]; by_cases h : l = r <;> simp [h]
 rw [hz]
 clear hz
 go_enter Tryz.func102, Tryz.ntmps102
 go_wp2
 go_ret
 refine ⟨by simp [hzz], ?_⟩
 (repeat (first | exact Below.refl _ _ | assumption | refine Below.setCell ?_ (by first | (simp; done) | (simp; omega) | omega) _ | refine Below.drew ?_ | refine below_drewN ?_ _ | refine Below.alloc ?_ (by first | (simp; done) | (simp; omega) | omega) _))

theorem implEditsDo_any' (A : Option Addr) (l : List UInt8) (c : Nat) (B : Option Addr) (es : List Ed) (d n : Nat) (w : World) (hl : l.length ≤ c) (hc9 : c ≤ 9223372036854775807) (hn : n = es.length) (hn9 : es.length ≤ 9223372036854775807) (hT : Tab w) (hA : Bs w A l) (hE : Es w B es) :
  Calls Tryz.prog 101 #[.slice A l.length c, .slice B n d] w (MakesN (edsText l es) (edsN l es) w) := by
 subst hn
 exact implEditsDo_any A l c B es d w hl hc9 hn9 hT hA hE

set_option maxHeartbeats 8000000 in
theorem logOk_any (a : Da) (d : Dc) (w : World) (hT : Tab w) (hD : RdD w a d) :
  Calls Tryz.prog 70 #[.agg #[.slice a.s d.start.length a.cs, .slice a.t d.text.length a.ct, .slice a.l d.log.length a.cl, .int .i64 d.clock, .slice a.m d.mem.length a.cm, .slice a.e d.lea.length a.ce]] w fun e w' => e = .returned (.bool (logOk d)) ∧ Below w.heap.size w w' := by
 have hal := (Below.refl w.heap.size w).alloc (Nat.le_refl _) (.cells #[.slice a.s d.start.length a.cs, .slice a.t d.text.length a.ct, .slice a.l d.log.length a.cl, .int .i64 d.clock, .slice a.m d.mem.length a.cm, .slice a.e d.lea.length a.ce] 36)
 have BX := Lib.hid (Blk.new w #[.slice a.s d.start.length a.cs, .slice a.t d.text.length a.ct, .slice a.l d.log.length a.cl, .int .i64 d.clock, .slice a.m d.mem.length a.cm, .slice a.e d.lea.length a.ce] 36)
 have HD := Lib.hid (hD.below hal)
 have HT := Lib.hid (hT.below hal)
 have HB := Lib.hid hal
 obtain ⟨n1, n2, n3, n4, n5⟩ := hD.n9
 have HN := Lib.hid (show d.start.length ≤ a.cs ∧ a.cs ≤ 9223372036854775807 from ⟨hD.hs.1, by have h := hD.hs.2; unfold maxLen at h; omega⟩)
 obtain ⟨R, hR⟩ : ∃ R, logOk d = R := ⟨_, rfl⟩
 rw [hR]
 have HR := Lib.hid hR
 clear hD hT hal hR
 have p0 := BX.out.cell 0
 have p1 := BX.out.cell 1
 have p2 := BX.out.cell 2
 have p3 := BX.out.cell 3
 have p4 := BX.out.cell 4
 have p5 := BX.out.cell 5
 by_cases hbig : 60 < d.log.length
 ·have hr : R = false := by rw [← HR.out]; unfold logOk; rw [decide_eq_false (by omega)]; rfl
  have hg : decide ((d.log.length : Int) > 60) = true := decide_eq_true (by omega)
  subst hr
  go_enter Tryz.func70, Tryz.ntmps70
  go_wp2
  go_ret
  exact ⟨rfl, HB.out⟩
 have hl6 : d.log.length ≤ 60 := by omega
 have hg : decide ((d.log.length : Int) > 60) = false := decide_eq_false (by omega)
 obtain ⟨q, hq⟩ : ∃ q, d.log.any (fun c => !ses c.1) = q := ⟨_, rfl⟩
 have HQ := Lib.hid hq
 have hall : d.log.all (fun c => ses c.1) = !q := by
  rw [← hq]
  induction d.log with
  | nil => rfl
  | cons x t ih => simp only [List.all_cons, List.any_cons, ih, Bool.not_or, Bool.not_not]
 have HR2 := Lib.hid (show R = (!q && runOk d) by rw [← HR.out, ← hall]; unfold logOk; rw [decide_eq_true hl6, Bool.true_and])
 clear hq hall hbig
 go_enter Tryz.func70, Tryz.ntmps70
 go_wp2_with fail
 generalize w.alloc (.cells #[.slice a.s d.start.length a.cs, .slice a.t d.text.length a.ct, .slice a.l d.log.length a.cl, .int .i64 d.clock, .slice a.m d.mem.length a.cm, .slice a.e d.lea.length a.ce] 36) = W at *
 refine (badSes_any a.l d.log a.cl (fun c => !ses c.1) _ (by omega) HD.out.l (fun W' s x y B p dd hb => notSession_any s x y B p.length dd W')).mono ?_
 rintro e w1 ⟨rfl, hb⟩
 rw [HQ.out]
 have BX := Lib.hid (BX.out.below hb)
 have HD := Lib.hid (HD.out.below hb)
 have HT := Lib.hid (HT.out.below hb)
 have HB := Lib.hid (below_then HB.out hb)
 clear hb p0 p1 p2 p3 p4 p5
 have p0 := BX.out.cell 0
 have p1 := BX.out.cell 1
 have p2 := BX.out.cell 2
 have p3 := BX.out.cell 3
 have p4 := BX.out.cell 4
 have p5 := BX.out.cell 5
 cases q
 rotate_left 1
 ·have hr : R = false := by rw [HR2.out]; rfl
  subst hr
  go_wp2
  go_ret
  exact ⟨rfl, HB.out⟩
 have HR3 := Lib.hid (show R = runOk d by rw [HR2.out]; rfl)
 have hlx := BX.out.lt
 clear HR HR2 HQ
 go_wp2_with fail
 refine wp_region_held_drew (S := (fun V => V.cell? ⟨w.heap.size, 0, none⟩ = some (.slice a.s d.start.length a.cs) ∧ V.cell? ⟨w.heap.size, 1, none⟩ = some (.slice a.t d.text.length a.ct) ∧ V.cell? ⟨w.heap.size, 2, none⟩ = some (.slice a.l d.log.length a.cl) ∧ V.cell? ⟨w.heap.size, 3, none⟩ = some (.int .i64 d.clock) ∧ V.cell? ⟨w.heap.size, 4, none⟩ = some (.slice a.m d.mem.length a.cm) ∧ V.cell? ⟨w.heap.size, 5, none⟩ = some (.slice a.e d.lea.length a.ce))) (by kernel_rfl) (by exact ⟨p0, p1, p2, p3, p4, p5⟩) (fun hHeld => ?_)
 refine wpAnyH_take (i := 0) (oi := ?_) (v := ?_) ?_ ?_ ?_ ?_ ?_ ?_ (by exact hHeld) ?_
 rotate_left 2
 ·(simp only [List.getElem?_toArray, List.getElem?_cons_zero]; try rfl)
 ·kernel_rfl
 ·kernel_rfl
 ·kernel_rfl
 ·exact fun _ _ _ h => h
 ·refine Or.inl ⟨by rfl, ?_⟩
  (intro V hSV; (try dsimp only at hSV); obtain ⟨q0, q1, q2, q3, q4, q5⟩ := hSV; go_simp; try with_reducible rfl)
 (try simp only [LY9])
 refine wpAnyH_take (i := 1) (oi := ?_) (v := ?_) ?_ ?_ ?_ ?_ ?_ ?_ (by exact hHeld) ?_
 rotate_left 2
 ·(simp only [LX9]; try rfl)
 ·kernel_rfl
 ·kernel_rfl
 ·kernel_rfl
 ·exact fun _ _ _ h => h
 ·refine Or.inl ⟨by rfl, ?_⟩
  (intro V hSV; (try dsimp only at hSV); obtain ⟨q0, q1, q2, q3, q4, q5⟩ := hSV; go_simp; try with_reducible rfl)
 (try simp only [LY9])
 refine wpAnyH_take (i := 2) (oi := ?_) (v := ?_) ?_ ?_ ?_ ?_ ?_ ?_ (by exact hHeld) ?_
 rotate_left 2
 ·(simp only [LX9]; try rfl)
 ·kernel_rfl
 ·kernel_rfl
 ·kernel_rfl
 ·exact fun _ _ _ h => h
 ·refine Or.inl ⟨by rfl, ?_⟩
  (intro V hSV; (try dsimp only at hSV); obtain ⟨q0, q1, q2, q3, q4, q5⟩ := hSV; go_simp; try with_reducible rfl)
 (try simp only [LY9])
 refine wpAnyH_take (i := 3) (oi := ?_) (v := ?_) ?_ ?_ ?_ ?_ ?_ ?_ (by exact hHeld) ?_
 rotate_left 2
 ·(simp only [LX9]; try rfl)
 ·kernel_rfl
 ·kernel_rfl
 ·kernel_rfl
 ·exact fun _ _ _ h => h
 ·refine Or.inl ⟨by rfl, ?_⟩
  (intro V hSV; (try dsimp only at hSV); obtain ⟨q0, q1, q2, q3, q4, q5⟩ := hSV; go_simp; try with_reducible rfl)
 (try simp only [LY9])
 refine wpAnyH_ready (rs := [4]) (by kernel_rfl) (by simp) ?_
 refine AllReadyH.cons rfl (fun K hK => ?_) AllReadyH.nil
 go_simp
 refine (editsOf_any a.l d.log a.cl _ (by omega) (by exact HD.out.l)).mono ?_
 rintro e w2 ⟨E, ce, rfl, hec, hem, hEE, hb⟩
 have hb : Below w1.heap.size w1 w2 := ⟨hb.os, hb.tape, hb.output, hb.size, hb.block⟩
 have HE := Lib.hid hEE
 have HD2 := Lib.hid (HD.out.below hb)
 have HT2 := Lib.hid (HT.out.below hb)
 have HB1 := Lib.hid hb
 have hec9 : (logE d.log).length ≤ 9223372036854775807 := by rw [logE_length]; omega
 clear hEE hb
 go_wp2_with fail
 refine hK.out _ _ (by exact ⟨((HB1.out).cell (p := ⟨w.heap.size, 0, none⟩) hlx).trans p0, ((HB1.out).cell (p := ⟨w.heap.size, 1, none⟩) hlx).trans p1, ((HB1.out).cell (p := ⟨w.heap.size, 2, none⟩) hlx).trans p2, ((HB1.out).cell (p := ⟨w.heap.size, 3, none⟩) hlx).trans p3, ((HB1.out).cell (p := ⟨w.heap.size, 4, none⟩) hlx).trans p4, ((HB1.out).cell (p := ⟨w.heap.size, 5, none⟩) hlx).trans p5⟩) (fun hHeld => ?_)
 clear hK K
 (try simp only [LY9])
 refine wpAnyH_ready (rs := [5]) (by kernel_rfl) (by simp) ?_
 refine AllReadyH.cons rfl (fun K hK => ?_) AllReadyH.nil
 go_simp
 refine (implEditsDo_any' a.s d.start a.cs E (logE d.log) ce d.log.length _ HN.out.1 HN.out.2 (logE_length d.log).symm hec9 (by exact HT2.out) (by exact HD2.out.s) (by exact HE.out)).mono ?_
 rintro e w3 ⟨v, rfl, hown, hb⟩
 have hb : Below w2.heap.size w2 w3 := ⟨hb.os, hb.tape, hb.output, hb.size, hb.block⟩
 have HB2 := Lib.hid (below_then HB1.out hb)
 have HO := Lib.hid hown
 clear hown hb
 go_wp2_with fail
 refine hK.out _ _ (by exact ⟨((HB2.out).cell (p := ⟨w.heap.size, 0, none⟩) hlx).trans p0, ((HB2.out).cell (p := ⟨w.heap.size, 1, none⟩) hlx).trans p1, ((HB2.out).cell (p := ⟨w.heap.size, 2, none⟩) hlx).trans p2, ((HB2.out).cell (p := ⟨w.heap.size, 3, none⟩) hlx).trans p3, ((HB2.out).cell (p := ⟨w.heap.size, 4, none⟩) hlx).trans p4, ((HB2.out).cell (p := ⟨w.heap.size, 5, none⟩) hlx).trans p5⟩) (fun hHeld => ?_)
 clear hK K
 (try simp only [LY9])
 refine wpAnyH_take (i := 6) (oi := ?_) (v := ?_) ?_ ?_ ?_ ?_ ?_ ?_ (by exact hHeld) ?_
 rotate_left 2
 ·(simp only [LX9]; try rfl)
 ·kernel_rfl
 ·kernel_rfl
 ·kernel_rfl
 ·exact fun _ _ _ h => h
 ·refine Or.inl ⟨by rfl, ?_⟩
  (intro V hSV; (try dsimp only at hSV); obtain ⟨q0, q1, q2, q3, q4, q5⟩ := hSV; go_simp; try with_reducible rfl)
 (try simp only [LY9])
 refine wpAnyH_take (i := 7) (oi := ?_) (v := ?_) ?_ ?_ ?_ ?_ ?_ ?_ (by exact hHeld) ?_
 rotate_left 2
 ·(simp only [LX9]; try rfl)
 ·kernel_rfl
 ·kernel_rfl
 ·kernel_rfl
 ·exact fun _ _ _ h => h
 ·refine Or.inl ⟨by rfl, ?_⟩
  (intro V hSV; (try dsimp only at hSV); obtain ⟨q0, q1, q2, q3, q4, q5⟩ := hSV; go_simp; try with_reducible rfl)
 (try simp only [LY9])
 refine wpAnyH_take (i := 8) (oi := ?_) (v := ?_) ?_ ?_ ?_ ?_ ?_ ?_ (by exact hHeld) ?_
 rotate_left 2
 ·(simp only [LX9]; try rfl)
 ·kernel_rfl
 ·kernel_rfl
 ·kernel_rfl
 ·exact fun _ _ _ h => h
 ·refine Or.inl ⟨by rfl, ?_⟩
  (intro V hSV; (try dsimp only at hSV); obtain ⟨q0, q1, q2, q3, q4, q5⟩ := hSV; go_simp; try with_reducible rfl)
 (try simp only [LY9])
 refine wpAnyH_take (i := 9) (oi := ?_) (v := ?_) ?_ ?_ ?_ ?_ ?_ ?_ (by exact hHeld) ?_
 rotate_left 2
 ·(simp only [LX9]; try rfl)
 ·kernel_rfl
 ·kernel_rfl
 ·kernel_rfl
 ·exact fun _ _ _ h => h
 ·refine Or.inl ⟨by rfl, ?_⟩
  (intro V hSV; (try dsimp only at hSV); obtain ⟨q0, q1, q2, q3, q4, q5⟩ := hSV; go_simp; try with_reducible rfl)
 (try simp only [LY9])
 refine wpAnyH_take (i := 10) (oi := ?_) (v := ?_) ?_ ?_ ?_ ?_ ?_ ?_ (by exact hHeld) ?_
 rotate_left 2
 ·(simp only [LX9]; try rfl)
 ·kernel_rfl
 ·kernel_rfl
 ·kernel_rfl
 ·exact fun _ _ _ h => h
 ·refine Or.inl ⟨by rfl, ?_⟩
  (intro V hSV; (try dsimp only at hSV); obtain ⟨q0, q1, q2, q3, q4, q5⟩ := hSV; go_simp; try with_reducible rfl)
 (try simp only [LY9])
 refine wpAnyH_done (by kernel_rfl) ?_ _
 clear hHeld hlx p0 p1 p2 p3 p4 p5
 have BX := Lib.hid (BX.out.below HB2.out)
 have HD := Lib.hid (HD.out.below HB2.out)
 have HB := Lib.hid (below_then HB.out HB2.out)
 obtain ⟨X, c5, e5, _, _, hBX, _, _⟩ := own_plain9 HO.out
 subst e5
 have HX := Lib.hid hBX
 obtain ⟨z, hz⟩ : ∃ z, decide (edsText d.start (logE d.log) = d.text) = z := ⟨_, rfl⟩
 have HZ := Lib.hid hz
 obtain ⟨y, hy⟩ : ∃ y, (edsN d.start (logE d.log) == (d.log.length : Int)) = y := ⟨_, rfl⟩
 have hyd : decide (edsN d.start (logE d.log) = (d.log.length : Int)) = y := by
  rw [← hy]
  by_cases h : edsN d.start (logE d.log) = (d.log.length : Int)
  ·rw [decide_eq_true h]; simp [h]
  ·rw [decide_eq_false h]; simp [h]
 have HRF := Lib.hid (show R = (y && z) by rw [HR3.out]; unfold runOk; rw [hyd, hz])
 clear hBX hz hyd HR3 HB1 HB2 HE HD2 HT2 HO
 have p0 := BX.out.cell 0
 have p1 := BX.out.cell 1
 have p2 := BX.out.cell 2
 have p3 := BX.out.cell 3
 have p4 := BX.out.cell 4
 have p5 := BX.out.cell 5
 generalize edsN d.start (logE d.log) = N at *
 cases y
 ·have e : R = false := by rw [HRF.out]; rfl
  subst e
  go_wp2
  go_ret
  exact ⟨rfl, HB.out⟩
 have e : R = z := by rw [HRF.out]; rfl
 subst e
 go_wp2_with fail
 refine (bytesEqual_any X a.t (edsText d.start (logE d.log)) d.text c5 a.ct _ (by exact HX.out) (by exact HD.out.t)).mono ?_
 rintro e w4 ⟨rfl, hb⟩
 rw [HZ.out]
 have HB := Lib.hid (below_then HB.out hb)
 go_wp2
 go_ret
 exact ⟨rfl, HB.out⟩

set_option maxHeartbeats 8000000 in
theorem canTurn_any (s f t : Int) (U : Option Addr) (u : List Ed) (cu : Nat) (R : Option Addr) (r : List Ed) (cr : Nat) (A : Option Addr) (l : List UInt8) (c : Nat) (w : World) (hl4 : l.length ≤ 400) (hu9 : u.length ≤ 9223372036854775807) (hr9 : r.length ≤ 9223372036854775807) (hT : Tab w) (hA : Bs w A l) (hU : Es w U u) (hR : Es w R r) :
  Calls Tryz.prog 104 #[.agg #[.int .i64 s, .int .i64 f, .int .i64 t, .slice U u.length cu, .slice R r.length cr], .slice A l.length c] w fun e w' => e = .returned (.bool (canT l u r)) ∧ Below w.heap.size w w' := by
 have hal := ((Below.refl w.heap.size w).alloc (Nat.le_refl _) (.cells #[.int .i64 s, .int .i64 f, .int .i64 t, .slice U u.length cu, .slice R r.length cr] 50)).alloc (by simp) (.cells #[.slice A l.length c] 22)
 have BX := Lib.hid ((Blk.new w #[.int .i64 s, .int .i64 f, .int .i64 t, .slice U u.length cu, .slice R r.length cr] 50).alloc (.cells #[.slice A l.length c] 22))
 have hy := Blk.new (w.alloc (.cells #[.int .i64 s, .int .i64 f, .int .i64 t, .slice U u.length cu, .slice R r.length cr] 50)) #[.slice A l.length c] 22
 simp only [World.size_alloc] at hy
 have BT := Lib.hid hy
 have HB := Lib.hid hal
 have HK := Lib.hid (show ∀ W, Below w.heap.size w W → Tab W ∧ Bs W A l ∧ Es W U u ∧ Es W R r from fun W h => ⟨hT.below h, hA.below h, hU.below h, hR.below h⟩)
 have HU0 := Lib.hid hU
 have HRD := Lib.hid hR
 obtain ⟨q, hq⟩ : ∃ q, stOk u r = q := ⟨_, rfl⟩
 have HQ := Lib.hid hq
 obtain ⟨R0, hR0⟩ : ∃ R, canT l u r = R := ⟨_, rfl⟩
 have HR0 := Lib.hid (show R0 = (q && (u ++ r).all (fitE l)) by rw [← hR0, ← hq]; rfl)
 rw [hR0]
 clear hT hA hU hR hal hy hq hR0
 have p0 := BX.out.cell 0
 have p1 := BX.out.cell 1
 have p2 := BX.out.cell 2
 have p3 := BX.out.cell 3
 have p4 := BX.out.cell 4
 go_enter Tryz.func104, Tryz.ntmps104
 go_wp2_with fail
 generalize (w.alloc (.cells #[.int .i64 s, .int .i64 f, .int .i64 t, .slice U u.length cu, .slice R r.length cr] 50)).alloc (.cells #[.slice A l.length c] 22) = W at *
 refine (implStackOk_any U R u r cu cr _ hu9 hr9 (HK.out _ HB.out).2.2.1 (HK.out _ HB.out).2.2.2).mono ?_
 rintro e w1 ⟨rfl, hb⟩
 rw [HQ.out]
 have BX := Lib.hid (BX.out.below hb)
 have BT := Lib.hid (BT.out.below hb)
 have HB := Lib.hid (below_then HB.out hb)
 clear hb p0 p1 p2 p3 p4
 cases q
 ·have e : R0 = false := by rw [HR0.out]; rfl
  subst e
  go_wp2
  go_ret
  exact ⟨rfl, HB.out⟩
 have hst := HQ.out
 unfold stOk at hst
 rw [Bool.and_eq_true] at hst
 have hu6 := stFit_len hst.1
 have hr6 := stFit_len hst.2
 clear hst
 have p0 := BX.out.cell 0
 have p1 := BX.out.cell 1
 have p2 := BX.out.cell 2
 have p3 := BX.out.cell 3
 have p4 := BX.out.cell 4
 have hb1 := (Below.refl w1.heap.size w1).alloc (Nat.le_refl _) (.cells #[.slice U u.length cu, .slice R r.length cr] 29)
 have HBC := Lib.hid (below_then HB.out hb1)
 have hbc := Blk.new w1 #[.slice U u.length cu, .slice R r.length cr] 29
 have HCB := Lib.hid hbc
 have HB1 := Lib.hid hb1
 clear hb1 hbc
 go_wp2_with fail
 refine (concatEd_any U u cu R r cr _ w _ (by omega) (by omega) HU0.out HRD.out HBC.out HCB.out).mono ?_
 rintro e w2 ⟨A2, c2, rfl, hc2, hm2, hE2, hb⟩
 have HE2 := Lib.hid hE2
 have hb9 := below_then HB1.out hb
 have BT := Lib.hid (BT.out.below hb9)
 have HB := Lib.hid (below_then HB.out hb9)
 have hlen : (u ++ r).length ≤ 1048576 := by rw [List.length_append]; omega
 obtain ⟨L, hL⟩ : ∃ L, u ++ r = L := ⟨_, rfl⟩
 obtain ⟨z, hz⟩ : ∃ z, L.any (fun e => !fitE l e) = z := ⟨_, rfl⟩
 have hall : L.all (fitE l) = !z := by
  rw [← hz]
  clear hz hL
  induction L with
  | nil => rfl
  | cons x t ih => simp only [List.all_cons, List.any_cons, ih, Bool.not_or, Bool.not_not]
 have HZ := Lib.hid hz
 have HRF := Lib.hid (show R0 = !z by rw [HR0.out, hL, hall]; rfl)
 rw [hL] at HE2 hlen hc2 ⊢
 have hpt := BT.out.cell 0
 clear hE2 hb hb9 p0 p1 p2 p3 p4 HBC HCB HB1 BX hL hz hall
 go_wp2_with fail
 refine (badFit_any A2 L c2 (w.heap.size + 1) (fun e => !fitE l e) _ hlen HE2.out (fun W' x m B p dd hm9 hpd hd9 hBp hbW => notFits_any x m B p dd (w.heap.size + 1) A l c W' hl4 hpd hd9 hm9 (HK.out _ (below_then HB.out hbW)).1 (HK.out _ (below_then HB.out hbW)).2.1 hBp (BT.out.below hbW))).mono ?_
 rintro e w3 ⟨rfl, hb⟩
 rw [HZ.out]
 have HB := Lib.hid (below_then HB.out hb)
 have e : R0 = !z := HRF.out
 subst e
 clear hpt
 go_wp2
 go_ret
 exact ⟨rfl, HB.out⟩
end Go.Proofs.YtaekanhjkpoifaaGreatDoor

/-
 Chapter 7, l07Meet and l07Put in the model: contracts. Own work.
-/
namespace Go.Proofs.YtaekanhjkpoifaaGreatDoor
open Go.RowKit P
set_option linter.unusedVariables false
set_option linter.unusedSimpArgs false
set_option maxRecDepth 100000

set_option maxHeartbeats 4000000 in
theorem l07Meet_any (i j s t x y u v : Int) (w : World) :
  Calls Tryz.prog 86 #[.agg #[.int .i64 i, .int .i64 j, .int .i64 s, .int .i64 t], .agg #[.int .i64 x, .int .i64 y, .int .i64 u, .int .i64 v]] w fun e w' => e = .returned (.bool (meet (i, j, s, t) (x, y, u, v))) ∧ Below w.heap.size w w' := by
 rw [meet_iff]
 have hal := ((Below.refl w.heap.size w).alloc (Nat.le_refl _) (.cells #[.int .i64 i, .int .i64 j, .int .i64 s, .int .i64 t] 106)).alloc (by simp) (.cells #[.int .i64 x, .int .i64 y, .int .i64 u, .int .i64 v] 106)
 have b0 := (Blk.new w #[.int .i64 i, .int .i64 j, .int .i64 s, .int .i64 t] 106).alloc (.cells #[.int .i64 x, .int .i64 y, .int .i64 u, .int .i64 v] 106)
 have b1 := Blk.new (w.alloc (.cells #[.int .i64 i, .int .i64 j, .int .i64 s, .int .i64 t] 106)) #[.int .i64 x, .int .i64 y, .int .i64 u, .int .i64 v] 106
 simp only [World.size_alloc] at b1
 have p0 := b0.cell 0
 have p1 := b0.cell 1
 have q0 := b1.cell 0
 have q1 := b1.cell 1
 clear b0 b1
 by_cases h1 : i < y
 ·by_cases h2 : x < j
  ·by_cases h3 : i < j
   ·by_cases h4 : x < y
    ·go_enter Tryz.func86, Tryz.ntmps86
     go_wp2
     go_ret
     exact ⟨ret_bool (by simp <;> omega), hal⟩
    ·go_enter Tryz.func86, Tryz.ntmps86
     go_wp2
     go_ret
     exact ⟨ret_bool (by simp <;> omega), hal⟩
   ·go_enter Tryz.func86, Tryz.ntmps86
    go_wp2
    go_ret
    exact ⟨ret_bool (by simp <;> omega), hal⟩
  ·go_enter Tryz.func86, Tryz.ntmps86
   go_wp2
   go_ret
   exact ⟨ret_bool (by simp <;> omega), hal⟩
 ·go_enter Tryz.func86, Tryz.ntmps86
  go_wp2
  go_ret
  exact ⟨ret_bool (by simp <;> omega), hal⟩

/-- The list with a kept place at p: what stands there while the second loop runs. -/
def keptAt (L M : List Le) (l : Le) (i : Nat) : List Le := if i ≤ L.length then L ++ (0, 0, 0, 0) :: M else L ++ l :: M
end Go.Proofs.YtaekanhjkpoifaaGreatDoor

/-
 Chapter 7, LeaseTake and LeaseRenew in the model: contracts. Own work.
-/
namespace Go.Proofs.YtaekanhjkpoifaaGreatDoor
open Go.RowKit P
set_option linter.unusedVariables false
set_option linter.unusedSimpArgs false
set_option maxRecDepth 100000

theorem l07Clock_any (n : Int) (w : World) : Calls Tryz.prog 78 #[.int .i64 n] w fun e w' => e = .returned (.bool (decide (0 ≤ n ∧ n ≤ 1000))) ∧ Below w.heap.size w w' := by
 by_cases h0 : 0 ≤ n
 ·by_cases h1 : n ≤ 1000
  ·go_enter Tryz.func78, Tryz.ntmps78
   go_wp2
   go_ret
   exact ⟨ret_bool (by simp <;> omega), Below.refl _ _⟩
  ·go_enter Tryz.func78, Tryz.ntmps78
   go_wp2
   go_ret
   exact ⟨ret_bool (by simp <;> omega), Below.refl _ _⟩
 ·go_enter Tryz.func78, Tryz.ntmps78
  go_wp2
  go_ret
  exact ⟨ret_bool (by simp <;> omega), Below.refl _ _⟩

end Go.Proofs.YtaekanhjkpoifaaGreatDoor
