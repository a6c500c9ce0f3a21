/-
 Chapter 10, when a document is valid: the model's contract. Own work.
-/
import Derived.Test.YtaekanhjkpoifaaGreatDoorRp8
import Derived.Test.YtaekanhjkpoifaaGreatDoorRS10
import Derived.Test.YtaekanhjkpoifaaGreatDoorRp9
import Derived.Test.YtaekanhjkpoifaaGreatDoorRK01
import Derived.Test.YtaekanhjkpoifaaGreatDoorRp5
import Derived.Deep.RegionHeld3
namespace Go.Proofs.YtaekanhjkpoifaaGreatDoor
open Go.RowKit P
set_option linter.unusedVariables false
set_option linter.unusedSimpArgs false
set_option maxRecDepth 100000

theorem specEditsDo_any' (A : Option Addr) (l : List UInt8) (c : Nat) (B : Option Addr) (es : List Ed) (d n : Nat) (w : World) (hl : l.length ≤ c) (hc9 : c ≤ 9223372036854775807) (hn : n = es.length) (hn9 : es.length ≤ 9223372036854775807) (hA : Bs w A l) (hE : Es w B es) :
  Calls Tryz.prog 80 #[.slice A l.length c, .slice B n d] w (MakesN (edsText l es) (edsN l es) w) := by
 subst hn
 exact specEditsDo_any A l c B es d w hl hc9 hn9 hA hE

set_option maxHeartbeats 64000000 in
theorem specDocOk_any (a : Da) (d : Dc) (w : World) (hD : RdD w a d) :
  Calls Tryz.prog 48 #[.agg #[.slice a.s d.start.length a.cs, .slice a.t d.text.length a.ct, .slice a.l d.log.length a.cl, .int .i64 d.clock, .slice a.m d.mem.length a.cm, .slice a.e d.lea.length a.ce]] w fun e w' => e = .returned (.bool (docOk d)) ∧ Below w.heap.size w w' := by
 have hal := (Below.refl w.heap.size w).alloc (Nat.le_refl _) (.cells #[.slice a.s d.start.length a.cs, .slice a.t d.text.length a.ct, .slice a.l d.log.length a.cl, .int .i64 d.clock, .slice a.m d.mem.length a.cm, .slice a.e d.lea.length a.ce] 36)
 have BX := Lib.hid (Blk.new w #[.slice a.s d.start.length a.cs, .slice a.t d.text.length a.ct, .slice a.l d.log.length a.cl, .int .i64 d.clock, .slice a.m d.mem.length a.cm, .slice a.e d.lea.length a.ce] 36)
 have HK := Lib.hid (show ∀ W, Below w.heap.size w W → RdD W a d from fun W h => hD.below h)
 have HB := Lib.hid hal
 obtain ⟨n1, n2, n3, n4, n5⟩ := hD.n9
 have HN := Lib.hid (show (d.start.length ≤ a.cs ∧ a.cs ≤ 9223372036854775807) ∧ d.text.length ≤ a.ct ∧ a.ct ≤ 9223372036854775807 from ⟨⟨hD.hs.1, by have h := hD.hs.2; unfold maxLen at h; omega⟩, hD.ht.1, by have h := hD.ht.2; unfold maxLen at h; omega⟩)
 obtain ⟨R, hR⟩ : ∃ R, docOk d = R := ⟨_, rfl⟩
 rw [hR]
 have HR := Lib.hid hR
 clear hD hal hR
 have p2 := BX.out.cell 2
 have p3 := BX.out.cell 3
 have p4 := BX.out.cell 4
 have p5 := BX.out.cell 5
 by_cases hbig : 60 < d.log.length
 ·have hg : decide ((d.log.length : Int) > 60) = true := decide_eq_true (by omega)
  go_enter Tryz.func48, Tryz.ntmps48
  have e : R = false := by rw [← HR.out]; exact docOk_long hbig
  subst e
  go_wp2
  go_ret
  exact ⟨rfl, HB.out⟩
 have hl6 : d.log.length ≤ 60 := by omega
 have hg : decide ((d.log.length : Int) > 60) = false := decide_eq_false (by omega)
 obtain ⟨qc, hqc⟩ : ∃ q, clkOk d.clock = q := ⟨_, rfl⟩
 have HQC := Lib.hid hqc
 have HQC2 := Lib.hid (show decide (0 ≤ d.clock ∧ d.clock ≤ 1000) = qc from hqc)
 clear hbig hqc
 go_enter Tryz.func48, Tryz.ntmps48
 go_wp2_with fail
 generalize w.alloc (.cells #[.slice a.s d.start.length a.cs, .slice a.t d.text.length a.ct, .slice a.l d.log.length a.cl, .int .i64 d.clock, .slice a.m d.mem.length a.cm, .slice a.e d.lea.length a.ce] 36) = W at *
 refine (l07Clock_any d.clock _).mono ?_
 rintro e w1 ⟨rfl, hb⟩
 rw [HQC2.out]
 have BX := Lib.hid (BX.out.below hb)
 have HB := Lib.hid (below_then HB.out hb)
 clear hb
 clear p2 p3 p4 p5
 cases qc
 ·skip
  have e : R = false := by rw [← HR.out]; exact docOk_clk HQC.out
  subst e
  go_wp2
  go_ret
  exact ⟨rfl, HB.out⟩
 have p4 := BX.out.cell 4
 have p5 := BX.out.cell 5
 by_cases hm8 : 8 < d.mem.length
 ·have hg8 : decide ((d.mem.length : Int) > 8) = true := decide_eq_true (by omega)
  have e : R = false := by rw [← HR.out]; exact docOk_mem8 hm8
  subst e
  go_wp2
  go_ret
  exact ⟨rfl, HB.out⟩
 have hg8 : decide ((d.mem.length : Int) > 8) = false := decide_eq_false (by omega)
 have hmem8 : d.mem.length ≤ 8 := by omega
 obtain ⟨ql, hql⟩ : ∃ q, leOk d.lea = q := ⟨_, rfl⟩
 have HQL := Lib.hid hql
 clear hql hm8
 go_wp2_with fail
 refine (specLeasesOk_any a.e d.lea a.ce _ n5 (HK.out _ HB.out).e).mono ?_
 rintro e w2 ⟨rfl, hb⟩
 rw [HQL.out]
 have BX := Lib.hid (BX.out.below hb)
 have HB := Lib.hid (below_then HB.out hb)
 clear hb
 clear p4 p5
 cases ql
 ·skip
  have e : R = false := by rw [← HR.out]; exact docOk_lea HQL.out
  subst e
  go_wp2
  go_ret
  exact ⟨rfl, HB.out⟩
 have HD := Lib.hid (HK.out _ HB.out)
 have hlx := BX.out.lt
 have p0 := BX.out.cell 0
 have p1 := BX.out.cell 1
 have p2 := BX.out.cell 2
 have p3 := BX.out.cell 3
 have p4 := BX.out.cell 4
 have p5 := BX.out.cell 5
 go_wp2_with fail
 refine wp_region_held_drew (S := (fun V => V.cell? ⟨w.heap.size, 0, none⟩ = some (.slice a.s d.start.length a.cs) ∧ V.cell? ⟨w.heap.size, 1, none⟩ = some (.slice a.t d.text.length a.ct) ∧ V.cell? ⟨w.heap.size, 2, none⟩ = some (.slice a.l d.log.length a.cl) ∧ V.cell? ⟨w.heap.size, 3, none⟩ = some (.int .i64 d.clock) ∧ V.cell? ⟨w.heap.size, 4, none⟩ = some (.slice a.m d.mem.length a.cm) ∧ V.cell? ⟨w.heap.size, 5, none⟩ = some (.slice a.e d.lea.length a.ce))) (by kernel_rfl) (by exact ⟨p0, p1, p2, p3, p4, p5⟩) (fun hHeld => ?_)
 refine wpAnyH_take (i := 0) (oi := ?_) (v := ?_) ?_ ?_ ?_ ?_ ?_ ?_ (by exact hHeld) ?_
 rotate_left 2
 ·(simp only [List.getElem?_toArray, List.getElem?_cons_zero]; try rfl)
 ·kernel_rfl
 ·kernel_rfl
 ·kernel_rfl
 ·exact fun _ _ _ h => h
 ·refine Or.inl ⟨by rfl, ?_⟩
  (intro V hSV; (try dsimp only at hSV); obtain ⟨q0, q1, q2, q3, q4, q5⟩ := hSV; go_simp; try with_reducible rfl)
 (try simp only [LY9])
 refine wpAnyH_take (i := 1) (oi := ?_) (v := ?_) ?_ ?_ ?_ ?_ ?_ ?_ (by exact hHeld) ?_
 rotate_left 2
 ·(simp only [LX9]; try rfl)
 ·kernel_rfl
 ·kernel_rfl
 ·kernel_rfl
 ·exact fun _ _ _ h => h
 ·refine Or.inl ⟨by rfl, ?_⟩
  (intro V hSV; (try dsimp only at hSV); obtain ⟨q0, q1, q2, q3, q4, q5⟩ := hSV; go_simp; try with_reducible rfl)
 (try simp only [LY9])
 refine wpAnyH_take (i := 2) (oi := ?_) (v := ?_) ?_ ?_ ?_ ?_ ?_ ?_ (by exact hHeld) ?_
 rotate_left 2
 ·(simp only [LX9]; try rfl)
 ·kernel_rfl
 ·kernel_rfl
 ·kernel_rfl
 ·exact fun _ _ _ h => h
 ·refine Or.inl ⟨by rfl, ?_⟩
  (intro V hSV; (try dsimp only at hSV); obtain ⟨q0, q1, q2, q3, q4, q5⟩ := hSV; go_simp; try with_reducible rfl)
 (try simp only [LY9])
 refine wpAnyH_ready (rs := [3]) (by kernel_rfl) (by simp) ?_
 refine AllReadyH.cons rfl (fun K hK => ?_) AllReadyH.nil
 go_simp
 refine (l10Log_any a d _ (by omega) (by first | exact HD.out | exact HD.out.below (bsk4 _))).mono ?_
 rintro e w3 ⟨E, ce, rfl, hec, hem, hEE, hb⟩
 have hb : Below w2.heap.size w2 w3 := ⟨hb.os, hb.tape, hb.output, hb.size, hb.block⟩
 have HE := Lib.hid hEE
 have HD2 := Lib.hid (HD.out.below hb)
 have HB1 := Lib.hid hb
 have hec9 : (logE d.log).length ≤ 9223372036854775807 := by rw [logE_length]; omega
 clear hEE hb
 go_wp2_with fail
 refine hK.out _ _ (by exact ⟨((HB1.out).cell (p := ⟨w.heap.size, 0, none⟩) hlx).trans p0, ((HB1.out).cell (p := ⟨w.heap.size, 1, none⟩) hlx).trans p1, ((HB1.out).cell (p := ⟨w.heap.size, 2, none⟩) hlx).trans p2, ((HB1.out).cell (p := ⟨w.heap.size, 3, none⟩) hlx).trans p3, ((HB1.out).cell (p := ⟨w.heap.size, 4, none⟩) hlx).trans p4, ((HB1.out).cell (p := ⟨w.heap.size, 5, none⟩) hlx).trans p5⟩) (fun hHeld => ?_)
 clear hK K
 (try simp only [LY9])
 refine wpAnyH_ready (rs := [4]) (by kernel_rfl) (by simp) ?_
 refine AllReadyH.cons rfl (fun K hK => ?_) AllReadyH.nil
 go_simp
 refine (specEditsDo_any' a.s d.start a.cs E (logE d.log) ce d.log.length _ HN.out.1.1 HN.out.1.2 (logE_length d.log).symm hec9 (by exact HD2.out.s) (by exact HE.out)).mono ?_
 rintro e w4 ⟨v, rfl, hown, hb⟩
 have hb : Below w3.heap.size w3 w4 := ⟨hb.os, hb.tape, hb.output, hb.size, hb.block⟩
 have HB2 := Lib.hid (below_then HB1.out hb)
 have HO := Lib.hid hown
 clear hown hb
 go_wp2_with fail
 refine hK.out _ _ (by exact ⟨((HB2.out).cell (p := ⟨w.heap.size, 0, none⟩) hlx).trans p0, ((HB2.out).cell (p := ⟨w.heap.size, 1, none⟩) hlx).trans p1, ((HB2.out).cell (p := ⟨w.heap.size, 2, none⟩) hlx).trans p2, ((HB2.out).cell (p := ⟨w.heap.size, 3, none⟩) hlx).trans p3, ((HB2.out).cell (p := ⟨w.heap.size, 4, none⟩) hlx).trans p4, ((HB2.out).cell (p := ⟨w.heap.size, 5, none⟩) hlx).trans p5⟩) (fun hHeld => ?_)
 clear hK K
 (try simp only [LY9])
 refine wpAnyH_take (i := 5) (oi := ?_) (v := ?_) ?_ ?_ ?_ ?_ ?_ ?_ (by exact hHeld) ?_
 rotate_left 2
 ·(simp only [LX9]; try rfl)
 ·kernel_rfl
 ·kernel_rfl
 ·kernel_rfl
 ·exact fun _ _ _ h => h
 ·refine Or.inl ⟨by rfl, ?_⟩
  (intro V hSV; (try dsimp only at hSV); obtain ⟨q0, q1, q2, q3, q4, q5⟩ := hSV; go_simp; try with_reducible rfl)
 (try simp only [LY9])
 refine wpAnyH_take (i := 6) (oi := ?_) (v := ?_) ?_ ?_ ?_ ?_ ?_ ?_ (by exact hHeld) ?_
 rotate_left 2
 ·(simp only [LX9]; try rfl)
 ·kernel_rfl
 ·kernel_rfl
 ·kernel_rfl
 ·exact fun _ _ _ h => h
 ·refine Or.inl ⟨by rfl, ?_⟩
  (intro V hSV; (try dsimp only at hSV); obtain ⟨q0, q1, q2, q3, q4, q5⟩ := hSV; go_simp; try with_reducible rfl)
 (try simp only [LY9])
 refine wpAnyH_take (i := 7) (oi := ?_) (v := ?_) ?_ ?_ ?_ ?_ ?_ ?_ (by exact hHeld) ?_
 rotate_left 2
 ·(simp only [LX9]; try rfl)
 ·kernel_rfl
 ·kernel_rfl
 ·kernel_rfl
 ·exact fun _ _ _ h => h
 ·refine Or.inl ⟨by rfl, ?_⟩
  (intro V hSV; (try dsimp only at hSV); obtain ⟨q0, q1, q2, q3, q4, q5⟩ := hSV; go_simp; try with_reducible rfl)
 (try simp only [LY9])
 refine wpAnyH_take (i := 8) (oi := ?_) (v := ?_) ?_ ?_ ?_ ?_ ?_ ?_ (by exact hHeld) ?_
 rotate_left 2
 ·(simp only [LX9]; try rfl)
 ·kernel_rfl
 ·kernel_rfl
 ·kernel_rfl
 ·exact fun _ _ _ h => h
 ·refine Or.inl ⟨by rfl, ?_⟩
  (intro V hSV; (try dsimp only at hSV); obtain ⟨q0, q1, q2, q3, q4, q5⟩ := hSV; go_simp; try with_reducible rfl)
 (try simp only [LY9])
 refine wpAnyH_take (i := 9) (oi := ?_) (v := ?_) ?_ ?_ ?_ ?_ ?_ ?_ (by exact hHeld) ?_
 rotate_left 2
 ·(simp only [LX9]; try rfl)
 ·kernel_rfl
 ·kernel_rfl
 ·kernel_rfl
 ·exact fun _ _ _ h => h
 ·refine Or.inl ⟨by rfl, ?_⟩
  (intro V hSV; (try dsimp only at hSV); obtain ⟨q0, q1, q2, q3, q4, q5⟩ := hSV; go_simp; try with_reducible rfl)
 (try simp only [LY9])
 refine wpAnyH_done (by kernel_rfl) ?_ _
 clear hHeld hlx p0 p1 p2 p3 p4 p5
 have hb := HB2.out
 obtain ⟨X, c5, e5, _, _, hBX, _, _⟩ := own_plain9 HO.out
 subst e5
 have HX := Lib.hid hBX
 have BX := Lib.hid (BX.out.below hb)
 have HB := Lib.hid (below_then HB.out hb)
 clear hb
 obtain ⟨ET, hET⟩ : ∃ t, edsText d.start (logE d.log) = t := ⟨_, rfl⟩
 obtain ⟨EN, hEN⟩ : ∃ n, edsN d.start (logE d.log) = n := ⟨_, rfl⟩
 rw [hET] at HX
 rw [hET, hEN]
 have hrun : runOk d = (decide (EN = (d.log.length : Int)) && decide (ET = d.text)) := by rw [← hET, ← hEN]; rfl
 have HRN := Lib.hid hrun
 clear hBX HO HB1 HB2 HE HD2 HD hET hEN hrun
 have p1 := BX.out.cell 1
 have p2 := BX.out.cell 2
 by_cases hN : EN = (d.log.length : Int)
 rotate_left 1
 ·have hg2 : (EN != (d.log.length : Int)) = true := by simpa using hN
  have hrf : runOk d = false := by rw [HRN.out, decide_eq_false hN]; rfl
  clear hN
  have e : R = false := by rw [← HR.out]; exact docOk_run hrf
  subst e
  go_wp2
  go_ret
  exact ⟨rfl, HB.out⟩
 have hg2 : (EN != (d.log.length : Int)) = false := by simp [hN]
 have hcv1 := run_conv_bs c5 ET.length rfl HX.out
 have hcv2 := run_conv_bs a.ct d.text.length rfl (HK.out _ HB.out).t
 by_cases hTX : ET = d.text
 rotate_left 1
 ·have hg3 : (ET == d.text) = false := by simpa using hTX
  have hrf : runOk d = false := by rw [HRN.out, decide_eq_false hTX]; simp
  clear hTX hN
  have e : R = false := by rw [← HR.out]; exact docOk_run hrf
  subst e
  go_wp2
  go_ret
  exact ⟨rfl, HB.out⟩
 have hg3 : (ET == d.text) = true := by simpa using hTX
 have hrt : runOk d = true := by rw [HRN.out, decide_eq_true hTX, decide_eq_true hN]; rfl
 have HRT := Lib.hid hrt
 have htx := runOk_text hrt
 have ht4 := isText_len htx
 have HTX := Lib.hid htx
 clear hTX hN hrt htx
 go_wp2
 clear hg2 hg3 hcv1 hcv2 p1 p2
 go_loopw [5] (fun i wr => ∃ k : Nat, k ≤ d.log.length ∧ i = .int .i64 k ∧ Hid (∀ j (h : j < d.log.length), j < k → ses d.log[j].1 = true) ∧ Below w.heap.size w wr ∧ Blk wr w.heap.size #[.slice a.s d.start.length a.cs, .slice a.t d.text.length a.ct, .slice a.l d.log.length a.cl, .int .i64 d.clock, .slice a.m d.mem.length a.cm, .slice a.e d.lea.length a.ce] 36) (fun i _ => d.log.length - (intOf i).toNat)
 case atStart => exact ⟨0, Nat.zero_le _, rfl, Lib.hid (fun j _ h => absurd h (Nat.not_lt_zero _)), HB.out, BX.out⟩
 case round =>
  obtain ⟨k, hk, rfl, HM, hb, bx⟩ := hrel
  have HB := Lib.hid hb
  have BX := Lib.hid bx
  clear hb bx
  have p2 := BX.out.cell 2
  by_cases hlt : k < d.log.length
  ·obtain ⟨b, off, s, x, m, B, p, dd, hA, hbl, hek, k0, k1, k2, k3, hs, ha, hm, hpd, hdm, hBp⟩ := (HK.out _ HB.out).l.at_ k hlt
   obtain ⟨q, hq⟩ : ∃ q, ses s = q := ⟨_, rfl⟩
   have HQ := Lib.hid hq
   have HQ2 := Lib.hid (show ses d.log[k].1 = q by rw [hek]; exact hq)
   have hki : (k : Int) < (d.log.length : Int) := by omega
   have hi0 : (0 : Int) ≤ (k : Int) := by omega
   rw [hA] at p2
   clear hA hq hek hs ha hm hpd hdm hBp
   go_wp2_with fail
   refine (l10Session_any s _).mono ?_
   rintro e w5 ⟨rfl, hb⟩
   rw [HQ.out]
   have BX := Lib.hid (BX.out.below hb)
   have HB := Lib.hid (below_then HB.out hb)
   clear hb
   clear p2 k0 k1 k2 k3
   cases q
   ·skip
    have e : R = false := by rw [← HR.out]; exact docOk_ses hlt HQ2.out
    subst e
    go_wp2
    go_ret
    exact ⟨rfl, HB.out⟩
   ·have HMN := Lib.hid (show ∀ j (h : j < d.log.length), j < k + 1 → ses d.log[j].1 = true from fun j h hj => by
     by_cases e : j = k
     ·subst e; exact HQ2.out
     ·exact HM.out j h (by omega))
    go_wp2
    go_roundw
    case rel => exact ⟨k + 1, by omega, by go_num, HMN, HB.out, BX.out⟩
    case measure => simp [intOf]; omega
  ·have HSE := Lib.hid (show ∀ j (h : j < d.log.length), ses d.log[j].1 = true from fun j h => HM.out j h (by omega))
   clear HM
   go_wp2
   clear p2
   go_loopw [6] (fun i wr => ∃ k : Nat, k ≤ d.mem.length ∧ i = .int .i64 k ∧ Hid (memOk d.text 0 d.mem = memOk d.text (lastS d.mem k) (d.mem.drop k)) ∧ Below w.heap.size w wr ∧ Blk wr w.heap.size #[.slice a.s d.start.length a.cs, .slice a.t d.text.length a.ct, .slice a.l d.log.length a.cl, .int .i64 d.clock, .slice a.m d.mem.length a.cm, .slice a.e d.lea.length a.ce] 36) (fun i _ => d.mem.length - (intOf i).toNat)
   case atStart => exact ⟨0, Nat.zero_le _, rfl, Lib.hid (by rw [lastS_zero]; rfl), HB.out, BX.out⟩
   case round =>
    obtain ⟨k, hk, rfl, HM, hb, bx⟩ := hrel
    have HB := Lib.hid hb
    have BX := Lib.hid bx
    clear hb bx
    have p4 := BX.out.cell 4
    by_cases hlt : k < d.mem.length
    ·obtain ⟨b, off, s, f, t, U, u, cu, Q, r, cr, hA, hbl, hek, k0, k1, k2, k3, k4, hs, hf, htt, hcu, hcm, hdr, hdm, hU, hQ⟩ := (HK.out _ HB.out).m.at_ k hlt
     have HAM := Lib.hid hA
     rw [hA] at p4
     have hst := memOk_step hlt HM.out
     rw [hek, lastS_succ d.mem k hlt, hek] at hst
     have hsu := lastS_succ d.mem k hlt
     rw [hek] at hsu
     obtain ⟨la, hla⟩ : ∃ la, lastS d.mem k = la := ⟨_, rfl⟩
     rw [hla] at hst
     obtain ⟨q1, h1⟩ : ∃ q, ses s = q := ⟨_, rfl⟩
     obtain ⟨q2, h2⟩ : ∃ q, selOk d.text f t = q := ⟨_, rfl⟩
     obtain ⟨q3, h3⟩ : ∃ q, stOk u r = q := ⟨_, rfl⟩
     obtain ⟨q4, h4⟩ : ∃ q, u.all (fitE d.text) = q := ⟨_, rfl⟩
     obtain ⟨q5, h5⟩ : ∃ q, r.all (fitE d.text) = q := ⟨_, rfl⟩
     have hgd : mbGood d.text la (s, (f, t), (u, r)) = (decide (la < s) && (q1 && (q2 && (q3 && (q4 && q5))))) := by rw [← h1, ← h2, ← h3, ← h4, ← h5, ← canT_eq]; rfl
     rw [hgd] at hst
     have HST := Lib.hid hst
     have H1 := Lib.hid h1
     have H2 := Lib.hid h2
     have H3 := Lib.hid h3
     have H4 := Lib.hid h4
     have H5 := Lib.hid h5
     have HSU := Lib.hid hsu
     have HU := Lib.hid hU
     have HQQ := Lib.hid hQ
     have HLA := Lib.hid hla
     have hu9 : u.length ≤ 9223372036854775807 := by unfold maxLen at hcm; omega
     have hr9 : r.length ≤ 9223372036854775807 := by unfold maxLen at hdm; omega
     have hki : (k : Int) < (d.mem.length : Int) := by omega
     have hi0 : (0 : Int) ≤ (k : Int) := by omega
     have hk8 : k ≤ 8 := by omega
     have hbl9 := BX.out.lt
     clear hst hgd h1 h2 h3 h4 h5 hsu hU hQ hek hla hs hf htt hcu hcm hdr hdm HM hA
     have hal2 := (Below.refl wr.heap.size wr).alloc (Nat.le_refl _) (.cells #[.int .i64 s, .int .i64 f, .int .i64 t, .slice U u.length cu, .slice Q r.length cr] 50)
     have MB := Lib.hid (Blk.new wr #[.int .i64 s, .int .i64 f, .int .i64 t, .slice U u.length cu, .slice Q r.length cr] 50)
     have BX := Lib.hid (BX.out.below hal2)
     have HB := Lib.hid (below_then HB.out hal2)
     have HU := Lib.hid (HU.out.below hal2)
     have HQQ := Lib.hid (HQQ.out.below hal2)
     have HTS := Lib.hid (HK.out _ HB.out).t
     go_upto_region 15 with fail
     generalize wr.alloc (.cells #[.int .i64 s, .int .i64 f, .int .i64 t, .slice U u.length cu, .slice Q r.length cr] 50) = W1 at *
     clear k0 k1 k2 k3 k4 hal2 p4
     cases q1
     ·skip
      have hlx := BX.out.lt
      have hly := MB.out.lt
      have p0 := BX.out.cell 0
      have p1 := BX.out.cell 1
      have p2 := BX.out.cell 2
      have p3 := BX.out.cell 3
      have p4 := BX.out.cell 4
      have p5 := BX.out.cell 5
      have m0 := MB.out.cell 0
      have m1 := MB.out.cell 1
      have m2 := MB.out.cell 2
      have m3 := MB.out.cell 3
      have m4 := MB.out.cell 4
      refine wp_region_held_drew (S := (fun V => V.cell? ⟨w.heap.size, 0, none⟩ = some (.slice a.s d.start.length a.cs) ∧ V.cell? ⟨w.heap.size, 1, none⟩ = some (.slice a.t d.text.length a.ct) ∧ V.cell? ⟨w.heap.size, 2, none⟩ = some (.slice a.l d.log.length a.cl) ∧ V.cell? ⟨w.heap.size, 3, none⟩ = some (.int .i64 d.clock) ∧ V.cell? ⟨w.heap.size, 4, none⟩ = some (.slice a.m d.mem.length a.cm) ∧ V.cell? ⟨w.heap.size, 5, none⟩ = some (.slice a.e d.lea.length a.ce) ∧ V.cell? ⟨wr.heap.size, 0, none⟩ = some (.int .i64 s) ∧ V.cell? ⟨wr.heap.size, 1, none⟩ = some (.int .i64 f) ∧ V.cell? ⟨wr.heap.size, 2, none⟩ = some (.int .i64 t) ∧ V.cell? ⟨wr.heap.size, 3, none⟩ = some (.slice U u.length cu) ∧ V.cell? ⟨wr.heap.size, 4, none⟩ = some (.slice Q r.length cr))) (by kernel_rfl) (by exact ⟨p0, p1, p2, p3, p4, p5, m0, m1, m2, m3, m4⟩) (fun hHeld => ?_)
      refine wpAnyH_take (i := 0) (oi := ?_) (v := ?_) ?_ ?_ ?_ ?_ ?_ ?_ (by exact hHeld) ?_
      rotate_left 2
      ·(simp only [List.getElem?_toArray, List.getElem?_cons_zero]; try rfl)
      ·kernel_rfl
      ·kernel_rfl
      ·kernel_rfl
      ·exact fun _ _ _ h => h
      ·refine Or.inl ⟨by rfl, ?_⟩
       (intro V hSV; (try dsimp only at hSV); obtain ⟨q0, q1, q2, q3, q4, q5, q6, q7, q8, q9, q10⟩ := hSV; go_simp; try with_reducible rfl)
      (try simp only [LY9])
      refine wpAnyH_take (i := 1) (oi := ?_) (v := ?_) ?_ ?_ ?_ ?_ ?_ ?_ (by exact hHeld) ?_
      rotate_left 2
      ·(simp only [LX9]; try rfl)
      ·kernel_rfl
      ·kernel_rfl
      ·kernel_rfl
      ·exact fun _ _ _ h => h
      ·refine Or.inl ⟨by rfl, ?_⟩
       (intro V hSV; (try dsimp only at hSV); obtain ⟨q0, q1, q2, q3, q4, q5, q6, q7, q8, q9, q10⟩ := hSV; go_simp; try with_reducible rfl)
      (try simp only [LY9])
      refine wpAnyH_ready (rs := [2]) (by kernel_rfl) (by simp) ?_
      refine AllReadyH.cons rfl (fun K hK => ?_) AllReadyH.nil
      go_simp
      refine (l10Session_any s _).mono ?_
      rintro e w6 ⟨rfl, hb⟩
      rw [H1.out]
      have hb : Below W1.heap.size W1 w6 := ⟨hb.os, hb.tape, hb.output, hb.size, hb.block⟩
      have HR1 := Lib.hid hb
      have HTS1 := Lib.hid (HTS.out.below hb)
      have HU1 := Lib.hid (HU.out.below hb)
      have HQ1 := Lib.hid (HQQ.out.below hb)
      clear hb
      go_wp2_with fail
      refine hK.out _ _ (by exact ⟨((HR1.out).cell (p := ⟨w.heap.size, 0, none⟩) hlx).trans p0, ((HR1.out).cell (p := ⟨w.heap.size, 1, none⟩) hlx).trans p1, ((HR1.out).cell (p := ⟨w.heap.size, 2, none⟩) hlx).trans p2, ((HR1.out).cell (p := ⟨w.heap.size, 3, none⟩) hlx).trans p3, ((HR1.out).cell (p := ⟨w.heap.size, 4, none⟩) hlx).trans p4, ((HR1.out).cell (p := ⟨w.heap.size, 5, none⟩) hlx).trans p5, ((HR1.out).cell (p := ⟨wr.heap.size, 0, none⟩) hly).trans m0, ((HR1.out).cell (p := ⟨wr.heap.size, 1, none⟩) hly).trans m1, ((HR1.out).cell (p := ⟨wr.heap.size, 2, none⟩) hly).trans m2, ((HR1.out).cell (p := ⟨wr.heap.size, 3, none⟩) hly).trans m3, ((HR1.out).cell (p := ⟨wr.heap.size, 4, none⟩) hly).trans m4⟩) (fun hHeld => ?_)
      clear hK K
      (try simp only [LY9])
      refine wpAnyH_take (i := 3) (oi := ?_) (v := ?_) ?_ ?_ ?_ ?_ ?_ ?_ (by exact hHeld) ?_
      rotate_left 2
      ·(simp only [LX9]; try rfl)
      ·kernel_rfl
      ·kernel_rfl
      ·kernel_rfl
      ·exact fun _ _ _ h => h
      ·refine Or.inl ⟨by rfl, ?_⟩
       (intro V hSV; (try dsimp only at hSV); obtain ⟨q0, q1, q2, q3, q4, q5, q6, q7, q8, q9, q10⟩ := hSV; go_simp; try with_reducible rfl)
      (try simp only [LY9])
      refine wpAnyH_take (i := 4) (oi := ?_) (v := ?_) ?_ ?_ ?_ ?_ ?_ ?_ (by exact hHeld) ?_
      rotate_left 2
      ·(simp only [LX9]; try rfl)
      ·kernel_rfl
      ·kernel_rfl
      ·kernel_rfl
      ·exact fun _ _ _ h => h
      ·refine Or.inl ⟨by rfl, ?_⟩
       (intro V hSV; (try dsimp only at hSV); obtain ⟨q0, q1, q2, q3, q4, q5, q6, q7, q8, q9, q10⟩ := hSV; go_simp; try with_reducible rfl)
      (try simp only [LY9])
      refine wpAnyH_take (i := 5) (oi := ?_) (v := undef) ?_ ?_ ?_ ?_ ?_ ?_ (by exact hHeld) ?_
      rotate_left 1
      ·(simp only [LX9]; try rfl)
      ·kernel_rfl
      ·kernel_rfl
      ·kernel_rfl
      ·exact fun _ _ _ h => h
      ·refine Or.inr ?_
       exact ⟨by rfl, rfl⟩
      (try simp only [LY9])
      refine wpAnyH_take (i := 6) (oi := ?_) (v := undef) ?_ ?_ ?_ ?_ ?_ ?_ (by exact hHeld) ?_
      rotate_left 1
      ·(simp only [LX9]; try rfl)
      ·kernel_rfl
      ·kernel_rfl
      ·kernel_rfl
      ·exact fun _ _ _ h => h
      ·refine Or.inr ?_
       exact ⟨by rfl, rfl⟩
      (try simp only [LY9])
      refine wpAnyH_take (i := 7) (oi := ?_) (v := undef) ?_ ?_ ?_ ?_ ?_ ?_ (by exact hHeld) ?_
      rotate_left 1
      ·(simp only [LX9]; try rfl)
      ·kernel_rfl
      ·kernel_rfl
      ·kernel_rfl
      ·exact fun _ _ _ h => h
      ·refine Or.inr ?_
       exact ⟨by rfl, rfl⟩
      (try simp only [LY9])
      refine wpAnyH_take (i := 8) (oi := ?_) (v := undef) ?_ ?_ ?_ ?_ ?_ ?_ (by exact hHeld) ?_
      rotate_left 1
      ·(simp only [LX9]; try rfl)
      ·kernel_rfl
      ·kernel_rfl
      ·kernel_rfl
      ·exact fun _ _ _ h => h
      ·refine Or.inr ?_
       exact ⟨by rfl, rfl⟩
      (try simp only [LY9])
      refine wpAnyH_take (i := 9) (oi := ?_) (v := undef) ?_ ?_ ?_ ?_ ?_ ?_ (by exact hHeld) ?_
      rotate_left 1
      ·(simp only [LX9]; try rfl)
      ·kernel_rfl
      ·kernel_rfl
      ·kernel_rfl
      ·exact fun _ _ _ h => h
      ·refine Or.inr ?_
       exact ⟨by rfl, rfl⟩
      (try simp only [LY9])
      refine wpAnyH_take (i := 10) (oi := ?_) (v := undef) ?_ ?_ ?_ ?_ ?_ ?_ (by exact hHeld) ?_
      rotate_left 1
      ·(simp only [LX9]; try rfl)
      ·kernel_rfl
      ·kernel_rfl
      ·kernel_rfl
      ·exact fun _ _ _ h => h
      ·refine Or.inr ?_
       exact ⟨by rfl, rfl⟩
      (try simp only [LY9])
      refine wpAnyH_take (i := 11) (oi := ?_) (v := undef) ?_ ?_ ?_ ?_ ?_ ?_ (by exact hHeld) ?_
      rotate_left 1
      ·(simp only [LX9]; try rfl)
      ·kernel_rfl
      ·kernel_rfl
      ·kernel_rfl
      ·exact fun _ _ _ h => h
      ·refine Or.inr ?_
       exact ⟨by rfl, rfl⟩
      (try simp only [LY9])
      refine wpAnyH_take (i := 12) (oi := ?_) (v := undef) ?_ ?_ ?_ ?_ ?_ ?_ (by exact hHeld) ?_
      rotate_left 1
      ·(simp only [LX9]; try rfl)
      ·kernel_rfl
      ·kernel_rfl
      ·kernel_rfl
      ·exact fun _ _ _ h => h
      ·refine Or.inr ?_
       exact ⟨by rfl, rfl⟩
      (try simp only [LY9])
      refine wpAnyH_take (i := 13) (oi := ?_) (v := undef) ?_ ?_ ?_ ?_ ?_ ?_ (by exact hHeld) ?_
      rotate_left 1
      ·(simp only [LX9]; try rfl)
      ·kernel_rfl
      ·kernel_rfl
      ·kernel_rfl
      ·exact fun _ _ _ h => h
      ·refine Or.inr ?_
       exact ⟨by rfl, rfl⟩
      (try simp only [LY9])
      refine wpAnyH_take (i := 14) (oi := ?_) (v := undef) ?_ ?_ ?_ ?_ ?_ ?_ (by exact hHeld) ?_
      rotate_left 1
      ·(simp only [LX9]; try rfl)
      ·kernel_rfl
      ·kernel_rfl
      ·kernel_rfl
      ·exact fun _ _ _ h => h
      ·refine Or.inr ?_
       exact ⟨by rfl, rfl⟩
      (try simp only [LY9])
      refine wpAnyH_take (i := 15) (oi := ?_) (v := undef) ?_ ?_ ?_ ?_ ?_ ?_ (by exact hHeld) ?_
      rotate_left 1
      ·(simp only [LX9]; try rfl)
      ·kernel_rfl
      ·kernel_rfl
      ·kernel_rfl
      ·exact fun _ _ _ h => h
      ·refine Or.inr ?_
       exact ⟨by rfl, rfl⟩
      (try simp only [LY9])
      refine wpAnyH_take (i := 16) (oi := ?_) (v := undef) ?_ ?_ ?_ ?_ ?_ ?_ (by exact hHeld) ?_
      rotate_left 1
      ·(simp only [LX9]; try rfl)
      ·kernel_rfl
      ·kernel_rfl
      ·kernel_rfl
      ·exact fun _ _ _ h => h
      ·refine Or.inr ?_
       exact ⟨by rfl, rfl⟩
      (try simp only [LY9])
      refine wpAnyH_take (i := 17) (oi := ?_) (v := undef) ?_ ?_ ?_ ?_ ?_ ?_ (by exact hHeld) ?_
      rotate_left 1
      ·(simp only [LX9]; try rfl)
      ·kernel_rfl
      ·kernel_rfl
      ·kernel_rfl
      ·exact fun _ _ _ h => h
      ·refine Or.inr ?_
       exact ⟨by rfl, rfl⟩
      (try simp only [LY9])
      refine wpAnyH_take (i := 18) (oi := ?_) (v := undef) ?_ ?_ ?_ ?_ ?_ ?_ (by exact hHeld) ?_
      rotate_left 1
      ·(simp only [LX9]; try rfl)
      ·kernel_rfl
      ·kernel_rfl
      ·kernel_rfl
      ·exact fun _ _ _ h => h
      ·refine Or.inr ?_
       exact ⟨by rfl, rfl⟩
      (try simp only [LY9])
      refine wpAnyH_take (i := 19) (oi := ?_) (v := ?_) ?_ ?_ ?_ ?_ ?_ ?_ (by exact hHeld) ?_
      rotate_left 2
      ·(simp only [LX9]; try rfl)
      ·kernel_rfl
      ·kernel_rfl
      ·kernel_rfl
      ·exact fun _ _ _ h => h
      ·refine Or.inl ⟨by rfl, ?_⟩
       (intro V hSV; (try dsimp only at hSV); obtain ⟨q0, q1, q2, q3, q4, q5, q6, q7, q8, q9, q10⟩ := hSV; go_simp; try with_reducible rfl)
      (try simp only [LY9])
      refine wpAnyH_take (i := 20) (oi := ?_) (v := ?_) ?_ ?_ ?_ ?_ ?_ ?_ (by exact hHeld) ?_
      rotate_left 2
      ·(simp only [LX9]; try rfl)
      ·kernel_rfl
      ·kernel_rfl
      ·kernel_rfl
      ·exact fun _ _ _ h => h
      ·refine Or.inl ⟨by rfl, ?_⟩
       (intro V hSV; (try dsimp only at hSV); obtain ⟨q0, q1, q2, q3, q4, q5, q6, q7, q8, q9, q10⟩ := hSV; go_simp; try with_reducible rfl)
      (try simp only [LY9])
      refine wpAnyH_take (i := 21) (oi := ?_) (v := undef) ?_ ?_ ?_ ?_ ?_ ?_ (by exact hHeld) ?_
      rotate_left 1
      ·(simp only [LX9]; try rfl)
      ·kernel_rfl
      ·kernel_rfl
      ·kernel_rfl
      ·exact fun _ _ _ h => h
      ·refine Or.inr ?_
       exact ⟨by rfl, rfl⟩
      (try simp only [LY9])
      refine wpAnyH_take (i := 22) (oi := ?_) (v := undef) ?_ ?_ ?_ ?_ ?_ ?_ (by exact hHeld) ?_
      rotate_left 1
      ·(simp only [LX9]; try rfl)
      ·kernel_rfl
      ·kernel_rfl
      ·kernel_rfl
      ·exact fun _ _ _ h => h
      ·refine Or.inr ?_
       exact ⟨by rfl, rfl⟩
      (try simp only [LY9])
      refine wpAnyH_take (i := 23) (oi := ?_) (v := undef) ?_ ?_ ?_ ?_ ?_ ?_ (by exact hHeld) ?_
      rotate_left 1
      ·(simp only [LX9]; try rfl)
      ·kernel_rfl
      ·kernel_rfl
      ·kernel_rfl
      ·exact fun _ _ _ h => h
      ·refine Or.inr ?_
       exact ⟨by rfl, rfl⟩
      (try simp only [LY9])
      refine wpAnyH_take (i := 24) (oi := ?_) (v := undef) ?_ ?_ ?_ ?_ ?_ ?_ (by exact hHeld) ?_
      rotate_left 1
      ·(simp only [LX9]; try rfl)
      ·kernel_rfl
      ·kernel_rfl
      ·kernel_rfl
      ·exact fun _ _ _ h => h
      ·refine Or.inr ?_
       exact ⟨by rfl, rfl⟩
      (try simp only [LY9])
      refine wpAnyH_take (i := 25) (oi := ?_) (v := undef) ?_ ?_ ?_ ?_ ?_ ?_ (by exact hHeld) ?_
      rotate_left 1
      ·(simp only [LX9]; try rfl)
      ·kernel_rfl
      ·kernel_rfl
      ·kernel_rfl
      ·exact fun _ _ _ h => h
      ·refine Or.inr ?_
       exact ⟨by rfl, rfl⟩
      (try simp only [LY9])
      refine wpAnyH_take (i := 26) (oi := ?_) (v := undef) ?_ ?_ ?_ ?_ ?_ ?_ (by exact hHeld) ?_
      rotate_left 1
      ·(simp only [LX9]; try rfl)
      ·kernel_rfl
      ·kernel_rfl
      ·kernel_rfl
      ·exact fun _ _ _ h => h
      ·refine Or.inr ?_
       exact ⟨by rfl, rfl⟩
      (try simp only [LY9])
      refine wpAnyH_take (i := 27) (oi := ?_) (v := ?_) ?_ ?_ ?_ ?_ ?_ ?_ (by exact hHeld) ?_
      rotate_left 2
      ·(simp only [LX9]; try rfl)
      ·kernel_rfl
      ·kernel_rfl
      ·kernel_rfl
      ·exact fun _ _ _ h => h
      ·refine Or.inl ⟨by rfl, ?_⟩
       (intro V hSV; (try dsimp only at hSV); obtain ⟨q0, q1, q2, q3, q4, q5, q6, q7, q8, q9, q10⟩ := hSV; go_simp; try with_reducible rfl)
      (try simp only [LY9])
      refine wpAnyH_take (i := 28) (oi := ?_) (v := ?_) ?_ ?_ ?_ ?_ ?_ ?_ (by exact hHeld) ?_
      rotate_left 2
      ·(simp only [LX9]; try rfl)
      ·kernel_rfl
      ·kernel_rfl
      ·kernel_rfl
      ·exact fun _ _ _ h => h
      ·refine Or.inl ⟨by rfl, ?_⟩
       (intro V hSV; (try dsimp only at hSV); obtain ⟨q0, q1, q2, q3, q4, q5, q6, q7, q8, q9, q10⟩ := hSV; go_simp; try with_reducible rfl)
      (try simp only [LY9])
      refine wpAnyH_take (i := 29) (oi := ?_) (v := undef) ?_ ?_ ?_ ?_ ?_ ?_ (by exact hHeld) ?_
      rotate_left 1
      ·(simp only [LX9]; try rfl)
      ·kernel_rfl
      ·kernel_rfl
      ·kernel_rfl
      ·exact fun _ _ _ h => h
      ·refine Or.inr ?_
       exact ⟨by rfl, rfl⟩
      (try simp only [LY9])
      refine wpAnyH_take (i := 30) (oi := ?_) (v := undef) ?_ ?_ ?_ ?_ ?_ ?_ (by exact hHeld) ?_
      rotate_left 1
      ·(simp only [LX9]; try rfl)
      ·kernel_rfl
      ·kernel_rfl
      ·kernel_rfl
      ·exact fun _ _ _ h => h
      ·refine Or.inr ?_
       exact ⟨by rfl, rfl⟩
      (try simp only [LY9])
      refine wpAnyH_take (i := 31) (oi := ?_) (v := undef) ?_ ?_ ?_ ?_ ?_ ?_ (by exact hHeld) ?_
      rotate_left 1
      ·(simp only [LX9]; try rfl)
      ·kernel_rfl
      ·kernel_rfl
      ·kernel_rfl
      ·exact fun _ _ _ h => h
      ·refine Or.inr ?_
       exact ⟨by rfl, rfl⟩
      (try simp only [LY9])
      refine wpAnyH_take (i := 32) (oi := ?_) (v := undef) ?_ ?_ ?_ ?_ ?_ ?_ (by exact hHeld) ?_
      rotate_left 1
      ·(simp only [LX9]; try rfl)
      ·kernel_rfl
      ·kernel_rfl
      ·kernel_rfl
      ·exact fun _ _ _ h => h
      ·refine Or.inr ?_
       exact ⟨by rfl, rfl⟩
      (try simp only [LY9])
      refine wpAnyH_take (i := 33) (oi := ?_) (v := ?_) ?_ ?_ ?_ ?_ ?_ ?_ (by exact hHeld) ?_
      rotate_left 2
      ·(simp only [LX9]; try rfl)
      ·kernel_rfl
      ·kernel_rfl
      ·kernel_rfl
      ·exact fun _ _ _ h => h
      ·refine Or.inl ⟨by rfl, ?_⟩
       (intro V hSV; (try dsimp only at hSV); obtain ⟨q0, q1, q2, q3, q4, q5, q6, q7, q8, q9, q10⟩ := hSV; go_simp; try with_reducible rfl)
      (try simp only [LY9])
      refine wpAnyH_done (by kernel_rfl) ?_ _
      clear hHeld hlx hly p0 p1 p2 p3 p4 p5 m0 m1 m2 m3 m4
      have hb := HR1.out
      have BX := Lib.hid (BX.out.below hb)
      have MB := Lib.hid (MB.out.below hb)
      have HB := Lib.hid (below_then HB.out hb)
      have HU := Lib.hid (HU.out.below hb)
      have HQQ := Lib.hid (HQQ.out.below hb)
      clear hb
      have hmf : memOk d.text 0 d.mem = false := by rw [HST.out]; simp
      have e : R = false := by rw [← HR.out]; exact docOk_mem hmf
      subst e
      go_wp2
      go_ret
      exact ⟨rfl, HB.out⟩
     have hs18 := (ses_iff s).1 H1.out
     by_cases hk0 : k = 0
     ·have hls : la < s := by
       rw [← HLA.out, hk0, lastS_zero]; omega
      have hgz : decide ((k : Int) > 0) = false := decide_eq_false (by omega)
      cases q2
      ·skip
       have hlx := BX.out.lt
       have hly := MB.out.lt
       have p0 := BX.out.cell 0
       have p1 := BX.out.cell 1
       have p2 := BX.out.cell 2
       have p3 := BX.out.cell 3
       have p4 := BX.out.cell 4
       have p5 := BX.out.cell 5
       have m0 := MB.out.cell 0
       have m1 := MB.out.cell 1
       have m2 := MB.out.cell 2
       have m3 := MB.out.cell 3
       have m4 := MB.out.cell 4
       refine wp_region_held_drew (S := (fun V => V.cell? ⟨w.heap.size, 0, none⟩ = some (.slice a.s d.start.length a.cs) ∧ V.cell? ⟨w.heap.size, 1, none⟩ = some (.slice a.t d.text.length a.ct) ∧ V.cell? ⟨w.heap.size, 2, none⟩ = some (.slice a.l d.log.length a.cl) ∧ V.cell? ⟨w.heap.size, 3, none⟩ = some (.int .i64 d.clock) ∧ V.cell? ⟨w.heap.size, 4, none⟩ = some (.slice a.m d.mem.length a.cm) ∧ V.cell? ⟨w.heap.size, 5, none⟩ = some (.slice a.e d.lea.length a.ce) ∧ V.cell? ⟨wr.heap.size, 0, none⟩ = some (.int .i64 s) ∧ V.cell? ⟨wr.heap.size, 1, none⟩ = some (.int .i64 f) ∧ V.cell? ⟨wr.heap.size, 2, none⟩ = some (.int .i64 t) ∧ V.cell? ⟨wr.heap.size, 3, none⟩ = some (.slice U u.length cu) ∧ V.cell? ⟨wr.heap.size, 4, none⟩ = some (.slice Q r.length cr))) (by kernel_rfl) (by exact ⟨p0, p1, p2, p3, p4, p5, m0, m1, m2, m3, m4⟩) (fun hHeld => ?_)
       refine wpAnyH_take (i := 0) (oi := ?_) (v := ?_) ?_ ?_ ?_ ?_ ?_ ?_ (by exact hHeld) ?_
       rotate_left 2
       ·(simp only [List.getElem?_toArray, List.getElem?_cons_zero]; try rfl)
       ·kernel_rfl
       ·kernel_rfl
       ·kernel_rfl
       ·exact fun _ _ _ h => h
       ·refine Or.inl ⟨by rfl, ?_⟩
        (intro V hSV; (try dsimp only at hSV); obtain ⟨q0, q1, q2, q3, q4, q5, q6, q7, q8, q9, q10⟩ := hSV; go_simp; try with_reducible rfl)
       (try simp only [LY9])
       refine wpAnyH_take (i := 1) (oi := ?_) (v := ?_) ?_ ?_ ?_ ?_ ?_ ?_ (by exact hHeld) ?_
       rotate_left 2
       ·(simp only [LX9]; try rfl)
       ·kernel_rfl
       ·kernel_rfl
       ·kernel_rfl
       ·exact fun _ _ _ h => h
       ·refine Or.inl ⟨by rfl, ?_⟩
        (intro V hSV; (try dsimp only at hSV); obtain ⟨q0, q1, q2, q3, q4, q5, q6, q7, q8, q9, q10⟩ := hSV; go_simp; try with_reducible rfl)
       (try simp only [LY9])
       refine wpAnyH_ready (rs := [2]) (by kernel_rfl) (by simp) ?_
       refine AllReadyH.cons rfl (fun K hK => ?_) AllReadyH.nil
       go_simp
       refine (l10Session_any s _).mono ?_
       rintro e w6 ⟨rfl, hb⟩
       rw [H1.out]
       have hb : Below W1.heap.size W1 w6 := ⟨hb.os, hb.tape, hb.output, hb.size, hb.block⟩
       have HR1 := Lib.hid hb
       have HTS1 := Lib.hid (HTS.out.below hb)
       have HU1 := Lib.hid (HU.out.below hb)
       have HQ1 := Lib.hid (HQQ.out.below hb)
       clear hb
       go_wp2_with fail
       refine hK.out _ _ (by exact ⟨((HR1.out).cell (p := ⟨w.heap.size, 0, none⟩) hlx).trans p0, ((HR1.out).cell (p := ⟨w.heap.size, 1, none⟩) hlx).trans p1, ((HR1.out).cell (p := ⟨w.heap.size, 2, none⟩) hlx).trans p2, ((HR1.out).cell (p := ⟨w.heap.size, 3, none⟩) hlx).trans p3, ((HR1.out).cell (p := ⟨w.heap.size, 4, none⟩) hlx).trans p4, ((HR1.out).cell (p := ⟨w.heap.size, 5, none⟩) hlx).trans p5, ((HR1.out).cell (p := ⟨wr.heap.size, 0, none⟩) hly).trans m0, ((HR1.out).cell (p := ⟨wr.heap.size, 1, none⟩) hly).trans m1, ((HR1.out).cell (p := ⟨wr.heap.size, 2, none⟩) hly).trans m2, ((HR1.out).cell (p := ⟨wr.heap.size, 3, none⟩) hly).trans m3, ((HR1.out).cell (p := ⟨wr.heap.size, 4, none⟩) hly).trans m4⟩) (fun hHeld => ?_)
       clear hK K
       (try simp only [LY9])
       refine wpAnyH_take (i := 3) (oi := ?_) (v := ?_) ?_ ?_ ?_ ?_ ?_ ?_ (by exact hHeld) ?_
       rotate_left 2
       ·(simp only [LX9]; try rfl)
       ·kernel_rfl
       ·kernel_rfl
       ·kernel_rfl
       ·exact fun _ _ _ h => h
       ·refine Or.inl ⟨by rfl, ?_⟩
        (intro V hSV; (try dsimp only at hSV); obtain ⟨q0, q1, q2, q3, q4, q5, q6, q7, q8, q9, q10⟩ := hSV; go_simp; try with_reducible rfl)
       (try simp only [LY9])
       refine wpAnyH_take (i := 4) (oi := ?_) (v := ?_) ?_ ?_ ?_ ?_ ?_ ?_ (by exact hHeld) ?_
       rotate_left 2
       ·(simp only [LX9]; try rfl)
       ·kernel_rfl
       ·kernel_rfl
       ·kernel_rfl
       ·exact fun _ _ _ h => h
       ·refine Or.inl ⟨by rfl, ?_⟩
        (intro V hSV; (try dsimp only at hSV); obtain ⟨q0, q1, q2, q3, q4, q5, q6, q7, q8, q9, q10⟩ := hSV; go_simp; try with_reducible rfl)
       (try simp only [LY9])
       refine wpAnyH_take (i := 5) (oi := ?_) (v := ?_) ?_ ?_ ?_ ?_ ?_ ?_ (by exact hHeld) ?_
       rotate_left 2
       ·(simp only [LX9]; try rfl)
       ·kernel_rfl
       ·kernel_rfl
       ·kernel_rfl
       ·exact fun _ _ _ h => h
       ·refine Or.inl ⟨by rfl, ?_⟩
        (intro V hSV; (try dsimp only at hSV); obtain ⟨q0, q1, q2, q3, q4, q5, q6, q7, q8, q9, q10⟩ := hSV; go_simp; try with_reducible rfl)
       (try simp only [LY9])
       refine wpAnyH_take (i := 6) (oi := ?_) (v := ?_) ?_ ?_ ?_ ?_ ?_ ?_ (by exact hHeld) ?_
       rotate_left 2
       ·(simp only [LX9]; try rfl)
       ·kernel_rfl
       ·kernel_rfl
       ·kernel_rfl
       ·exact fun _ _ _ h => h
       ·refine Or.inl ⟨by rfl, ?_⟩
        (intro V hSV; (try dsimp only at hSV); obtain ⟨q0, q1, q2, q3, q4, q5, q6, q7, q8, q9, q10⟩ := hSV; go_simp; try with_reducible rfl)
       (try simp only [LY9])
       refine wpAnyH_take (i := 7) (oi := ?_) (v := ?_) ?_ ?_ ?_ ?_ ?_ ?_ (by exact hHeld) ?_
       rotate_left 2
       ·(simp only [LX9]; try rfl)
       ·kernel_rfl
       ·kernel_rfl
       ·kernel_rfl
       ·exact fun _ _ _ h => h
       ·refine Or.inl ⟨by rfl, ?_⟩
        (intro V hSV; (try dsimp only at hSV); obtain ⟨q0, q1, q2, q3, q4, q5, q6, q7, q8, q9, q10⟩ := hSV; go_simp; try with_reducible rfl)
       (try simp only [LY9])
       refine wpAnyH_take (i := 8) (oi := ?_) (v := undef) ?_ ?_ ?_ ?_ ?_ ?_ (by exact hHeld) ?_
       rotate_left 1
       ·(simp only [LX9]; try rfl)
       ·kernel_rfl
       ·kernel_rfl
       ·kernel_rfl
       ·exact fun _ _ _ h => h
       ·refine Or.inr ?_
        exact ⟨by rfl, rfl⟩
       (try simp only [LY9])
       refine wpAnyH_take (i := 9) (oi := ?_) (v := undef) ?_ ?_ ?_ ?_ ?_ ?_ (by exact hHeld) ?_
       rotate_left 1
       ·(simp only [LX9]; try rfl)
       ·kernel_rfl
       ·kernel_rfl
       ·kernel_rfl
       ·exact fun _ _ _ h => h
       ·refine Or.inr ?_
        exact ⟨by rfl, rfl⟩
       (try simp only [LY9])
       refine wpAnyH_take (i := 10) (oi := ?_) (v := undef) ?_ ?_ ?_ ?_ ?_ ?_ (by exact hHeld) ?_
       rotate_left 1
       ·(simp only [LX9]; try rfl)
       ·kernel_rfl
       ·kernel_rfl
       ·kernel_rfl
       ·exact fun _ _ _ h => h
       ·refine Or.inr ?_
        exact ⟨by rfl, rfl⟩
       (try simp only [LY9])
       refine wpAnyH_take (i := 11) (oi := ?_) (v := undef) ?_ ?_ ?_ ?_ ?_ ?_ (by exact hHeld) ?_
       rotate_left 1
       ·(simp only [LX9]; try rfl)
       ·kernel_rfl
       ·kernel_rfl
       ·kernel_rfl
       ·exact fun _ _ _ h => h
       ·refine Or.inr ?_
        exact ⟨by rfl, rfl⟩
       (try simp only [LY9])
       refine wpAnyH_take (i := 12) (oi := ?_) (v := undef) ?_ ?_ ?_ ?_ ?_ ?_ (by exact hHeld) ?_
       rotate_left 1
       ·(simp only [LX9]; try rfl)
       ·kernel_rfl
       ·kernel_rfl
       ·kernel_rfl
       ·exact fun _ _ _ h => h
       ·refine Or.inr ?_
        exact ⟨by rfl, rfl⟩
       (try simp only [LY9])
       refine wpAnyH_take (i := 13) (oi := ?_) (v := undef) ?_ ?_ ?_ ?_ ?_ ?_ (by exact hHeld) ?_
       rotate_left 1
       ·(simp only [LX9]; try rfl)
       ·kernel_rfl
       ·kernel_rfl
       ·kernel_rfl
       ·exact fun _ _ _ h => h
       ·refine Or.inr ?_
        exact ⟨by rfl, rfl⟩
       (try simp only [LY9])
       refine wpAnyH_take (i := 14) (oi := ?_) (v := undef) ?_ ?_ ?_ ?_ ?_ ?_ (by exact hHeld) ?_
       rotate_left 1
       ·(simp only [LX9]; try rfl)
       ·kernel_rfl
       ·kernel_rfl
       ·kernel_rfl
       ·exact fun _ _ _ h => h
       ·refine Or.inr ?_
        exact ⟨by rfl, rfl⟩
       (try simp only [LY9])
       refine wpAnyH_take (i := 15) (oi := ?_) (v := undef) ?_ ?_ ?_ ?_ ?_ ?_ (by exact hHeld) ?_
       rotate_left 1
       ·(simp only [LX9]; try rfl)
       ·kernel_rfl
       ·kernel_rfl
       ·kernel_rfl
       ·exact fun _ _ _ h => h
       ·refine Or.inr ?_
        exact ⟨by rfl, rfl⟩
       (try simp only [LY9])
       refine wpAnyH_take (i := 16) (oi := ?_) (v := undef) ?_ ?_ ?_ ?_ ?_ ?_ (by exact hHeld) ?_
       rotate_left 1
       ·(simp only [LX9]; try rfl)
       ·kernel_rfl
       ·kernel_rfl
       ·kernel_rfl
       ·exact fun _ _ _ h => h
       ·refine Or.inr ?_
        exact ⟨by rfl, rfl⟩
       (try simp only [LY9])
       refine wpAnyH_take (i := 17) (oi := ?_) (v := undef) ?_ ?_ ?_ ?_ ?_ ?_ (by exact hHeld) ?_
       rotate_left 1
       ·(simp only [LX9]; try rfl)
       ·kernel_rfl
       ·kernel_rfl
       ·kernel_rfl
       ·exact fun _ _ _ h => h
       ·refine Or.inr ?_
        exact ⟨by rfl, rfl⟩
       (try simp only [LY9])
       refine wpAnyH_take (i := 18) (oi := ?_) (v := ?_) ?_ ?_ ?_ ?_ ?_ ?_ (by exact hHeld) ?_
       rotate_left 2
       ·(simp only [LX9]; try rfl)
       ·kernel_rfl
       ·kernel_rfl
       ·kernel_rfl
       ·exact fun _ _ _ h => h
       ·refine Or.inl ⟨by rfl, ?_⟩
        (intro V hSV; (try dsimp only at hSV); obtain ⟨q0, q1, q2, q3, q4, q5, q6, q7, q8, q9, q10⟩ := hSV; go_simp; try with_reducible rfl)
       (try simp only [LY9])
       refine wpAnyH_take (i := 19) (oi := ?_) (v := ?_) ?_ ?_ ?_ ?_ ?_ ?_ (by exact hHeld) ?_
       rotate_left 2
       ·(simp only [LX9]; try rfl)
       ·kernel_rfl
       ·kernel_rfl
       ·kernel_rfl
       ·exact fun _ _ _ h => h
       ·refine Or.inl ⟨by rfl, ?_⟩
        (intro V hSV; (try dsimp only at hSV); obtain ⟨q0, q1, q2, q3, q4, q5, q6, q7, q8, q9, q10⟩ := hSV; go_simp; try with_reducible rfl)
       (try simp only [LY9])
       refine wpAnyH_take (i := 20) (oi := ?_) (v := ?_) ?_ ?_ ?_ ?_ ?_ ?_ (by exact hHeld) ?_
       rotate_left 2
       ·(simp only [LX9]; try rfl)
       ·kernel_rfl
       ·kernel_rfl
       ·kernel_rfl
       ·exact fun _ _ _ h => h
       ·refine Or.inl ⟨by rfl, ?_⟩
        (intro V hSV; (try dsimp only at hSV); obtain ⟨q0, q1, q2, q3, q4, q5, q6, q7, q8, q9, q10⟩ := hSV; go_simp; try with_reducible rfl)
       (try simp only [LY9])
       refine wpAnyH_take (i := 21) (oi := ?_) (v := ?_) ?_ ?_ ?_ ?_ ?_ ?_ (by exact hHeld) ?_
       rotate_left 2
       ·(simp only [LX9]; try rfl)
       ·kernel_rfl
       ·kernel_rfl
       ·kernel_rfl
       ·exact fun _ _ _ h => h
       ·refine Or.inl ⟨by rfl, ?_⟩
        (intro V hSV; (try dsimp only at hSV); obtain ⟨q0, q1, q2, q3, q4, q5, q6, q7, q8, q9, q10⟩ := hSV; go_simp; try with_reducible rfl)
       (try simp only [LY9])
       refine wpAnyH_take (i := 22) (oi := ?_) (v := ?_) ?_ ?_ ?_ ?_ ?_ ?_ (by exact hHeld) ?_
       rotate_left 2
       ·(simp only [LX9]; try rfl)
       ·kernel_rfl
       ·kernel_rfl
       ·kernel_rfl
       ·exact fun _ _ _ h => h
       ·refine Or.inl ⟨by rfl, ?_⟩
        (intro V hSV; (try dsimp only at hSV); obtain ⟨q0, q1, q2, q3, q4, q5, q6, q7, q8, q9, q10⟩ := hSV; go_simp; try with_reducible rfl)
       (try simp only [LY9])
       refine wpAnyH_take (i := 23) (oi := ?_) (v := ?_) ?_ ?_ ?_ ?_ ?_ ?_ (by exact hHeld) ?_
       rotate_left 2
       ·(simp only [LX9]; try rfl)
       ·kernel_rfl
       ·kernel_rfl
       ·kernel_rfl
       ·exact fun _ _ _ h => h
       ·refine Or.inl ⟨by rfl, ?_⟩
        (intro V hSV; (try dsimp only at hSV); obtain ⟨q0, q1, q2, q3, q4, q5, q6, q7, q8, q9, q10⟩ := hSV; go_simp; try with_reducible rfl)
       (try simp only [LY9])
       refine wpAnyH_take (i := 24) (oi := ?_) (v := ?_) ?_ ?_ ?_ ?_ ?_ ?_ (by exact hHeld) ?_
       rotate_left 2
       ·(simp only [LX9]; try rfl)
       ·kernel_rfl
       ·kernel_rfl
       ·kernel_rfl
       ·exact fun _ _ _ h => h
       ·refine Or.inl ⟨by rfl, ?_⟩
        (intro V hSV; (try dsimp only at hSV); obtain ⟨q0, q1, q2, q3, q4, q5, q6, q7, q8, q9, q10⟩ := hSV; go_simp; try with_reducible rfl)
       (try simp only [LY9])
       refine wpAnyH_ready (rs := [25]) (by kernel_rfl) (by simp) ?_
       refine AllReadyH.cons rfl (fun K hK => ?_) AllReadyH.nil
       go_simp
       refine (specSelOk_any a.t d.text a.ct f t _ HN.out.2.1 HN.out.2.2 (by exact HTS1.out)).mono ?_
       rintro e w7 ⟨rfl, hb⟩
       rw [H2.out]
       have hb : Below w6.heap.size w6 w7 := ⟨hb.os, hb.tape, hb.output, hb.size, hb.block⟩
       have HR2 := Lib.hid (below_then HR1.out hb)
       have HU2 := Lib.hid (HU1.out.below hb)
       have HQ2 := Lib.hid (HQ1.out.below hb)
       clear hb
       go_wp2_with fail
       refine hK.out _ _ (by exact ⟨((HR2.out).cell (p := ⟨w.heap.size, 0, none⟩) hlx).trans p0, ((HR2.out).cell (p := ⟨w.heap.size, 1, none⟩) hlx).trans p1, ((HR2.out).cell (p := ⟨w.heap.size, 2, none⟩) hlx).trans p2, ((HR2.out).cell (p := ⟨w.heap.size, 3, none⟩) hlx).trans p3, ((HR2.out).cell (p := ⟨w.heap.size, 4, none⟩) hlx).trans p4, ((HR2.out).cell (p := ⟨w.heap.size, 5, none⟩) hlx).trans p5, ((HR2.out).cell (p := ⟨wr.heap.size, 0, none⟩) hly).trans m0, ((HR2.out).cell (p := ⟨wr.heap.size, 1, none⟩) hly).trans m1, ((HR2.out).cell (p := ⟨wr.heap.size, 2, none⟩) hly).trans m2, ((HR2.out).cell (p := ⟨wr.heap.size, 3, none⟩) hly).trans m3, ((HR2.out).cell (p := ⟨wr.heap.size, 4, none⟩) hly).trans m4⟩) (fun hHeld => ?_)
       clear hK K
       (try simp only [LY9])
       refine wpAnyH_take (i := 26) (oi := ?_) (v := ?_) ?_ ?_ ?_ ?_ ?_ ?_ (by exact hHeld) ?_
       rotate_left 2
       ·(simp only [LX9]; try rfl)
       ·kernel_rfl
       ·kernel_rfl
       ·kernel_rfl
       ·exact fun _ _ _ h => h
       ·refine Or.inl ⟨by rfl, ?_⟩
        (intro V hSV; (try dsimp only at hSV); obtain ⟨q0, q1, q2, q3, q4, q5, q6, q7, q8, q9, q10⟩ := hSV; go_simp; try with_reducible rfl)
       (try simp only [LY9])
       refine wpAnyH_take (i := 27) (oi := ?_) (v := ?_) ?_ ?_ ?_ ?_ ?_ ?_ (by exact hHeld) ?_
       rotate_left 2
       ·(simp only [LX9]; try rfl)
       ·kernel_rfl
       ·kernel_rfl
       ·kernel_rfl
       ·exact fun _ _ _ h => h
       ·refine Or.inl ⟨by rfl, ?_⟩
        (intro V hSV; (try dsimp only at hSV); obtain ⟨q0, q1, q2, q3, q4, q5, q6, q7, q8, q9, q10⟩ := hSV; go_simp; try with_reducible rfl)
       (try simp only [LY9])
       refine wpAnyH_take (i := 28) (oi := ?_) (v := ?_) ?_ ?_ ?_ ?_ ?_ ?_ (by exact hHeld) ?_
       rotate_left 2
       ·(simp only [LX9]; try rfl)
       ·kernel_rfl
       ·kernel_rfl
       ·kernel_rfl
       ·exact fun _ _ _ h => h
       ·refine Or.inl ⟨by rfl, ?_⟩
        (intro V hSV; (try dsimp only at hSV); obtain ⟨q0, q1, q2, q3, q4, q5, q6, q7, q8, q9, q10⟩ := hSV; go_simp; try with_reducible rfl)
       (try simp only [LY9])
       refine wpAnyH_take (i := 29) (oi := ?_) (v := undef) ?_ ?_ ?_ ?_ ?_ ?_ (by exact hHeld) ?_
       rotate_left 1
       ·(simp only [LX9]; try rfl)
       ·kernel_rfl
       ·kernel_rfl
       ·kernel_rfl
       ·exact fun _ _ _ h => h
       ·refine Or.inr ?_
        exact ⟨by rfl, rfl⟩
       (try simp only [LY9])
       refine wpAnyH_take (i := 30) (oi := ?_) (v := undef) ?_ ?_ ?_ ?_ ?_ ?_ (by exact hHeld) ?_
       rotate_left 1
       ·(simp only [LX9]; try rfl)
       ·kernel_rfl
       ·kernel_rfl
       ·kernel_rfl
       ·exact fun _ _ _ h => h
       ·refine Or.inr ?_
        exact ⟨by rfl, rfl⟩
       (try simp only [LY9])
       refine wpAnyH_take (i := 31) (oi := ?_) (v := undef) ?_ ?_ ?_ ?_ ?_ ?_ (by exact hHeld) ?_
       rotate_left 1
       ·(simp only [LX9]; try rfl)
       ·kernel_rfl
       ·kernel_rfl
       ·kernel_rfl
       ·exact fun _ _ _ h => h
       ·refine Or.inr ?_
        exact ⟨by rfl, rfl⟩
       (try simp only [LY9])
       refine wpAnyH_take (i := 32) (oi := ?_) (v := undef) ?_ ?_ ?_ ?_ ?_ ?_ (by exact hHeld) ?_
       rotate_left 1
       ·(simp only [LX9]; try rfl)
       ·kernel_rfl
       ·kernel_rfl
       ·kernel_rfl
       ·exact fun _ _ _ h => h
       ·refine Or.inr ?_
        exact ⟨by rfl, rfl⟩
       (try simp only [LY9])
       refine wpAnyH_take (i := 33) (oi := ?_) (v := ?_) ?_ ?_ ?_ ?_ ?_ ?_ (by exact hHeld) ?_
       rotate_left 2
       ·(simp only [LX9]; try rfl)
       ·kernel_rfl
       ·kernel_rfl
       ·kernel_rfl
       ·exact fun _ _ _ h => h
       ·refine Or.inl ⟨by rfl, ?_⟩
        (intro V hSV; (try dsimp only at hSV); obtain ⟨q0, q1, q2, q3, q4, q5, q6, q7, q8, q9, q10⟩ := hSV; go_simp; try with_reducible rfl)
       (try simp only [LY9])
       refine wpAnyH_done (by kernel_rfl) ?_ _
       clear hHeld hlx hly p0 p1 p2 p3 p4 p5 m0 m1 m2 m3 m4
       have hb := HR2.out
       have BX := Lib.hid (BX.out.below hb)
       have MB := Lib.hid (MB.out.below hb)
       have HB := Lib.hid (below_then HB.out hb)
       have HU := Lib.hid (HU.out.below hb)
       have HQQ := Lib.hid (HQQ.out.below hb)
       clear hb
       have hmf : memOk d.text 0 d.mem = false := by rw [HST.out]; simp
       have e : R = false := by rw [← HR.out]; exact docOk_mem hmf
       subst e
       go_wp2
       go_ret
       exact ⟨rfl, HB.out⟩
      have hlx := BX.out.lt
      have hly := MB.out.lt
      have p0 := BX.out.cell 0
      have p1 := BX.out.cell 1
      have p2 := BX.out.cell 2
      have p3 := BX.out.cell 3
      have p4 := BX.out.cell 4
      have p5 := BX.out.cell 5
      have m0 := MB.out.cell 0
      have m1 := MB.out.cell 1
      have m2 := MB.out.cell 2
      have m3 := MB.out.cell 3
      have m4 := MB.out.cell 4
      refine wp_region_held_drew (S := (fun V => V.cell? ⟨w.heap.size, 0, none⟩ = some (.slice a.s d.start.length a.cs) ∧ V.cell? ⟨w.heap.size, 1, none⟩ = some (.slice a.t d.text.length a.ct) ∧ V.cell? ⟨w.heap.size, 2, none⟩ = some (.slice a.l d.log.length a.cl) ∧ V.cell? ⟨w.heap.size, 3, none⟩ = some (.int .i64 d.clock) ∧ V.cell? ⟨w.heap.size, 4, none⟩ = some (.slice a.m d.mem.length a.cm) ∧ V.cell? ⟨w.heap.size, 5, none⟩ = some (.slice a.e d.lea.length a.ce) ∧ V.cell? ⟨wr.heap.size, 0, none⟩ = some (.int .i64 s) ∧ V.cell? ⟨wr.heap.size, 1, none⟩ = some (.int .i64 f) ∧ V.cell? ⟨wr.heap.size, 2, none⟩ = some (.int .i64 t) ∧ V.cell? ⟨wr.heap.size, 3, none⟩ = some (.slice U u.length cu) ∧ V.cell? ⟨wr.heap.size, 4, none⟩ = some (.slice Q r.length cr))) (by kernel_rfl) (by exact ⟨p0, p1, p2, p3, p4, p5, m0, m1, m2, m3, m4⟩) (fun hHeld => ?_)
      refine wpAnyH_take (i := 0) (oi := ?_) (v := ?_) ?_ ?_ ?_ ?_ ?_ ?_ (by exact hHeld) ?_
      rotate_left 2
      ·(simp only [List.getElem?_toArray, List.getElem?_cons_zero]; try rfl)
      ·kernel_rfl
      ·kernel_rfl
      ·kernel_rfl
      ·exact fun _ _ _ h => h
      ·refine Or.inl ⟨by rfl, ?_⟩
       (intro V hSV; (try dsimp only at hSV); obtain ⟨q0, q1, q2, q3, q4, q5, q6, q7, q8, q9, q10⟩ := hSV; go_simp; try with_reducible rfl)
      (try simp only [LY9])
      refine wpAnyH_take (i := 1) (oi := ?_) (v := ?_) ?_ ?_ ?_ ?_ ?_ ?_ (by exact hHeld) ?_
      rotate_left 2
      ·(simp only [LX9]; try rfl)
      ·kernel_rfl
      ·kernel_rfl
      ·kernel_rfl
      ·exact fun _ _ _ h => h
      ·refine Or.inl ⟨by rfl, ?_⟩
       (intro V hSV; (try dsimp only at hSV); obtain ⟨q0, q1, q2, q3, q4, q5, q6, q7, q8, q9, q10⟩ := hSV; go_simp; try with_reducible rfl)
      (try simp only [LY9])
      refine wpAnyH_ready (rs := [2]) (by kernel_rfl) (by simp) ?_
      refine AllReadyH.cons rfl (fun K hK => ?_) AllReadyH.nil
      go_simp
      refine (l10Session_any s _).mono ?_
      rintro e w6 ⟨rfl, hb⟩
      rw [H1.out]
      have hb : Below W1.heap.size W1 w6 := ⟨hb.os, hb.tape, hb.output, hb.size, hb.block⟩
      have HR1 := Lib.hid hb
      have HTS1 := Lib.hid (HTS.out.below hb)
      have HU1 := Lib.hid (HU.out.below hb)
      have HQ1 := Lib.hid (HQQ.out.below hb)
      clear hb
      go_wp2_with fail
      refine hK.out _ _ (by exact ⟨((HR1.out).cell (p := ⟨w.heap.size, 0, none⟩) hlx).trans p0, ((HR1.out).cell (p := ⟨w.heap.size, 1, none⟩) hlx).trans p1, ((HR1.out).cell (p := ⟨w.heap.size, 2, none⟩) hlx).trans p2, ((HR1.out).cell (p := ⟨w.heap.size, 3, none⟩) hlx).trans p3, ((HR1.out).cell (p := ⟨w.heap.size, 4, none⟩) hlx).trans p4, ((HR1.out).cell (p := ⟨w.heap.size, 5, none⟩) hlx).trans p5, ((HR1.out).cell (p := ⟨wr.heap.size, 0, none⟩) hly).trans m0, ((HR1.out).cell (p := ⟨wr.heap.size, 1, none⟩) hly).trans m1, ((HR1.out).cell (p := ⟨wr.heap.size, 2, none⟩) hly).trans m2, ((HR1.out).cell (p := ⟨wr.heap.size, 3, none⟩) hly).trans m3, ((HR1.out).cell (p := ⟨wr.heap.size, 4, none⟩) hly).trans m4⟩) (fun hHeld => ?_)
      clear hK K
      (try simp only [LY9])
      refine wpAnyH_take (i := 3) (oi := ?_) (v := ?_) ?_ ?_ ?_ ?_ ?_ ?_ (by exact hHeld) ?_
      rotate_left 2
      ·(simp only [LX9]; try rfl)
      ·kernel_rfl
      ·kernel_rfl
      ·kernel_rfl
      ·exact fun _ _ _ h => h
      ·refine Or.inl ⟨by rfl, ?_⟩
       (intro V hSV; (try dsimp only at hSV); obtain ⟨q0, q1, q2, q3, q4, q5, q6, q7, q8, q9, q10⟩ := hSV; go_simp; try with_reducible rfl)
      (try simp only [LY9])
      refine wpAnyH_take (i := 4) (oi := ?_) (v := ?_) ?_ ?_ ?_ ?_ ?_ ?_ (by exact hHeld) ?_
      rotate_left 2
      ·(simp only [LX9]; try rfl)
      ·kernel_rfl
      ·kernel_rfl
      ·kernel_rfl
      ·exact fun _ _ _ h => h
      ·refine Or.inl ⟨by rfl, ?_⟩
       (intro V hSV; (try dsimp only at hSV); obtain ⟨q0, q1, q2, q3, q4, q5, q6, q7, q8, q9, q10⟩ := hSV; go_simp; try with_reducible rfl)
      (try simp only [LY9])
      refine wpAnyH_take (i := 5) (oi := ?_) (v := ?_) ?_ ?_ ?_ ?_ ?_ ?_ (by exact hHeld) ?_
      rotate_left 2
      ·(simp only [LX9]; try rfl)
      ·kernel_rfl
      ·kernel_rfl
      ·kernel_rfl
      ·exact fun _ _ _ h => h
      ·refine Or.inl ⟨by rfl, ?_⟩
       (intro V hSV; (try dsimp only at hSV); obtain ⟨q0, q1, q2, q3, q4, q5, q6, q7, q8, q9, q10⟩ := hSV; go_simp; try with_reducible rfl)
      (try simp only [LY9])
      refine wpAnyH_take (i := 6) (oi := ?_) (v := ?_) ?_ ?_ ?_ ?_ ?_ ?_ (by exact hHeld) ?_
      rotate_left 2
      ·(simp only [LX9]; try rfl)
      ·kernel_rfl
      ·kernel_rfl
      ·kernel_rfl
      ·exact fun _ _ _ h => h
      ·refine Or.inl ⟨by rfl, ?_⟩
       (intro V hSV; (try dsimp only at hSV); obtain ⟨q0, q1, q2, q3, q4, q5, q6, q7, q8, q9, q10⟩ := hSV; go_simp; try with_reducible rfl)
      (try simp only [LY9])
      refine wpAnyH_take (i := 7) (oi := ?_) (v := ?_) ?_ ?_ ?_ ?_ ?_ ?_ (by exact hHeld) ?_
      rotate_left 2
      ·(simp only [LX9]; try rfl)
      ·kernel_rfl
      ·kernel_rfl
      ·kernel_rfl
      ·exact fun _ _ _ h => h
      ·refine Or.inl ⟨by rfl, ?_⟩
       (intro V hSV; (try dsimp only at hSV); obtain ⟨q0, q1, q2, q3, q4, q5, q6, q7, q8, q9, q10⟩ := hSV; go_simp; try with_reducible rfl)
      (try simp only [LY9])
      refine wpAnyH_take (i := 8) (oi := ?_) (v := undef) ?_ ?_ ?_ ?_ ?_ ?_ (by exact hHeld) ?_
      rotate_left 1
      ·(simp only [LX9]; try rfl)
      ·kernel_rfl
      ·kernel_rfl
      ·kernel_rfl
      ·exact fun _ _ _ h => h
      ·refine Or.inr ?_
       exact ⟨by rfl, rfl⟩
      (try simp only [LY9])
      refine wpAnyH_take (i := 9) (oi := ?_) (v := undef) ?_ ?_ ?_ ?_ ?_ ?_ (by exact hHeld) ?_
      rotate_left 1
      ·(simp only [LX9]; try rfl)
      ·kernel_rfl
      ·kernel_rfl
      ·kernel_rfl
      ·exact fun _ _ _ h => h
      ·refine Or.inr ?_
       exact ⟨by rfl, rfl⟩
      (try simp only [LY9])
      refine wpAnyH_take (i := 10) (oi := ?_) (v := undef) ?_ ?_ ?_ ?_ ?_ ?_ (by exact hHeld) ?_
      rotate_left 1
      ·(simp only [LX9]; try rfl)
      ·kernel_rfl
      ·kernel_rfl
      ·kernel_rfl
      ·exact fun _ _ _ h => h
      ·refine Or.inr ?_
       exact ⟨by rfl, rfl⟩
      (try simp only [LY9])
      refine wpAnyH_take (i := 11) (oi := ?_) (v := undef) ?_ ?_ ?_ ?_ ?_ ?_ (by exact hHeld) ?_
      rotate_left 1
      ·(simp only [LX9]; try rfl)
      ·kernel_rfl
      ·kernel_rfl
      ·kernel_rfl
      ·exact fun _ _ _ h => h
      ·refine Or.inr ?_
       exact ⟨by rfl, rfl⟩
      (try simp only [LY9])
      refine wpAnyH_take (i := 12) (oi := ?_) (v := undef) ?_ ?_ ?_ ?_ ?_ ?_ (by exact hHeld) ?_
      rotate_left 1
      ·(simp only [LX9]; try rfl)
      ·kernel_rfl
      ·kernel_rfl
      ·kernel_rfl
      ·exact fun _ _ _ h => h
      ·refine Or.inr ?_
       exact ⟨by rfl, rfl⟩
      (try simp only [LY9])
      refine wpAnyH_take (i := 13) (oi := ?_) (v := undef) ?_ ?_ ?_ ?_ ?_ ?_ (by exact hHeld) ?_
      rotate_left 1
      ·(simp only [LX9]; try rfl)
      ·kernel_rfl
      ·kernel_rfl
      ·kernel_rfl
      ·exact fun _ _ _ h => h
      ·refine Or.inr ?_
       exact ⟨by rfl, rfl⟩
      (try simp only [LY9])
      refine wpAnyH_take (i := 14) (oi := ?_) (v := undef) ?_ ?_ ?_ ?_ ?_ ?_ (by exact hHeld) ?_
      rotate_left 1
      ·(simp only [LX9]; try rfl)
      ·kernel_rfl
      ·kernel_rfl
      ·kernel_rfl
      ·exact fun _ _ _ h => h
      ·refine Or.inr ?_
       exact ⟨by rfl, rfl⟩
      (try simp only [LY9])
      refine wpAnyH_take (i := 15) (oi := ?_) (v := undef) ?_ ?_ ?_ ?_ ?_ ?_ (by exact hHeld) ?_
      rotate_left 1
      ·(simp only [LX9]; try rfl)
      ·kernel_rfl
      ·kernel_rfl
      ·kernel_rfl
      ·exact fun _ _ _ h => h
      ·refine Or.inr ?_
       exact ⟨by rfl, rfl⟩
      (try simp only [LY9])
      refine wpAnyH_take (i := 16) (oi := ?_) (v := undef) ?_ ?_ ?_ ?_ ?_ ?_ (by exact hHeld) ?_
      rotate_left 1
      ·(simp only [LX9]; try rfl)
      ·kernel_rfl
      ·kernel_rfl
      ·kernel_rfl
      ·exact fun _ _ _ h => h
      ·refine Or.inr ?_
       exact ⟨by rfl, rfl⟩
      (try simp only [LY9])
      refine wpAnyH_take (i := 17) (oi := ?_) (v := undef) ?_ ?_ ?_ ?_ ?_ ?_ (by exact hHeld) ?_
      rotate_left 1
      ·(simp only [LX9]; try rfl)
      ·kernel_rfl
      ·kernel_rfl
      ·kernel_rfl
      ·exact fun _ _ _ h => h
      ·refine Or.inr ?_
       exact ⟨by rfl, rfl⟩
      (try simp only [LY9])
      refine wpAnyH_take (i := 18) (oi := ?_) (v := ?_) ?_ ?_ ?_ ?_ ?_ ?_ (by exact hHeld) ?_
      rotate_left 2
      ·(simp only [LX9]; try rfl)
      ·kernel_rfl
      ·kernel_rfl
      ·kernel_rfl
      ·exact fun _ _ _ h => h
      ·refine Or.inl ⟨by rfl, ?_⟩
       (intro V hSV; (try dsimp only at hSV); obtain ⟨q0, q1, q2, q3, q4, q5, q6, q7, q8, q9, q10⟩ := hSV; go_simp; try with_reducible rfl)
      (try simp only [LY9])
      refine wpAnyH_take (i := 19) (oi := ?_) (v := ?_) ?_ ?_ ?_ ?_ ?_ ?_ (by exact hHeld) ?_
      rotate_left 2
      ·(simp only [LX9]; try rfl)
      ·kernel_rfl
      ·kernel_rfl
      ·kernel_rfl
      ·exact fun _ _ _ h => h
      ·refine Or.inl ⟨by rfl, ?_⟩
       (intro V hSV; (try dsimp only at hSV); obtain ⟨q0, q1, q2, q3, q4, q5, q6, q7, q8, q9, q10⟩ := hSV; go_simp; try with_reducible rfl)
      (try simp only [LY9])
      refine wpAnyH_take (i := 20) (oi := ?_) (v := ?_) ?_ ?_ ?_ ?_ ?_ ?_ (by exact hHeld) ?_
      rotate_left 2
      ·(simp only [LX9]; try rfl)
      ·kernel_rfl
      ·kernel_rfl
      ·kernel_rfl
      ·exact fun _ _ _ h => h
      ·refine Or.inl ⟨by rfl, ?_⟩
       (intro V hSV; (try dsimp only at hSV); obtain ⟨q0, q1, q2, q3, q4, q5, q6, q7, q8, q9, q10⟩ := hSV; go_simp; try with_reducible rfl)
      (try simp only [LY9])
      refine wpAnyH_take (i := 21) (oi := ?_) (v := ?_) ?_ ?_ ?_ ?_ ?_ ?_ (by exact hHeld) ?_
      rotate_left 2
      ·(simp only [LX9]; try rfl)
      ·kernel_rfl
      ·kernel_rfl
      ·kernel_rfl
      ·exact fun _ _ _ h => h
      ·refine Or.inl ⟨by rfl, ?_⟩
       (intro V hSV; (try dsimp only at hSV); obtain ⟨q0, q1, q2, q3, q4, q5, q6, q7, q8, q9, q10⟩ := hSV; go_simp; try with_reducible rfl)
      (try simp only [LY9])
      refine wpAnyH_take (i := 22) (oi := ?_) (v := ?_) ?_ ?_ ?_ ?_ ?_ ?_ (by exact hHeld) ?_
      rotate_left 2
      ·(simp only [LX9]; try rfl)
      ·kernel_rfl
      ·kernel_rfl
      ·kernel_rfl
      ·exact fun _ _ _ h => h
      ·refine Or.inl ⟨by rfl, ?_⟩
       (intro V hSV; (try dsimp only at hSV); obtain ⟨q0, q1, q2, q3, q4, q5, q6, q7, q8, q9, q10⟩ := hSV; go_simp; try with_reducible rfl)
      (try simp only [LY9])
      refine wpAnyH_take (i := 23) (oi := ?_) (v := ?_) ?_ ?_ ?_ ?_ ?_ ?_ (by exact hHeld) ?_
      rotate_left 2
      ·(simp only [LX9]; try rfl)
      ·kernel_rfl
      ·kernel_rfl
      ·kernel_rfl
      ·exact fun _ _ _ h => h
      ·refine Or.inl ⟨by rfl, ?_⟩
       (intro V hSV; (try dsimp only at hSV); obtain ⟨q0, q1, q2, q3, q4, q5, q6, q7, q8, q9, q10⟩ := hSV; go_simp; try with_reducible rfl)
      (try simp only [LY9])
      refine wpAnyH_take (i := 24) (oi := ?_) (v := ?_) ?_ ?_ ?_ ?_ ?_ ?_ (by exact hHeld) ?_
      rotate_left 2
      ·(simp only [LX9]; try rfl)
      ·kernel_rfl
      ·kernel_rfl
      ·kernel_rfl
      ·exact fun _ _ _ h => h
      ·refine Or.inl ⟨by rfl, ?_⟩
       (intro V hSV; (try dsimp only at hSV); obtain ⟨q0, q1, q2, q3, q4, q5, q6, q7, q8, q9, q10⟩ := hSV; go_simp; try with_reducible rfl)
      (try simp only [LY9])
      refine wpAnyH_ready (rs := [25]) (by kernel_rfl) (by simp) ?_
      refine AllReadyH.cons rfl (fun K hK => ?_) AllReadyH.nil
      go_simp
      refine (specSelOk_any a.t d.text a.ct f t _ HN.out.2.1 HN.out.2.2 (by exact HTS1.out)).mono ?_
      rintro e w7 ⟨rfl, hb⟩
      rw [H2.out]
      have hb : Below w6.heap.size w6 w7 := ⟨hb.os, hb.tape, hb.output, hb.size, hb.block⟩
      have HR2 := Lib.hid (below_then HR1.out hb)
      have HU2 := Lib.hid (HU1.out.below hb)
      have HQ2 := Lib.hid (HQ1.out.below hb)
      clear hb
      go_wp2_with fail
      refine hK.out _ _ (by exact ⟨((HR2.out).cell (p := ⟨w.heap.size, 0, none⟩) hlx).trans p0, ((HR2.out).cell (p := ⟨w.heap.size, 1, none⟩) hlx).trans p1, ((HR2.out).cell (p := ⟨w.heap.size, 2, none⟩) hlx).trans p2, ((HR2.out).cell (p := ⟨w.heap.size, 3, none⟩) hlx).trans p3, ((HR2.out).cell (p := ⟨w.heap.size, 4, none⟩) hlx).trans p4, ((HR2.out).cell (p := ⟨w.heap.size, 5, none⟩) hlx).trans p5, ((HR2.out).cell (p := ⟨wr.heap.size, 0, none⟩) hly).trans m0, ((HR2.out).cell (p := ⟨wr.heap.size, 1, none⟩) hly).trans m1, ((HR2.out).cell (p := ⟨wr.heap.size, 2, none⟩) hly).trans m2, ((HR2.out).cell (p := ⟨wr.heap.size, 3, none⟩) hly).trans m3, ((HR2.out).cell (p := ⟨wr.heap.size, 4, none⟩) hly).trans m4⟩) (fun hHeld => ?_)
      clear hK K
      (try simp only [LY9])
      refine wpAnyH_take (i := 26) (oi := ?_) (v := ?_) ?_ ?_ ?_ ?_ ?_ ?_ (by exact hHeld) ?_
      rotate_left 2
      ·(simp only [LX9]; try rfl)
      ·kernel_rfl
      ·kernel_rfl
      ·kernel_rfl
      ·exact fun _ _ _ h => h
      ·refine Or.inl ⟨by rfl, ?_⟩
       (intro V hSV; (try dsimp only at hSV); obtain ⟨q0, q1, q2, q3, q4, q5, q6, q7, q8, q9, q10⟩ := hSV; go_simp; try with_reducible rfl)
      (try simp only [LY9])
      refine wpAnyH_take (i := 27) (oi := ?_) (v := ?_) ?_ ?_ ?_ ?_ ?_ ?_ (by exact hHeld) ?_
      rotate_left 2
      ·(simp only [LX9]; try rfl)
      ·kernel_rfl
      ·kernel_rfl
      ·kernel_rfl
      ·exact fun _ _ _ h => h
      ·refine Or.inl ⟨by rfl, ?_⟩
       (intro V hSV; (try dsimp only at hSV); obtain ⟨q0, q1, q2, q3, q4, q5, q6, q7, q8, q9, q10⟩ := hSV; go_simp; try with_reducible rfl)
      (try simp only [LY9])
      refine wpAnyH_take (i := 28) (oi := ?_) (v := ?_) ?_ ?_ ?_ ?_ ?_ ?_ (by exact hHeld) ?_
      rotate_left 2
      ·(simp only [LX9]; try rfl)
      ·kernel_rfl
      ·kernel_rfl
      ·kernel_rfl
      ·exact fun _ _ _ h => h
      ·refine Or.inl ⟨by rfl, ?_⟩
       (intro V hSV; (try dsimp only at hSV); obtain ⟨q0, q1, q2, q3, q4, q5, q6, q7, q8, q9, q10⟩ := hSV; go_simp; try with_reducible rfl)
      (try simp only [LY9])
      refine wpAnyH_take (i := 29) (oi := ?_) (v := ?_) ?_ ?_ ?_ ?_ ?_ ?_ (by exact hHeld) ?_
      rotate_left 2
      ·(simp only [LX9]; try rfl)
      ·kernel_rfl
      ·kernel_rfl
      ·kernel_rfl
      ·exact fun _ _ _ h => h
      ·refine Or.inl ⟨by rfl, ?_⟩
       (intro V hSV; (try dsimp only at hSV); obtain ⟨q0, q1, q2, q3, q4, q5, q6, q7, q8, q9, q10⟩ := hSV; go_simp; try with_reducible rfl)
      (try simp only [LY9])
      refine wpAnyH_take (i := 30) (oi := ?_) (v := ?_) ?_ ?_ ?_ ?_ ?_ ?_ (by exact hHeld) ?_
      rotate_left 2
      ·(simp only [LX9]; try rfl)
      ·kernel_rfl
      ·kernel_rfl
      ·kernel_rfl
      ·exact fun _ _ _ h => h
      ·refine Or.inl ⟨by rfl, ?_⟩
       (intro V hSV; (try dsimp only at hSV); obtain ⟨q0, q1, q2, q3, q4, q5, q6, q7, q8, q9, q10⟩ := hSV; go_simp; try with_reducible rfl)
      (try simp only [LY9])
      refine wpAnyH_ready (rs := [31]) (by kernel_rfl) (by simp) ?_
      refine AllReadyH.cons rfl (fun K hK => ?_) AllReadyH.nil
      go_simp
      refine (specStackOk_any U Q u r cu cr _ hu9 hr9 (by exact HU2.out) (by exact HQ2.out)).mono ?_
      rintro e w8 ⟨rfl, hb⟩
      rw [H3.out]
      have hb : Below w7.heap.size w7 w8 := ⟨hb.os, hb.tape, hb.output, hb.size, hb.block⟩
      have HR3 := Lib.hid (below_then HR2.out hb)
      clear hb
      go_wp2_with fail
      refine hK.out _ _ (by exact ⟨((HR3.out).cell (p := ⟨w.heap.size, 0, none⟩) hlx).trans p0, ((HR3.out).cell (p := ⟨w.heap.size, 1, none⟩) hlx).trans p1, ((HR3.out).cell (p := ⟨w.heap.size, 2, none⟩) hlx).trans p2, ((HR3.out).cell (p := ⟨w.heap.size, 3, none⟩) hlx).trans p3, ((HR3.out).cell (p := ⟨w.heap.size, 4, none⟩) hlx).trans p4, ((HR3.out).cell (p := ⟨w.heap.size, 5, none⟩) hlx).trans p5, ((HR3.out).cell (p := ⟨wr.heap.size, 0, none⟩) hly).trans m0, ((HR3.out).cell (p := ⟨wr.heap.size, 1, none⟩) hly).trans m1, ((HR3.out).cell (p := ⟨wr.heap.size, 2, none⟩) hly).trans m2, ((HR3.out).cell (p := ⟨wr.heap.size, 3, none⟩) hly).trans m3, ((HR3.out).cell (p := ⟨wr.heap.size, 4, none⟩) hly).trans m4⟩) (fun hHeld => ?_)
      clear hK K
      (try simp only [LY9])
      refine wpAnyH_take (i := 32) (oi := ?_) (v := ?_) ?_ ?_ ?_ ?_ ?_ ?_ (by exact hHeld) ?_
      rotate_left 2
      ·(simp only [LX9]; try rfl)
      ·kernel_rfl
      ·kernel_rfl
      ·kernel_rfl
      ·exact fun _ _ _ h => h
      ·refine Or.inl ⟨by rfl, ?_⟩
       (intro V hSV; (try dsimp only at hSV); obtain ⟨q0, q1, q2, q3, q4, q5, q6, q7, q8, q9, q10⟩ := hSV; go_simp; try with_reducible rfl)
      (try simp only [LY9])
      refine wpAnyH_take (i := 33) (oi := ?_) (v := ?_) ?_ ?_ ?_ ?_ ?_ ?_ (by exact hHeld) ?_
      rotate_left 2
      ·(simp only [LX9]; try rfl)
      ·kernel_rfl
      ·kernel_rfl
      ·kernel_rfl
      ·exact fun _ _ _ h => h
      ·refine Or.inl ⟨by rfl, ?_⟩
       (intro V hSV; (try dsimp only at hSV); obtain ⟨q0, q1, q2, q3, q4, q5, q6, q7, q8, q9, q10⟩ := hSV; go_simp; try with_reducible rfl)
      (try simp only [LY9])
      refine wpAnyH_done (by kernel_rfl) ?_ _
      clear hHeld hlx hly p0 p1 p2 p3 p4 p5 m0 m1 m2 m3 m4
      have hb := HR3.out
      have BX := Lib.hid (BX.out.below hb)
      have MB := Lib.hid (MB.out.below hb)
      have HB := Lib.hid (below_then HB.out hb)
      have HU := Lib.hid (HU.out.below hb)
      have HQQ := Lib.hid (HQQ.out.below hb)
      clear hb
      cases q3
      ·skip
       have hmf : memOk d.text 0 d.mem = false := by rw [HST.out]; simp
       have e : R = false := by rw [← HR.out]; exact docOk_mem hmf
       subst e
       go_wp2
       go_ret
       exact ⟨rfl, HB.out⟩
      have p1 := BX.out.cell 1
      have m3 := MB.out.cell 3
      have m4 := MB.out.cell 4
      go_wp2_with fail
      refine (l10FitAll_any a.t d.text a.ct U u cu _ HN.out.2.1 HN.out.2.2 hu9 HTX.out (HK.out _ HB.out).t HU.out).mono ?_
      rintro e w9 ⟨rfl, hb⟩
      rw [H4.out]
      have BX := Lib.hid (BX.out.below hb)
      have MB := Lib.hid (MB.out.below hb)
      have HQQ := Lib.hid (HQQ.out.below hb)
      have HB := Lib.hid (below_then HB.out hb)
      clear hb
      clear p1 m3 m4
      cases q4
      ·skip
       have hmf : memOk d.text 0 d.mem = false := by rw [HST.out]; simp
       have e : R = false := by rw [← HR.out]; exact docOk_mem hmf
       subst e
       go_wp2
       go_ret
       exact ⟨rfl, HB.out⟩
      have p1 := BX.out.cell 1
      have m3 := MB.out.cell 3
      have m4 := MB.out.cell 4
      go_wp2_with fail
      refine (l10FitAll_any a.t d.text a.ct Q r cr _ HN.out.2.1 HN.out.2.2 hr9 HTX.out (HK.out _ HB.out).t HQQ.out).mono ?_
      rintro e w10 ⟨rfl, hb⟩
      rw [H5.out]
      have BX := Lib.hid (BX.out.below hb)
      have HB := Lib.hid (below_then HB.out hb)
      clear hb
      clear p1 m3 m4
      cases q5
      ·skip
       have hmf : memOk d.text 0 d.mem = false := by rw [HST.out]; simp
       have e : R = false := by rw [← HR.out]; exact docOk_mem hmf
       subst e
       go_wp2
       go_ret
       exact ⟨rfl, HB.out⟩
      have HMN := Lib.hid (show memOk d.text 0 d.mem = memOk d.text (lastS d.mem (k + 1)) (d.mem.drop (k + 1)) by rw [HST.out, show decide (la < s) = true from decide_eq_true (by omega), HSU.out]; rfl)
      go_wp2
      go_roundw
      case rel => exact ⟨k + 1, by omega, by go_num, HMN, HB.out, BX.out⟩
      case measure => simp [intOf]; omega
     ·have hgz : decide ((k : Int) > 0) = true := decide_eq_true (by omega)
      have hk1 : 0 < k := by omega
      have hk2 : (0 : Int) < (k : Int) := by omega
      have hk3 : decide (0 < k) = true := decide_eq_true hk1
      have hk4 : decide ((0 : Int) < (k : Int)) = true := decide_eq_true hk2
      have hkm : IntKind.i64.wrap ((k : Int) - 1) = ((k - 1 : Nat) : Int) := by rw [IntWalk.i64_in _ ⟨by omega, by omega⟩]; omega
      obtain ⟨b', off', ps, f', t', U', u', cu', Q', r', cr', hA', hlz, hek', pc, _⟩ := (HK.out _ HB.out).m.at_ (k - 1) (by omega)
      have hbo : b = b' ∧ off = off' := by
       have h9 := HAM.out.symm.trans hA'
       simp only [Option.some.injEq, Addr.mk.injEq] at h9
       exact ⟨h9.1, h9.2.1⟩
      obtain ⟨rfl, rfl⟩ := hbo
      have hps : ps = la := by
       have h9 := lastS_succ d.mem (k - 1) (by omega)
       rw [hek', show k - 1 + 1 = k by omega, HLA.out] at h9
       exact h9.symm
      have hkm2 : ((k - 1 : Nat) : Int) < (d.mem.length : Int) := by omega
      have hkm0 : (0 : Int) ≤ ((k - 1 : Nat) : Int) := by omega
      have HPS := Lib.hid hps
      clear hA' hek' hps
      by_cases hls : la < s
      rotate_left 1
      ·have hge : decide (ps ≥ s) = true := decide_eq_true (by rw [HPS.out]; omega)
       have hge2 : s ≤ ps := by rw [HPS.out]; omega
       have hge3 : decide (s ≤ ps) = true := decide_eq_true hge2
       have hlx := BX.out.lt
       have hly := MB.out.lt
       have p0 := BX.out.cell 0
       have p1 := BX.out.cell 1
       have p2 := BX.out.cell 2
       have p3 := BX.out.cell 3
       have p4 := BX.out.cell 4
       have p5 := BX.out.cell 5
       have m0 := MB.out.cell 0
       have m1 := MB.out.cell 1
       have m2 := MB.out.cell 2
       have m3 := MB.out.cell 3
       have m4 := MB.out.cell 4
       rw [HAM.out] at p4
       refine wp_region_held_drew (S := (fun V => V.cell? ⟨w.heap.size, 0, none⟩ = some (.slice a.s d.start.length a.cs) ∧ V.cell? ⟨w.heap.size, 1, none⟩ = some (.slice a.t d.text.length a.ct) ∧ V.cell? ⟨w.heap.size, 2, none⟩ = some (.slice a.l d.log.length a.cl) ∧ V.cell? ⟨w.heap.size, 3, none⟩ = some (.int .i64 d.clock) ∧ V.cell? ⟨w.heap.size, 4, none⟩ = some (.slice (some ⟨b, off, none⟩) d.mem.length a.cm) ∧ V.cell? ⟨w.heap.size, 5, none⟩ = some (.slice a.e d.lea.length a.ce) ∧ V.cell? ⟨wr.heap.size, 0, none⟩ = some (.int .i64 s) ∧ V.cell? ⟨wr.heap.size, 1, none⟩ = some (.int .i64 f) ∧ V.cell? ⟨wr.heap.size, 2, none⟩ = some (.int .i64 t) ∧ V.cell? ⟨wr.heap.size, 3, none⟩ = some (.slice U u.length cu) ∧ V.cell? ⟨wr.heap.size, 4, none⟩ = some (.slice Q r.length cr) ∧ V.cell? ⟨b, off + (k - 1) * 5, none⟩ = some (.int .i64 ps))) (by kernel_rfl) (by exact ⟨p0, p1, p2, p3, p4, p5, m0, m1, m2, m3, m4, pc⟩) (fun hHeld => ?_)
       refine wpAnyH_take (i := 0) (oi := ?_) (v := ?_) ?_ ?_ ?_ ?_ ?_ ?_ (by exact hHeld) ?_
       rotate_left 2
       ·(simp only [List.getElem?_toArray, List.getElem?_cons_zero]; try rfl)
       ·kernel_rfl
       ·kernel_rfl
       ·kernel_rfl
       ·exact fun _ _ _ h => h
       ·refine Or.inl ⟨by rfl, ?_⟩
        (intro V hSV; (try dsimp only at hSV); obtain ⟨q0, q1, q2, q3, q4, q5, q6, q7, q8, q9, q10, q11⟩ := hSV; go_simp; try with_reducible rfl)
       (try simp only [LY9])
       refine wpAnyH_take (i := 1) (oi := ?_) (v := ?_) ?_ ?_ ?_ ?_ ?_ ?_ (by exact hHeld) ?_
       rotate_left 2
       ·(simp only [LX9]; try rfl)
       ·kernel_rfl
       ·kernel_rfl
       ·kernel_rfl
       ·exact fun _ _ _ h => h
       ·refine Or.inl ⟨by rfl, ?_⟩
        (intro V hSV; (try dsimp only at hSV); obtain ⟨q0, q1, q2, q3, q4, q5, q6, q7, q8, q9, q10, q11⟩ := hSV; go_simp; try with_reducible rfl)
       (try simp only [LY9])
       refine wpAnyH_ready (rs := [2]) (by kernel_rfl) (by simp) ?_
       refine AllReadyH.cons rfl (fun K hK => ?_) AllReadyH.nil
       go_simp
       refine (l10Session_any s _).mono ?_
       rintro e w6 ⟨rfl, hb⟩
       rw [H1.out]
       have hb : Below W1.heap.size W1 w6 := ⟨hb.os, hb.tape, hb.output, hb.size, hb.block⟩
       have HR1 := Lib.hid hb
       have HTS1 := Lib.hid (HTS.out.below hb)
       have HU1 := Lib.hid (HU.out.below hb)
       have HQ1 := Lib.hid (HQQ.out.below hb)
       clear hb
       go_wp2_with fail
       refine hK.out _ _ (by exact ⟨((HR1.out).cell (p := ⟨w.heap.size, 0, none⟩) hlx).trans p0, ((HR1.out).cell (p := ⟨w.heap.size, 1, none⟩) hlx).trans p1, ((HR1.out).cell (p := ⟨w.heap.size, 2, none⟩) hlx).trans p2, ((HR1.out).cell (p := ⟨w.heap.size, 3, none⟩) hlx).trans p3, ((HR1.out).cell (p := ⟨w.heap.size, 4, none⟩) hlx).trans p4, ((HR1.out).cell (p := ⟨w.heap.size, 5, none⟩) hlx).trans p5, ((HR1.out).cell (p := ⟨wr.heap.size, 0, none⟩) hly).trans m0, ((HR1.out).cell (p := ⟨wr.heap.size, 1, none⟩) hly).trans m1, ((HR1.out).cell (p := ⟨wr.heap.size, 2, none⟩) hly).trans m2, ((HR1.out).cell (p := ⟨wr.heap.size, 3, none⟩) hly).trans m3, ((HR1.out).cell (p := ⟨wr.heap.size, 4, none⟩) hly).trans m4, ((HR1.out).cell (p := ⟨b, off + (k - 1) * 5, none⟩) hlz).trans pc⟩) (fun hHeld => ?_)
       clear hK K
       (try simp only [LY9])
       refine wpAnyH_take (i := 3) (oi := ?_) (v := ?_) ?_ ?_ ?_ ?_ ?_ ?_ (by exact hHeld) ?_
       rotate_left 2
       ·(simp only [LX9]; try rfl)
       ·kernel_rfl
       ·kernel_rfl
       ·kernel_rfl
       ·exact fun _ _ _ h => h
       ·refine Or.inl ⟨by rfl, ?_⟩
        (intro V hSV; (try dsimp only at hSV); obtain ⟨q0, q1, q2, q3, q4, q5, q6, q7, q8, q9, q10, q11⟩ := hSV; go_simp; try with_reducible rfl)
       (try simp only [LY9])
       refine wpAnyH_take (i := 4) (oi := ?_) (v := ?_) ?_ ?_ ?_ ?_ ?_ ?_ (by exact hHeld) ?_
       rotate_left 2
       ·(simp only [LX9]; try rfl)
       ·kernel_rfl
       ·kernel_rfl
       ·kernel_rfl
       ·exact fun _ _ _ h => h
       ·refine Or.inl ⟨by rfl, ?_⟩
        (intro V hSV; (try dsimp only at hSV); obtain ⟨q0, q1, q2, q3, q4, q5, q6, q7, q8, q9, q10, q11⟩ := hSV; go_simp; try with_reducible rfl)
       (try simp only [LY9])
       refine wpAnyH_take (i := 5) (oi := ?_) (v := ?_) ?_ ?_ ?_ ?_ ?_ ?_ (by exact hHeld) ?_
       rotate_left 2
       ·(simp only [LX9]; try rfl)
       ·kernel_rfl
       ·kernel_rfl
       ·kernel_rfl
       ·exact fun _ _ _ h => h
       ·refine Or.inl ⟨by rfl, ?_⟩
        (intro V hSV; (try dsimp only at hSV); obtain ⟨q0, q1, q2, q3, q4, q5, q6, q7, q8, q9, q10, q11⟩ := hSV; go_simp; try with_reducible rfl)
       (try simp only [LY9])
       refine wpAnyH_take (i := 6) (oi := ?_) (v := ?_) ?_ ?_ ?_ ?_ ?_ ?_ (by exact hHeld) ?_
       rotate_left 2
       ·(simp only [LX9]; try rfl)
       ·kernel_rfl
       ·kernel_rfl
       ·kernel_rfl
       ·exact fun _ _ _ h => h
       ·refine Or.inl ⟨by rfl, ?_⟩
        (intro V hSV; (try dsimp only at hSV); obtain ⟨q0, q1, q2, q3, q4, q5, q6, q7, q8, q9, q10, q11⟩ := hSV; go_simp; try with_reducible rfl)
       (try simp only [LY9])
       refine wpAnyH_take (i := 7) (oi := ?_) (v := ?_) ?_ ?_ ?_ ?_ ?_ ?_ (by exact hHeld) ?_
       rotate_left 2
       ·(simp only [LX9]; try rfl)
       ·kernel_rfl
       ·kernel_rfl
       ·kernel_rfl
       ·exact fun _ _ _ h => h
       ·refine Or.inl ⟨by rfl, ?_⟩
        (intro V hSV; (try dsimp only at hSV); obtain ⟨q0, q1, q2, q3, q4, q5, q6, q7, q8, q9, q10, q11⟩ := hSV; go_simp; try with_reducible rfl)
       (try simp only [LY9])
       refine wpAnyH_take (i := 8) (oi := ?_) (v := ?_) ?_ ?_ ?_ ?_ ?_ ?_ (by exact hHeld) ?_
       rotate_left 2
       ·(simp only [LX9]; try rfl)
       ·kernel_rfl
       ·kernel_rfl
       ·kernel_rfl
       ·exact fun _ _ _ h => h
       ·refine Or.inl ⟨by rfl, ?_⟩
        (intro V hSV; (try dsimp only at hSV); obtain ⟨q0, q1, q2, q3, q4, q5, q6, q7, q8, q9, q10, q11⟩ := hSV; go_simp; try with_reducible rfl)
       (try simp only [LY9])
       refine wpAnyH_take (i := 9) (oi := ?_) (v := ?_) ?_ ?_ ?_ ?_ ?_ ?_ (by exact hHeld) ?_
       rotate_left 2
       ·(simp only [LX9]; try rfl)
       ·kernel_rfl
       ·kernel_rfl
       ·kernel_rfl
       ·exact fun _ _ _ h => h
       ·refine Or.inl ⟨by rfl, ?_⟩
        (intro V hSV; (try dsimp only at hSV); obtain ⟨q0, q1, q2, q3, q4, q5, q6, q7, q8, q9, q10, q11⟩ := hSV; go_simp; try with_reducible rfl)
       (try simp only [LY9])
       refine wpAnyH_take (i := 10) (oi := ?_) (v := ?_) ?_ ?_ ?_ ?_ ?_ ?_ (by exact hHeld) ?_
       rotate_left 2
       ·(simp only [LX9]; try rfl)
       ·kernel_rfl
       ·kernel_rfl
       ·kernel_rfl
       ·exact fun _ _ _ h => h
       ·refine Or.inl ⟨by rfl, ?_⟩
        (intro V hSV; (try dsimp only at hSV); obtain ⟨q0, q1, q2, q3, q4, q5, q6, q7, q8, q9, q10, q11⟩ := hSV; go_simp; try with_reducible rfl)
       (try simp only [LY9])
       refine wpAnyH_take (i := 11) (oi := ?_) (v := ?_) ?_ ?_ ?_ ?_ ?_ ?_ (by exact hHeld) ?_
       rotate_left 2
       ·(simp only [LX9]; try rfl)
       ·kernel_rfl
       ·kernel_rfl
       ·kernel_rfl
       ·exact fun _ _ _ h => h
       ·refine Or.inl ⟨by rfl, ?_⟩
        (intro V hSV; (try dsimp only at hSV); obtain ⟨q0, q1, q2, q3, q4, q5, q6, q7, q8, q9, q10, q11⟩ := hSV; go_simp; try with_reducible rfl)
       (try simp only [LY9])
       refine wpAnyH_take (i := 12) (oi := ?_) (v := ?_) ?_ ?_ ?_ ?_ ?_ ?_ (by exact hHeld) ?_
       rotate_left 2
       ·(simp only [LX9]; try rfl)
       ·kernel_rfl
       ·kernel_rfl
       ·kernel_rfl
       ·exact fun _ _ _ h => h
       ·refine Or.inl ⟨by rfl, ?_⟩
        (intro V hSV; (try dsimp only at hSV); obtain ⟨q0, q1, q2, q3, q4, q5, q6, q7, q8, q9, q10, q11⟩ := hSV; go_simp; try with_reducible rfl)
       (try simp only [LY9])
       refine wpAnyH_take (i := 13) (oi := ?_) (v := ?_) ?_ ?_ ?_ ?_ ?_ ?_ (by exact hHeld) ?_
       rotate_left 2
       ·(simp only [LX9]; try rfl)
       ·kernel_rfl
       ·kernel_rfl
       ·kernel_rfl
       ·exact fun _ _ _ h => h
       ·refine Or.inl ⟨by rfl, ?_⟩
        (intro V hSV; (try dsimp only at hSV); obtain ⟨q0, q1, q2, q3, q4, q5, q6, q7, q8, q9, q10, q11⟩ := hSV; go_simp; try with_reducible rfl)
       (try simp only [LY9])
       refine wpAnyH_take (i := 14) (oi := ?_) (v := ?_) ?_ ?_ ?_ ?_ ?_ ?_ (by exact hHeld) ?_
       rotate_left 2
       ·(simp only [LX9]; try rfl)
       ·kernel_rfl
       ·kernel_rfl
       ·kernel_rfl
       ·exact fun _ _ _ h => h
       ·refine Or.inl ⟨by rfl, ?_⟩
        (intro V hSV; (try dsimp only at hSV); obtain ⟨q0, q1, q2, q3, q4, q5, q6, q7, q8, q9, q10, q11⟩ := hSV; go_simp; try with_reducible rfl)
       (try simp only [LY9])
       refine wpAnyH_take (i := 15) (oi := ?_) (v := ?_) ?_ ?_ ?_ ?_ ?_ ?_ (by exact hHeld) ?_
       rotate_left 2
       ·(simp only [LX9]; try rfl)
       ·kernel_rfl
       ·kernel_rfl
       ·kernel_rfl
       ·exact fun _ _ _ h => h
       ·refine Or.inl ⟨by rfl, ?_⟩
        (intro V hSV; (try dsimp only at hSV); obtain ⟨q0, q1, q2, q3, q4, q5, q6, q7, q8, q9, q10, q11⟩ := hSV; go_simp; try with_reducible rfl)
       (try simp only [LY9])
       refine wpAnyH_take (i := 16) (oi := ?_) (v := ?_) ?_ ?_ ?_ ?_ ?_ ?_ (by exact hHeld) ?_
       rotate_left 2
       ·(simp only [LX9]; try rfl)
       ·kernel_rfl
       ·kernel_rfl
       ·kernel_rfl
       ·exact fun _ _ _ h => h
       ·refine Or.inl ⟨by rfl, ?_⟩
        (intro V hSV; (try dsimp only at hSV); obtain ⟨q0, q1, q2, q3, q4, q5, q6, q7, q8, q9, q10, q11⟩ := hSV; go_simp; try with_reducible rfl)
       (try simp only [LY9])
       refine wpAnyH_take (i := 17) (oi := ?_) (v := ?_) ?_ ?_ ?_ ?_ ?_ ?_ (by exact hHeld) ?_
       rotate_left 2
       ·(simp only [LX9]; try rfl)
       ·kernel_rfl
       ·kernel_rfl
       ·kernel_rfl
       ·exact fun _ _ _ h => h
       ·refine Or.inl ⟨by rfl, ?_⟩
        (intro V hSV; (try dsimp only at hSV); obtain ⟨q0, q1, q2, q3, q4, q5, q6, q7, q8, q9, q10, q11⟩ := hSV; go_simp; try with_reducible rfl)
       (try simp only [LY9])
       refine wpAnyH_take (i := 18) (oi := ?_) (v := ?_) ?_ ?_ ?_ ?_ ?_ ?_ (by exact hHeld) ?_
       rotate_left 2
       ·(simp only [LX9]; try rfl)
       ·kernel_rfl
       ·kernel_rfl
       ·kernel_rfl
       ·exact fun _ _ _ h => h
       ·refine Or.inl ⟨by rfl, ?_⟩
        (intro V hSV; (try dsimp only at hSV); obtain ⟨q0, q1, q2, q3, q4, q5, q6, q7, q8, q9, q10, q11⟩ := hSV; go_simp; try with_reducible rfl)
       (try simp only [LY9])
       refine wpAnyH_take (i := 19) (oi := ?_) (v := ?_) ?_ ?_ ?_ ?_ ?_ ?_ (by exact hHeld) ?_
       rotate_left 2
       ·(simp only [LX9]; try rfl)
       ·kernel_rfl
       ·kernel_rfl
       ·kernel_rfl
       ·exact fun _ _ _ h => h
       ·refine Or.inl ⟨by rfl, ?_⟩
        (intro V hSV; (try dsimp only at hSV); obtain ⟨q0, q1, q2, q3, q4, q5, q6, q7, q8, q9, q10, q11⟩ := hSV; go_simp; try with_reducible rfl)
       (try simp only [LY9])
       refine wpAnyH_take (i := 20) (oi := ?_) (v := ?_) ?_ ?_ ?_ ?_ ?_ ?_ (by exact hHeld) ?_
       rotate_left 2
       ·(simp only [LX9]; try rfl)
       ·kernel_rfl
       ·kernel_rfl
       ·kernel_rfl
       ·exact fun _ _ _ h => h
       ·refine Or.inl ⟨by rfl, ?_⟩
        (intro V hSV; (try dsimp only at hSV); obtain ⟨q0, q1, q2, q3, q4, q5, q6, q7, q8, q9, q10, q11⟩ := hSV; go_simp; try with_reducible rfl)
       (try simp only [LY9])
       refine wpAnyH_take (i := 21) (oi := ?_) (v := undef) ?_ ?_ ?_ ?_ ?_ ?_ (by exact hHeld) ?_
       rotate_left 1
       ·(simp only [LX9]; try rfl)
       ·kernel_rfl
       ·kernel_rfl
       ·kernel_rfl
       ·exact fun _ _ _ h => h
       ·refine Or.inr ?_
        exact ⟨by rfl, rfl⟩
       (try simp only [LY9])
       refine wpAnyH_take (i := 22) (oi := ?_) (v := undef) ?_ ?_ ?_ ?_ ?_ ?_ (by exact hHeld) ?_
       rotate_left 1
       ·(simp only [LX9]; try rfl)
       ·kernel_rfl
       ·kernel_rfl
       ·kernel_rfl
       ·exact fun _ _ _ h => h
       ·refine Or.inr ?_
        exact ⟨by rfl, rfl⟩
       (try simp only [LY9])
       refine wpAnyH_take (i := 23) (oi := ?_) (v := undef) ?_ ?_ ?_ ?_ ?_ ?_ (by exact hHeld) ?_
       rotate_left 1
       ·(simp only [LX9]; try rfl)
       ·kernel_rfl
       ·kernel_rfl
       ·kernel_rfl
       ·exact fun _ _ _ h => h
       ·refine Or.inr ?_
        exact ⟨by rfl, rfl⟩
       (try simp only [LY9])
       refine wpAnyH_take (i := 24) (oi := ?_) (v := undef) ?_ ?_ ?_ ?_ ?_ ?_ (by exact hHeld) ?_
       rotate_left 1
       ·(simp only [LX9]; try rfl)
       ·kernel_rfl
       ·kernel_rfl
       ·kernel_rfl
       ·exact fun _ _ _ h => h
       ·refine Or.inr ?_
        exact ⟨by rfl, rfl⟩
       (try simp only [LY9])
       refine wpAnyH_take (i := 25) (oi := ?_) (v := undef) ?_ ?_ ?_ ?_ ?_ ?_ (by exact hHeld) ?_
       rotate_left 1
       ·(simp only [LX9]; try rfl)
       ·kernel_rfl
       ·kernel_rfl
       ·kernel_rfl
       ·exact fun _ _ _ h => h
       ·refine Or.inr ?_
        exact ⟨by rfl, rfl⟩
       (try simp only [LY9])
       refine wpAnyH_take (i := 26) (oi := ?_) (v := undef) ?_ ?_ ?_ ?_ ?_ ?_ (by exact hHeld) ?_
       rotate_left 1
       ·(simp only [LX9]; try rfl)
       ·kernel_rfl
       ·kernel_rfl
       ·kernel_rfl
       ·exact fun _ _ _ h => h
       ·refine Or.inr ?_
        exact ⟨by rfl, rfl⟩
       (try simp only [LY9])
       refine wpAnyH_take (i := 27) (oi := ?_) (v := ?_) ?_ ?_ ?_ ?_ ?_ ?_ (by exact hHeld) ?_
       rotate_left 2
       ·(simp only [LX9]; try rfl)
       ·kernel_rfl
       ·kernel_rfl
       ·kernel_rfl
       ·exact fun _ _ _ h => h
       ·refine Or.inl ⟨by rfl, ?_⟩
        (intro V hSV; (try dsimp only at hSV); obtain ⟨q0, q1, q2, q3, q4, q5, q6, q7, q8, q9, q10, q11⟩ := hSV; go_simp; try with_reducible rfl)
       (try simp only [LY9])
       refine wpAnyH_take (i := 28) (oi := ?_) (v := ?_) ?_ ?_ ?_ ?_ ?_ ?_ (by exact hHeld) ?_
       rotate_left 2
       ·(simp only [LX9]; try rfl)
       ·kernel_rfl
       ·kernel_rfl
       ·kernel_rfl
       ·exact fun _ _ _ h => h
       ·refine Or.inl ⟨by rfl, ?_⟩
        (intro V hSV; (try dsimp only at hSV); obtain ⟨q0, q1, q2, q3, q4, q5, q6, q7, q8, q9, q10, q11⟩ := hSV; go_simp; try with_reducible rfl)
       (try simp only [LY9])
       refine wpAnyH_take (i := 29) (oi := ?_) (v := undef) ?_ ?_ ?_ ?_ ?_ ?_ (by exact hHeld) ?_
       rotate_left 1
       ·(simp only [LX9]; try rfl)
       ·kernel_rfl
       ·kernel_rfl
       ·kernel_rfl
       ·exact fun _ _ _ h => h
       ·refine Or.inr ?_
        exact ⟨by rfl, rfl⟩
       (try simp only [LY9])
       refine wpAnyH_take (i := 30) (oi := ?_) (v := undef) ?_ ?_ ?_ ?_ ?_ ?_ (by exact hHeld) ?_
       rotate_left 1
       ·(simp only [LX9]; try rfl)
       ·kernel_rfl
       ·kernel_rfl
       ·kernel_rfl
       ·exact fun _ _ _ h => h
       ·refine Or.inr ?_
        exact ⟨by rfl, rfl⟩
       (try simp only [LY9])
       refine wpAnyH_take (i := 31) (oi := ?_) (v := undef) ?_ ?_ ?_ ?_ ?_ ?_ (by exact hHeld) ?_
       rotate_left 1
       ·(simp only [LX9]; try rfl)
       ·kernel_rfl
       ·kernel_rfl
       ·kernel_rfl
       ·exact fun _ _ _ h => h
       ·refine Or.inr ?_
        exact ⟨by rfl, rfl⟩
       (try simp only [LY9])
       refine wpAnyH_take (i := 32) (oi := ?_) (v := undef) ?_ ?_ ?_ ?_ ?_ ?_ (by exact hHeld) ?_
       rotate_left 1
       ·(simp only [LX9]; try rfl)
       ·kernel_rfl
       ·kernel_rfl
       ·kernel_rfl
       ·exact fun _ _ _ h => h
       ·refine Or.inr ?_
        exact ⟨by rfl, rfl⟩
       (try simp only [LY9])
       refine wpAnyH_take (i := 33) (oi := ?_) (v := ?_) ?_ ?_ ?_ ?_ ?_ ?_ (by exact hHeld) ?_
       rotate_left 2
       ·(simp only [LX9]; try rfl)
       ·kernel_rfl
       ·kernel_rfl
       ·kernel_rfl
       ·exact fun _ _ _ h => h
       ·refine Or.inl ⟨by rfl, ?_⟩
        (intro V hSV; (try dsimp only at hSV); obtain ⟨q0, q1, q2, q3, q4, q5, q6, q7, q8, q9, q10, q11⟩ := hSV; go_simp; try with_reducible rfl)
       (try simp only [LY9])
       refine wpAnyH_done (by kernel_rfl) ?_ _
       clear hHeld hlx hly p0 p1 p2 p3 p4 p5 m0 m1 m2 m3 m4 pc hlz
       have hb := HR1.out
       have BX := Lib.hid (BX.out.below hb)
       have MB := Lib.hid (MB.out.below hb)
       have HB := Lib.hid (below_then HB.out hb)
       have HU := Lib.hid (HU.out.below hb)
       have HQQ := Lib.hid (HQQ.out.below hb)
       clear hb
       have hmf : memOk d.text 0 d.mem = false := by rw [HST.out, show decide (la < s) = false from decide_eq_false (by omega)]; simp
       have e : R = false := by rw [← HR.out]; exact docOk_mem hmf
       subst e
       go_wp2
       go_ret
       exact ⟨rfl, HB.out⟩
      have hge : decide (ps ≥ s) = false := decide_eq_false (by rw [HPS.out]; omega)
      have hge2 : ¬ s ≤ ps := by rw [HPS.out]; omega
      have hge3 : decide (s ≤ ps) = false := decide_eq_false hge2
      cases q2
      ·skip
       have hlx := BX.out.lt
       have hly := MB.out.lt
       have p0 := BX.out.cell 0
       have p1 := BX.out.cell 1
       have p2 := BX.out.cell 2
       have p3 := BX.out.cell 3
       have p4 := BX.out.cell 4
       have p5 := BX.out.cell 5
       have m0 := MB.out.cell 0
       have m1 := MB.out.cell 1
       have m2 := MB.out.cell 2
       have m3 := MB.out.cell 3
       have m4 := MB.out.cell 4
       rw [HAM.out] at p4
       refine wp_region_held_drew (S := (fun V => V.cell? ⟨w.heap.size, 0, none⟩ = some (.slice a.s d.start.length a.cs) ∧ V.cell? ⟨w.heap.size, 1, none⟩ = some (.slice a.t d.text.length a.ct) ∧ V.cell? ⟨w.heap.size, 2, none⟩ = some (.slice a.l d.log.length a.cl) ∧ V.cell? ⟨w.heap.size, 3, none⟩ = some (.int .i64 d.clock) ∧ V.cell? ⟨w.heap.size, 4, none⟩ = some (.slice (some ⟨b, off, none⟩) d.mem.length a.cm) ∧ V.cell? ⟨w.heap.size, 5, none⟩ = some (.slice a.e d.lea.length a.ce) ∧ V.cell? ⟨wr.heap.size, 0, none⟩ = some (.int .i64 s) ∧ V.cell? ⟨wr.heap.size, 1, none⟩ = some (.int .i64 f) ∧ V.cell? ⟨wr.heap.size, 2, none⟩ = some (.int .i64 t) ∧ V.cell? ⟨wr.heap.size, 3, none⟩ = some (.slice U u.length cu) ∧ V.cell? ⟨wr.heap.size, 4, none⟩ = some (.slice Q r.length cr) ∧ V.cell? ⟨b, off + (k - 1) * 5, none⟩ = some (.int .i64 ps))) (by kernel_rfl) (by exact ⟨p0, p1, p2, p3, p4, p5, m0, m1, m2, m3, m4, pc⟩) (fun hHeld => ?_)
       refine wpAnyH_take (i := 0) (oi := ?_) (v := ?_) ?_ ?_ ?_ ?_ ?_ ?_ (by exact hHeld) ?_
       rotate_left 2
       ·(simp only [List.getElem?_toArray, List.getElem?_cons_zero]; try rfl)
       ·kernel_rfl
       ·kernel_rfl
       ·kernel_rfl
       ·exact fun _ _ _ h => h
       ·refine Or.inl ⟨by rfl, ?_⟩
        (intro V hSV; (try dsimp only at hSV); obtain ⟨q0, q1, q2, q3, q4, q5, q6, q7, q8, q9, q10, q11⟩ := hSV; go_simp; try with_reducible rfl)
       (try simp only [LY9])
       refine wpAnyH_take (i := 1) (oi := ?_) (v := ?_) ?_ ?_ ?_ ?_ ?_ ?_ (by exact hHeld) ?_
       rotate_left 2
       ·(simp only [LX9]; try rfl)
       ·kernel_rfl
       ·kernel_rfl
       ·kernel_rfl
       ·exact fun _ _ _ h => h
       ·refine Or.inl ⟨by rfl, ?_⟩
        (intro V hSV; (try dsimp only at hSV); obtain ⟨q0, q1, q2, q3, q4, q5, q6, q7, q8, q9, q10, q11⟩ := hSV; go_simp; try with_reducible rfl)
       (try simp only [LY9])
       refine wpAnyH_ready (rs := [2]) (by kernel_rfl) (by simp) ?_
       refine AllReadyH.cons rfl (fun K hK => ?_) AllReadyH.nil
       go_simp
       refine (l10Session_any s _).mono ?_
       rintro e w6 ⟨rfl, hb⟩
       rw [H1.out]
       have hb : Below W1.heap.size W1 w6 := ⟨hb.os, hb.tape, hb.output, hb.size, hb.block⟩
       have HR1 := Lib.hid hb
       have HTS1 := Lib.hid (HTS.out.below hb)
       have HU1 := Lib.hid (HU.out.below hb)
       have HQ1 := Lib.hid (HQQ.out.below hb)
       clear hb
       go_wp2_with fail
       refine hK.out _ _ (by exact ⟨((HR1.out).cell (p := ⟨w.heap.size, 0, none⟩) hlx).trans p0, ((HR1.out).cell (p := ⟨w.heap.size, 1, none⟩) hlx).trans p1, ((HR1.out).cell (p := ⟨w.heap.size, 2, none⟩) hlx).trans p2, ((HR1.out).cell (p := ⟨w.heap.size, 3, none⟩) hlx).trans p3, ((HR1.out).cell (p := ⟨w.heap.size, 4, none⟩) hlx).trans p4, ((HR1.out).cell (p := ⟨w.heap.size, 5, none⟩) hlx).trans p5, ((HR1.out).cell (p := ⟨wr.heap.size, 0, none⟩) hly).trans m0, ((HR1.out).cell (p := ⟨wr.heap.size, 1, none⟩) hly).trans m1, ((HR1.out).cell (p := ⟨wr.heap.size, 2, none⟩) hly).trans m2, ((HR1.out).cell (p := ⟨wr.heap.size, 3, none⟩) hly).trans m3, ((HR1.out).cell (p := ⟨wr.heap.size, 4, none⟩) hly).trans m4, ((HR1.out).cell (p := ⟨b, off + (k - 1) * 5, none⟩) hlz).trans pc⟩) (fun hHeld => ?_)
       clear hK K
       (try simp only [LY9])
       refine wpAnyH_take (i := 3) (oi := ?_) (v := ?_) ?_ ?_ ?_ ?_ ?_ ?_ (by exact hHeld) ?_
       rotate_left 2
       ·(simp only [LX9]; try rfl)
       ·kernel_rfl
       ·kernel_rfl
       ·kernel_rfl
       ·exact fun _ _ _ h => h
       ·refine Or.inl ⟨by rfl, ?_⟩
        (intro V hSV; (try dsimp only at hSV); obtain ⟨q0, q1, q2, q3, q4, q5, q6, q7, q8, q9, q10, q11⟩ := hSV; go_simp; try with_reducible rfl)
       (try simp only [LY9])
       refine wpAnyH_take (i := 4) (oi := ?_) (v := ?_) ?_ ?_ ?_ ?_ ?_ ?_ (by exact hHeld) ?_
       rotate_left 2
       ·(simp only [LX9]; try rfl)
       ·kernel_rfl
       ·kernel_rfl
       ·kernel_rfl
       ·exact fun _ _ _ h => h
       ·refine Or.inl ⟨by rfl, ?_⟩
        (intro V hSV; (try dsimp only at hSV); obtain ⟨q0, q1, q2, q3, q4, q5, q6, q7, q8, q9, q10, q11⟩ := hSV; go_simp; try with_reducible rfl)
       (try simp only [LY9])
       refine wpAnyH_take (i := 5) (oi := ?_) (v := ?_) ?_ ?_ ?_ ?_ ?_ ?_ (by exact hHeld) ?_
       rotate_left 2
       ·(simp only [LX9]; try rfl)
       ·kernel_rfl
       ·kernel_rfl
       ·kernel_rfl
       ·exact fun _ _ _ h => h
       ·refine Or.inl ⟨by rfl, ?_⟩
        (intro V hSV; (try dsimp only at hSV); obtain ⟨q0, q1, q2, q3, q4, q5, q6, q7, q8, q9, q10, q11⟩ := hSV; go_simp; try with_reducible rfl)
       (try simp only [LY9])
       refine wpAnyH_take (i := 6) (oi := ?_) (v := ?_) ?_ ?_ ?_ ?_ ?_ ?_ (by exact hHeld) ?_
       rotate_left 2
       ·(simp only [LX9]; try rfl)
       ·kernel_rfl
       ·kernel_rfl
       ·kernel_rfl
       ·exact fun _ _ _ h => h
       ·refine Or.inl ⟨by rfl, ?_⟩
        (intro V hSV; (try dsimp only at hSV); obtain ⟨q0, q1, q2, q3, q4, q5, q6, q7, q8, q9, q10, q11⟩ := hSV; go_simp; try with_reducible rfl)
       (try simp only [LY9])
       refine wpAnyH_take (i := 7) (oi := ?_) (v := ?_) ?_ ?_ ?_ ?_ ?_ ?_ (by exact hHeld) ?_
       rotate_left 2
       ·(simp only [LX9]; try rfl)
       ·kernel_rfl
       ·kernel_rfl
       ·kernel_rfl
       ·exact fun _ _ _ h => h
       ·refine Or.inl ⟨by rfl, ?_⟩
        (intro V hSV; (try dsimp only at hSV); obtain ⟨q0, q1, q2, q3, q4, q5, q6, q7, q8, q9, q10, q11⟩ := hSV; go_simp; try with_reducible rfl)
       (try simp only [LY9])
       refine wpAnyH_take (i := 8) (oi := ?_) (v := ?_) ?_ ?_ ?_ ?_ ?_ ?_ (by exact hHeld) ?_
       rotate_left 2
       ·(simp only [LX9]; try rfl)
       ·kernel_rfl
       ·kernel_rfl
       ·kernel_rfl
       ·exact fun _ _ _ h => h
       ·refine Or.inl ⟨by rfl, ?_⟩
        (intro V hSV; (try dsimp only at hSV); obtain ⟨q0, q1, q2, q3, q4, q5, q6, q7, q8, q9, q10, q11⟩ := hSV; go_simp; try with_reducible rfl)
       (try simp only [LY9])
       refine wpAnyH_take (i := 9) (oi := ?_) (v := ?_) ?_ ?_ ?_ ?_ ?_ ?_ (by exact hHeld) ?_
       rotate_left 2
       ·(simp only [LX9]; try rfl)
       ·kernel_rfl
       ·kernel_rfl
       ·kernel_rfl
       ·exact fun _ _ _ h => h
       ·refine Or.inl ⟨by rfl, ?_⟩
        (intro V hSV; (try dsimp only at hSV); obtain ⟨q0, q1, q2, q3, q4, q5, q6, q7, q8, q9, q10, q11⟩ := hSV; go_simp; try with_reducible rfl)
       (try simp only [LY9])
       refine wpAnyH_take (i := 10) (oi := ?_) (v := ?_) ?_ ?_ ?_ ?_ ?_ ?_ (by exact hHeld) ?_
       rotate_left 2
       ·(simp only [LX9]; try rfl)
       ·kernel_rfl
       ·kernel_rfl
       ·kernel_rfl
       ·exact fun _ _ _ h => h
       ·refine Or.inl ⟨by rfl, ?_⟩
        (intro V hSV; (try dsimp only at hSV); obtain ⟨q0, q1, q2, q3, q4, q5, q6, q7, q8, q9, q10, q11⟩ := hSV; go_simp; try with_reducible rfl)
       (try simp only [LY9])
       refine wpAnyH_take (i := 11) (oi := ?_) (v := ?_) ?_ ?_ ?_ ?_ ?_ ?_ (by exact hHeld) ?_
       rotate_left 2
       ·(simp only [LX9]; try rfl)
       ·kernel_rfl
       ·kernel_rfl
       ·kernel_rfl
       ·exact fun _ _ _ h => h
       ·refine Or.inl ⟨by rfl, ?_⟩
        (intro V hSV; (try dsimp only at hSV); obtain ⟨q0, q1, q2, q3, q4, q5, q6, q7, q8, q9, q10, q11⟩ := hSV; go_simp; try with_reducible rfl)
       (try simp only [LY9])
       refine wpAnyH_take (i := 12) (oi := ?_) (v := ?_) ?_ ?_ ?_ ?_ ?_ ?_ (by exact hHeld) ?_
       rotate_left 2
       ·(simp only [LX9]; try rfl)
       ·kernel_rfl
       ·kernel_rfl
       ·kernel_rfl
       ·exact fun _ _ _ h => h
       ·refine Or.inl ⟨by rfl, ?_⟩
        (intro V hSV; (try dsimp only at hSV); obtain ⟨q0, q1, q2, q3, q4, q5, q6, q7, q8, q9, q10, q11⟩ := hSV; go_simp; try with_reducible rfl)
       (try simp only [LY9])
       refine wpAnyH_take (i := 13) (oi := ?_) (v := ?_) ?_ ?_ ?_ ?_ ?_ ?_ (by exact hHeld) ?_
       rotate_left 2
       ·(simp only [LX9]; try rfl)
       ·kernel_rfl
       ·kernel_rfl
       ·kernel_rfl
       ·exact fun _ _ _ h => h
       ·refine Or.inl ⟨by rfl, ?_⟩
        (intro V hSV; (try dsimp only at hSV); obtain ⟨q0, q1, q2, q3, q4, q5, q6, q7, q8, q9, q10, q11⟩ := hSV; go_simp; try with_reducible rfl)
       (try simp only [LY9])
       refine wpAnyH_take (i := 14) (oi := ?_) (v := ?_) ?_ ?_ ?_ ?_ ?_ ?_ (by exact hHeld) ?_
       rotate_left 2
       ·(simp only [LX9]; try rfl)
       ·kernel_rfl
       ·kernel_rfl
       ·kernel_rfl
       ·exact fun _ _ _ h => h
       ·refine Or.inl ⟨by rfl, ?_⟩
        (intro V hSV; (try dsimp only at hSV); obtain ⟨q0, q1, q2, q3, q4, q5, q6, q7, q8, q9, q10, q11⟩ := hSV; go_simp; try with_reducible rfl)
       (try simp only [LY9])
       refine wpAnyH_take (i := 15) (oi := ?_) (v := ?_) ?_ ?_ ?_ ?_ ?_ ?_ (by exact hHeld) ?_
       rotate_left 2
       ·(simp only [LX9]; try rfl)
       ·kernel_rfl
       ·kernel_rfl
       ·kernel_rfl
       ·exact fun _ _ _ h => h
       ·refine Or.inl ⟨by rfl, ?_⟩
        (intro V hSV; (try dsimp only at hSV); obtain ⟨q0, q1, q2, q3, q4, q5, q6, q7, q8, q9, q10, q11⟩ := hSV; go_simp; try with_reducible rfl)
       (try simp only [LY9])
       refine wpAnyH_take (i := 16) (oi := ?_) (v := ?_) ?_ ?_ ?_ ?_ ?_ ?_ (by exact hHeld) ?_
       rotate_left 2
       ·(simp only [LX9]; try rfl)
       ·kernel_rfl
       ·kernel_rfl
       ·kernel_rfl
       ·exact fun _ _ _ h => h
       ·refine Or.inl ⟨by rfl, ?_⟩
        (intro V hSV; (try dsimp only at hSV); obtain ⟨q0, q1, q2, q3, q4, q5, q6, q7, q8, q9, q10, q11⟩ := hSV; go_simp; try with_reducible rfl)
       (try simp only [LY9])
       refine wpAnyH_take (i := 17) (oi := ?_) (v := ?_) ?_ ?_ ?_ ?_ ?_ ?_ (by exact hHeld) ?_
       rotate_left 2
       ·(simp only [LX9]; try rfl)
       ·kernel_rfl
       ·kernel_rfl
       ·kernel_rfl
       ·exact fun _ _ _ h => h
       ·refine Or.inl ⟨by rfl, ?_⟩
        (intro V hSV; (try dsimp only at hSV); obtain ⟨q0, q1, q2, q3, q4, q5, q6, q7, q8, q9, q10, q11⟩ := hSV; go_simp; try with_reducible rfl)
       (try simp only [LY9])
       refine wpAnyH_take (i := 18) (oi := ?_) (v := ?_) ?_ ?_ ?_ ?_ ?_ ?_ (by exact hHeld) ?_
       rotate_left 2
       ·(simp only [LX9]; try rfl)
       ·kernel_rfl
       ·kernel_rfl
       ·kernel_rfl
       ·exact fun _ _ _ h => h
       ·refine Or.inl ⟨by rfl, ?_⟩
        (intro V hSV; (try dsimp only at hSV); obtain ⟨q0, q1, q2, q3, q4, q5, q6, q7, q8, q9, q10, q11⟩ := hSV; go_simp; try with_reducible rfl)
       (try simp only [LY9])
       refine wpAnyH_take (i := 19) (oi := ?_) (v := ?_) ?_ ?_ ?_ ?_ ?_ ?_ (by exact hHeld) ?_
       rotate_left 2
       ·(simp only [LX9]; try rfl)
       ·kernel_rfl
       ·kernel_rfl
       ·kernel_rfl
       ·exact fun _ _ _ h => h
       ·refine Or.inl ⟨by rfl, ?_⟩
        (intro V hSV; (try dsimp only at hSV); obtain ⟨q0, q1, q2, q3, q4, q5, q6, q7, q8, q9, q10, q11⟩ := hSV; go_simp; try with_reducible rfl)
       (try simp only [LY9])
       refine wpAnyH_take (i := 20) (oi := ?_) (v := ?_) ?_ ?_ ?_ ?_ ?_ ?_ (by exact hHeld) ?_
       rotate_left 2
       ·(simp only [LX9]; try rfl)
       ·kernel_rfl
       ·kernel_rfl
       ·kernel_rfl
       ·exact fun _ _ _ h => h
       ·refine Or.inl ⟨by rfl, ?_⟩
        (intro V hSV; (try dsimp only at hSV); obtain ⟨q0, q1, q2, q3, q4, q5, q6, q7, q8, q9, q10, q11⟩ := hSV; go_simp; try with_reducible rfl)
       (try simp only [LY9])
       refine wpAnyH_take (i := 21) (oi := ?_) (v := ?_) ?_ ?_ ?_ ?_ ?_ ?_ (by exact hHeld) ?_
       rotate_left 2
       ·(simp only [LX9]; try rfl)
       ·kernel_rfl
       ·kernel_rfl
       ·kernel_rfl
       ·exact fun _ _ _ h => h
       ·refine Or.inl ⟨by rfl, ?_⟩
        (intro V hSV; (try dsimp only at hSV); obtain ⟨q0, q1, q2, q3, q4, q5, q6, q7, q8, q9, q10, q11⟩ := hSV; go_simp; try with_reducible rfl)
       (try simp only [LY9])
       refine wpAnyH_take (i := 22) (oi := ?_) (v := ?_) ?_ ?_ ?_ ?_ ?_ ?_ (by exact hHeld) ?_
       rotate_left 2
       ·(simp only [LX9]; try rfl)
       ·kernel_rfl
       ·kernel_rfl
       ·kernel_rfl
       ·exact fun _ _ _ h => h
       ·refine Or.inl ⟨by rfl, ?_⟩
        (intro V hSV; (try dsimp only at hSV); obtain ⟨q0, q1, q2, q3, q4, q5, q6, q7, q8, q9, q10, q11⟩ := hSV; go_simp; try with_reducible rfl)
       (try simp only [LY9])
       refine wpAnyH_take (i := 23) (oi := ?_) (v := ?_) ?_ ?_ ?_ ?_ ?_ ?_ (by exact hHeld) ?_
       rotate_left 2
       ·(simp only [LX9]; try rfl)
       ·kernel_rfl
       ·kernel_rfl
       ·kernel_rfl
       ·exact fun _ _ _ h => h
       ·refine Or.inl ⟨by rfl, ?_⟩
        (intro V hSV; (try dsimp only at hSV); obtain ⟨q0, q1, q2, q3, q4, q5, q6, q7, q8, q9, q10, q11⟩ := hSV; go_simp; try with_reducible rfl)
       (try simp only [LY9])
       refine wpAnyH_take (i := 24) (oi := ?_) (v := ?_) ?_ ?_ ?_ ?_ ?_ ?_ (by exact hHeld) ?_
       rotate_left 2
       ·(simp only [LX9]; try rfl)
       ·kernel_rfl
       ·kernel_rfl
       ·kernel_rfl
       ·exact fun _ _ _ h => h
       ·refine Or.inl ⟨by rfl, ?_⟩
        (intro V hSV; (try dsimp only at hSV); obtain ⟨q0, q1, q2, q3, q4, q5, q6, q7, q8, q9, q10, q11⟩ := hSV; go_simp; try with_reducible rfl)
       (try simp only [LY9])
       refine wpAnyH_ready (rs := [25]) (by kernel_rfl) (by simp) ?_
       refine AllReadyH.cons rfl (fun K hK => ?_) AllReadyH.nil
       go_simp
       refine (specSelOk_any a.t d.text a.ct f t _ HN.out.2.1 HN.out.2.2 (by exact HTS1.out)).mono ?_
       rintro e w7 ⟨rfl, hb⟩
       rw [H2.out]
       have hb : Below w6.heap.size w6 w7 := ⟨hb.os, hb.tape, hb.output, hb.size, hb.block⟩
       have HR2 := Lib.hid (below_then HR1.out hb)
       have HU2 := Lib.hid (HU1.out.below hb)
       have HQ2 := Lib.hid (HQ1.out.below hb)
       clear hb
       go_wp2_with fail
       refine hK.out _ _ (by exact ⟨((HR2.out).cell (p := ⟨w.heap.size, 0, none⟩) hlx).trans p0, ((HR2.out).cell (p := ⟨w.heap.size, 1, none⟩) hlx).trans p1, ((HR2.out).cell (p := ⟨w.heap.size, 2, none⟩) hlx).trans p2, ((HR2.out).cell (p := ⟨w.heap.size, 3, none⟩) hlx).trans p3, ((HR2.out).cell (p := ⟨w.heap.size, 4, none⟩) hlx).trans p4, ((HR2.out).cell (p := ⟨w.heap.size, 5, none⟩) hlx).trans p5, ((HR2.out).cell (p := ⟨wr.heap.size, 0, none⟩) hly).trans m0, ((HR2.out).cell (p := ⟨wr.heap.size, 1, none⟩) hly).trans m1, ((HR2.out).cell (p := ⟨wr.heap.size, 2, none⟩) hly).trans m2, ((HR2.out).cell (p := ⟨wr.heap.size, 3, none⟩) hly).trans m3, ((HR2.out).cell (p := ⟨wr.heap.size, 4, none⟩) hly).trans m4, ((HR2.out).cell (p := ⟨b, off + (k - 1) * 5, none⟩) hlz).trans pc⟩) (fun hHeld => ?_)
       clear hK K
       (try simp only [LY9])
       refine wpAnyH_take (i := 26) (oi := ?_) (v := ?_) ?_ ?_ ?_ ?_ ?_ ?_ (by exact hHeld) ?_
       rotate_left 2
       ·(simp only [LX9]; try rfl)
       ·kernel_rfl
       ·kernel_rfl
       ·kernel_rfl
       ·exact fun _ _ _ h => h
       ·refine Or.inl ⟨by rfl, ?_⟩
        (intro V hSV; (try dsimp only at hSV); obtain ⟨q0, q1, q2, q3, q4, q5, q6, q7, q8, q9, q10, q11⟩ := hSV; go_simp; try with_reducible rfl)
       (try simp only [LY9])
       refine wpAnyH_take (i := 27) (oi := ?_) (v := ?_) ?_ ?_ ?_ ?_ ?_ ?_ (by exact hHeld) ?_
       rotate_left 2
       ·(simp only [LX9]; try rfl)
       ·kernel_rfl
       ·kernel_rfl
       ·kernel_rfl
       ·exact fun _ _ _ h => h
       ·refine Or.inl ⟨by rfl, ?_⟩
        (intro V hSV; (try dsimp only at hSV); obtain ⟨q0, q1, q2, q3, q4, q5, q6, q7, q8, q9, q10, q11⟩ := hSV; go_simp; try with_reducible rfl)
       (try simp only [LY9])
       refine wpAnyH_take (i := 28) (oi := ?_) (v := ?_) ?_ ?_ ?_ ?_ ?_ ?_ (by exact hHeld) ?_
       rotate_left 2
       ·(simp only [LX9]; try rfl)
       ·kernel_rfl
       ·kernel_rfl
       ·kernel_rfl
       ·exact fun _ _ _ h => h
       ·refine Or.inl ⟨by rfl, ?_⟩
        (intro V hSV; (try dsimp only at hSV); obtain ⟨q0, q1, q2, q3, q4, q5, q6, q7, q8, q9, q10, q11⟩ := hSV; go_simp; try with_reducible rfl)
       (try simp only [LY9])
       refine wpAnyH_take (i := 29) (oi := ?_) (v := undef) ?_ ?_ ?_ ?_ ?_ ?_ (by exact hHeld) ?_
       rotate_left 1
       ·(simp only [LX9]; try rfl)
       ·kernel_rfl
       ·kernel_rfl
       ·kernel_rfl
       ·exact fun _ _ _ h => h
       ·refine Or.inr ?_
        exact ⟨by rfl, rfl⟩
       (try simp only [LY9])
       refine wpAnyH_take (i := 30) (oi := ?_) (v := undef) ?_ ?_ ?_ ?_ ?_ ?_ (by exact hHeld) ?_
       rotate_left 1
       ·(simp only [LX9]; try rfl)
       ·kernel_rfl
       ·kernel_rfl
       ·kernel_rfl
       ·exact fun _ _ _ h => h
       ·refine Or.inr ?_
        exact ⟨by rfl, rfl⟩
       (try simp only [LY9])
       refine wpAnyH_take (i := 31) (oi := ?_) (v := undef) ?_ ?_ ?_ ?_ ?_ ?_ (by exact hHeld) ?_
       rotate_left 1
       ·(simp only [LX9]; try rfl)
       ·kernel_rfl
       ·kernel_rfl
       ·kernel_rfl
       ·exact fun _ _ _ h => h
       ·refine Or.inr ?_
        exact ⟨by rfl, rfl⟩
       (try simp only [LY9])
       refine wpAnyH_take (i := 32) (oi := ?_) (v := undef) ?_ ?_ ?_ ?_ ?_ ?_ (by exact hHeld) ?_
       rotate_left 1
       ·(simp only [LX9]; try rfl)
       ·kernel_rfl
       ·kernel_rfl
       ·kernel_rfl
       ·exact fun _ _ _ h => h
       ·refine Or.inr ?_
        exact ⟨by rfl, rfl⟩
       (try simp only [LY9])
       refine wpAnyH_take (i := 33) (oi := ?_) (v := ?_) ?_ ?_ ?_ ?_ ?_ ?_ (by exact hHeld) ?_
       rotate_left 2
       ·(simp only [LX9]; try rfl)
       ·kernel_rfl
       ·kernel_rfl
       ·kernel_rfl
       ·exact fun _ _ _ h => h
       ·refine Or.inl ⟨by rfl, ?_⟩
        (intro V hSV; (try dsimp only at hSV); obtain ⟨q0, q1, q2, q3, q4, q5, q6, q7, q8, q9, q10, q11⟩ := hSV; go_simp; try with_reducible rfl)
       (try simp only [LY9])
       refine wpAnyH_done (by kernel_rfl) ?_ _
       clear hHeld hlx hly p0 p1 p2 p3 p4 p5 m0 m1 m2 m3 m4 pc hlz
       have hb := HR2.out
       have BX := Lib.hid (BX.out.below hb)
       have MB := Lib.hid (MB.out.below hb)
       have HB := Lib.hid (below_then HB.out hb)
       have HU := Lib.hid (HU.out.below hb)
       have HQQ := Lib.hid (HQQ.out.below hb)
       clear hb
       have hmf : memOk d.text 0 d.mem = false := by rw [HST.out]; simp
       have e : R = false := by rw [← HR.out]; exact docOk_mem hmf
       subst e
       go_wp2
       go_ret
       exact ⟨rfl, HB.out⟩
      have hlx := BX.out.lt
      have hly := MB.out.lt
      have p0 := BX.out.cell 0
      have p1 := BX.out.cell 1
      have p2 := BX.out.cell 2
      have p3 := BX.out.cell 3
      have p4 := BX.out.cell 4
      have p5 := BX.out.cell 5
      have m0 := MB.out.cell 0
      have m1 := MB.out.cell 1
      have m2 := MB.out.cell 2
      have m3 := MB.out.cell 3
      have m4 := MB.out.cell 4
      rw [HAM.out] at p4
      refine wp_region_held_drew (S := (fun V => V.cell? ⟨w.heap.size, 0, none⟩ = some (.slice a.s d.start.length a.cs) ∧ V.cell? ⟨w.heap.size, 1, none⟩ = some (.slice a.t d.text.length a.ct) ∧ V.cell? ⟨w.heap.size, 2, none⟩ = some (.slice a.l d.log.length a.cl) ∧ V.cell? ⟨w.heap.size, 3, none⟩ = some (.int .i64 d.clock) ∧ V.cell? ⟨w.heap.size, 4, none⟩ = some (.slice (some ⟨b, off, none⟩) d.mem.length a.cm) ∧ V.cell? ⟨w.heap.size, 5, none⟩ = some (.slice a.e d.lea.length a.ce) ∧ V.cell? ⟨wr.heap.size, 0, none⟩ = some (.int .i64 s) ∧ V.cell? ⟨wr.heap.size, 1, none⟩ = some (.int .i64 f) ∧ V.cell? ⟨wr.heap.size, 2, none⟩ = some (.int .i64 t) ∧ V.cell? ⟨wr.heap.size, 3, none⟩ = some (.slice U u.length cu) ∧ V.cell? ⟨wr.heap.size, 4, none⟩ = some (.slice Q r.length cr) ∧ V.cell? ⟨b, off + (k - 1) * 5, none⟩ = some (.int .i64 ps))) (by kernel_rfl) (by exact ⟨p0, p1, p2, p3, p4, p5, m0, m1, m2, m3, m4, pc⟩) (fun hHeld => ?_)
      refine wpAnyH_take (i := 0) (oi := ?_) (v := ?_) ?_ ?_ ?_ ?_ ?_ ?_ (by exact hHeld) ?_
      rotate_left 2
      ·(simp only [List.getElem?_toArray, List.getElem?_cons_zero]; try rfl)
      ·kernel_rfl
      ·kernel_rfl
      ·kernel_rfl
      ·exact fun _ _ _ h => h
      ·refine Or.inl ⟨by rfl, ?_⟩
       (intro V hSV; (try dsimp only at hSV); obtain ⟨q0, q1, q2, q3, q4, q5, q6, q7, q8, q9, q10, q11⟩ := hSV; go_simp; try with_reducible rfl)
      (try simp only [LY9])
      refine wpAnyH_take (i := 1) (oi := ?_) (v := ?_) ?_ ?_ ?_ ?_ ?_ ?_ (by exact hHeld) ?_
      rotate_left 2
      ·(simp only [LX9]; try rfl)
      ·kernel_rfl
      ·kernel_rfl
      ·kernel_rfl
      ·exact fun _ _ _ h => h
      ·refine Or.inl ⟨by rfl, ?_⟩
       (intro V hSV; (try dsimp only at hSV); obtain ⟨q0, q1, q2, q3, q4, q5, q6, q7, q8, q9, q10, q11⟩ := hSV; go_simp; try with_reducible rfl)
      (try simp only [LY9])
      refine wpAnyH_ready (rs := [2]) (by kernel_rfl) (by simp) ?_
      refine AllReadyH.cons rfl (fun K hK => ?_) AllReadyH.nil
      go_simp
      refine (l10Session_any s _).mono ?_
      rintro e w6 ⟨rfl, hb⟩
      rw [H1.out]
      have hb : Below W1.heap.size W1 w6 := ⟨hb.os, hb.tape, hb.output, hb.size, hb.block⟩
      have HR1 := Lib.hid hb
      have HTS1 := Lib.hid (HTS.out.below hb)
      have HU1 := Lib.hid (HU.out.below hb)
      have HQ1 := Lib.hid (HQQ.out.below hb)
      clear hb
      go_wp2_with fail
      refine hK.out _ _ (by exact ⟨((HR1.out).cell (p := ⟨w.heap.size, 0, none⟩) hlx).trans p0, ((HR1.out).cell (p := ⟨w.heap.size, 1, none⟩) hlx).trans p1, ((HR1.out).cell (p := ⟨w.heap.size, 2, none⟩) hlx).trans p2, ((HR1.out).cell (p := ⟨w.heap.size, 3, none⟩) hlx).trans p3, ((HR1.out).cell (p := ⟨w.heap.size, 4, none⟩) hlx).trans p4, ((HR1.out).cell (p := ⟨w.heap.size, 5, none⟩) hlx).trans p5, ((HR1.out).cell (p := ⟨wr.heap.size, 0, none⟩) hly).trans m0, ((HR1.out).cell (p := ⟨wr.heap.size, 1, none⟩) hly).trans m1, ((HR1.out).cell (p := ⟨wr.heap.size, 2, none⟩) hly).trans m2, ((HR1.out).cell (p := ⟨wr.heap.size, 3, none⟩) hly).trans m3, ((HR1.out).cell (p := ⟨wr.heap.size, 4, none⟩) hly).trans m4, ((HR1.out).cell (p := ⟨b, off + (k - 1) * 5, none⟩) hlz).trans pc⟩) (fun hHeld => ?_)
      clear hK K
      (try simp only [LY9])
      refine wpAnyH_take (i := 3) (oi := ?_) (v := ?_) ?_ ?_ ?_ ?_ ?_ ?_ (by exact hHeld) ?_
      rotate_left 2
      ·(simp only [LX9]; try rfl)
      ·kernel_rfl
      ·kernel_rfl
      ·kernel_rfl
      ·exact fun _ _ _ h => h
      ·refine Or.inl ⟨by rfl, ?_⟩
       (intro V hSV; (try dsimp only at hSV); obtain ⟨q0, q1, q2, q3, q4, q5, q6, q7, q8, q9, q10, q11⟩ := hSV; go_simp; try with_reducible rfl)
      (try simp only [LY9])
      refine wpAnyH_take (i := 4) (oi := ?_) (v := ?_) ?_ ?_ ?_ ?_ ?_ ?_ (by exact hHeld) ?_
      rotate_left 2
      ·(simp only [LX9]; try rfl)
      ·kernel_rfl
      ·kernel_rfl
      ·kernel_rfl
      ·exact fun _ _ _ h => h
      ·refine Or.inl ⟨by rfl, ?_⟩
       (intro V hSV; (try dsimp only at hSV); obtain ⟨q0, q1, q2, q3, q4, q5, q6, q7, q8, q9, q10, q11⟩ := hSV; go_simp; try with_reducible rfl)
      (try simp only [LY9])
      refine wpAnyH_take (i := 5) (oi := ?_) (v := ?_) ?_ ?_ ?_ ?_ ?_ ?_ (by exact hHeld) ?_
      rotate_left 2
      ·(simp only [LX9]; try rfl)
      ·kernel_rfl
      ·kernel_rfl
      ·kernel_rfl
      ·exact fun _ _ _ h => h
      ·refine Or.inl ⟨by rfl, ?_⟩
       (intro V hSV; (try dsimp only at hSV); obtain ⟨q0, q1, q2, q3, q4, q5, q6, q7, q8, q9, q10, q11⟩ := hSV; go_simp; try with_reducible rfl)
      (try simp only [LY9])
      refine wpAnyH_take (i := 6) (oi := ?_) (v := ?_) ?_ ?_ ?_ ?_ ?_ ?_ (by exact hHeld) ?_
      rotate_left 2
      ·(simp only [LX9]; try rfl)
      ·kernel_rfl
      ·kernel_rfl
      ·kernel_rfl
      ·exact fun _ _ _ h => h
      ·refine Or.inl ⟨by rfl, ?_⟩
       (intro V hSV; (try dsimp only at hSV); obtain ⟨q0, q1, q2, q3, q4, q5, q6, q7, q8, q9, q10, q11⟩ := hSV; go_simp; try with_reducible rfl)
      (try simp only [LY9])
      refine wpAnyH_take (i := 7) (oi := ?_) (v := ?_) ?_ ?_ ?_ ?_ ?_ ?_ (by exact hHeld) ?_
      rotate_left 2
      ·(simp only [LX9]; try rfl)
      ·kernel_rfl
      ·kernel_rfl
      ·kernel_rfl
      ·exact fun _ _ _ h => h
      ·refine Or.inl ⟨by rfl, ?_⟩
       (intro V hSV; (try dsimp only at hSV); obtain ⟨q0, q1, q2, q3, q4, q5, q6, q7, q8, q9, q10, q11⟩ := hSV; go_simp; try with_reducible rfl)
      (try simp only [LY9])
      refine wpAnyH_take (i := 8) (oi := ?_) (v := ?_) ?_ ?_ ?_ ?_ ?_ ?_ (by exact hHeld) ?_
      rotate_left 2
      ·(simp only [LX9]; try rfl)
      ·kernel_rfl
      ·kernel_rfl
      ·kernel_rfl
      ·exact fun _ _ _ h => h
      ·refine Or.inl ⟨by rfl, ?_⟩
       (intro V hSV; (try dsimp only at hSV); obtain ⟨q0, q1, q2, q3, q4, q5, q6, q7, q8, q9, q10, q11⟩ := hSV; go_simp; try with_reducible rfl)
      (try simp only [LY9])
      refine wpAnyH_take (i := 9) (oi := ?_) (v := ?_) ?_ ?_ ?_ ?_ ?_ ?_ (by exact hHeld) ?_
      rotate_left 2
      ·(simp only [LX9]; try rfl)
      ·kernel_rfl
      ·kernel_rfl
      ·kernel_rfl
      ·exact fun _ _ _ h => h
      ·refine Or.inl ⟨by rfl, ?_⟩
       (intro V hSV; (try dsimp only at hSV); obtain ⟨q0, q1, q2, q3, q4, q5, q6, q7, q8, q9, q10, q11⟩ := hSV; go_simp; try with_reducible rfl)
      (try simp only [LY9])
      refine wpAnyH_take (i := 10) (oi := ?_) (v := ?_) ?_ ?_ ?_ ?_ ?_ ?_ (by exact hHeld) ?_
      rotate_left 2
      ·(simp only [LX9]; try rfl)
      ·kernel_rfl
      ·kernel_rfl
      ·kernel_rfl
      ·exact fun _ _ _ h => h
      ·refine Or.inl ⟨by rfl, ?_⟩
       (intro V hSV; (try dsimp only at hSV); obtain ⟨q0, q1, q2, q3, q4, q5, q6, q7, q8, q9, q10, q11⟩ := hSV; go_simp; try with_reducible rfl)
      (try simp only [LY9])
      refine wpAnyH_take (i := 11) (oi := ?_) (v := ?_) ?_ ?_ ?_ ?_ ?_ ?_ (by exact hHeld) ?_
      rotate_left 2
      ·(simp only [LX9]; try rfl)
      ·kernel_rfl
      ·kernel_rfl
      ·kernel_rfl
      ·exact fun _ _ _ h => h
      ·refine Or.inl ⟨by rfl, ?_⟩
       (intro V hSV; (try dsimp only at hSV); obtain ⟨q0, q1, q2, q3, q4, q5, q6, q7, q8, q9, q10, q11⟩ := hSV; go_simp; try with_reducible rfl)
      (try simp only [LY9])
      refine wpAnyH_take (i := 12) (oi := ?_) (v := ?_) ?_ ?_ ?_ ?_ ?_ ?_ (by exact hHeld) ?_
      rotate_left 2
      ·(simp only [LX9]; try rfl)
      ·kernel_rfl
      ·kernel_rfl
      ·kernel_rfl
      ·exact fun _ _ _ h => h
      ·refine Or.inl ⟨by rfl, ?_⟩
       (intro V hSV; (try dsimp only at hSV); obtain ⟨q0, q1, q2, q3, q4, q5, q6, q7, q8, q9, q10, q11⟩ := hSV; go_simp; try with_reducible rfl)
      (try simp only [LY9])
      refine wpAnyH_take (i := 13) (oi := ?_) (v := ?_) ?_ ?_ ?_ ?_ ?_ ?_ (by exact hHeld) ?_
      rotate_left 2
      ·(simp only [LX9]; try rfl)
      ·kernel_rfl
      ·kernel_rfl
      ·kernel_rfl
      ·exact fun _ _ _ h => h
      ·refine Or.inl ⟨by rfl, ?_⟩
       (intro V hSV; (try dsimp only at hSV); obtain ⟨q0, q1, q2, q3, q4, q5, q6, q7, q8, q9, q10, q11⟩ := hSV; go_simp; try with_reducible rfl)
      (try simp only [LY9])
      refine wpAnyH_take (i := 14) (oi := ?_) (v := ?_) ?_ ?_ ?_ ?_ ?_ ?_ (by exact hHeld) ?_
      rotate_left 2
      ·(simp only [LX9]; try rfl)
      ·kernel_rfl
      ·kernel_rfl
      ·kernel_rfl
      ·exact fun _ _ _ h => h
      ·refine Or.inl ⟨by rfl, ?_⟩
       (intro V hSV; (try dsimp only at hSV); obtain ⟨q0, q1, q2, q3, q4, q5, q6, q7, q8, q9, q10, q11⟩ := hSV; go_simp; try with_reducible rfl)
      (try simp only [LY9])
      refine wpAnyH_take (i := 15) (oi := ?_) (v := ?_) ?_ ?_ ?_ ?_ ?_ ?_ (by exact hHeld) ?_
      rotate_left 2
      ·(simp only [LX9]; try rfl)
      ·kernel_rfl
      ·kernel_rfl
      ·kernel_rfl
      ·exact fun _ _ _ h => h
      ·refine Or.inl ⟨by rfl, ?_⟩
       (intro V hSV; (try dsimp only at hSV); obtain ⟨q0, q1, q2, q3, q4, q5, q6, q7, q8, q9, q10, q11⟩ := hSV; go_simp; try with_reducible rfl)
      (try simp only [LY9])
      refine wpAnyH_take (i := 16) (oi := ?_) (v := ?_) ?_ ?_ ?_ ?_ ?_ ?_ (by exact hHeld) ?_
      rotate_left 2
      ·(simp only [LX9]; try rfl)
      ·kernel_rfl
      ·kernel_rfl
      ·kernel_rfl
      ·exact fun _ _ _ h => h
      ·refine Or.inl ⟨by rfl, ?_⟩
       (intro V hSV; (try dsimp only at hSV); obtain ⟨q0, q1, q2, q3, q4, q5, q6, q7, q8, q9, q10, q11⟩ := hSV; go_simp; try with_reducible rfl)
      (try simp only [LY9])
      refine wpAnyH_take (i := 17) (oi := ?_) (v := ?_) ?_ ?_ ?_ ?_ ?_ ?_ (by exact hHeld) ?_
      rotate_left 2
      ·(simp only [LX9]; try rfl)
      ·kernel_rfl
      ·kernel_rfl
      ·kernel_rfl
      ·exact fun _ _ _ h => h
      ·refine Or.inl ⟨by rfl, ?_⟩
       (intro V hSV; (try dsimp only at hSV); obtain ⟨q0, q1, q2, q3, q4, q5, q6, q7, q8, q9, q10, q11⟩ := hSV; go_simp; try with_reducible rfl)
      (try simp only [LY9])
      refine wpAnyH_take (i := 18) (oi := ?_) (v := ?_) ?_ ?_ ?_ ?_ ?_ ?_ (by exact hHeld) ?_
      rotate_left 2
      ·(simp only [LX9]; try rfl)
      ·kernel_rfl
      ·kernel_rfl
      ·kernel_rfl
      ·exact fun _ _ _ h => h
      ·refine Or.inl ⟨by rfl, ?_⟩
       (intro V hSV; (try dsimp only at hSV); obtain ⟨q0, q1, q2, q3, q4, q5, q6, q7, q8, q9, q10, q11⟩ := hSV; go_simp; try with_reducible rfl)
      (try simp only [LY9])
      refine wpAnyH_take (i := 19) (oi := ?_) (v := ?_) ?_ ?_ ?_ ?_ ?_ ?_ (by exact hHeld) ?_
      rotate_left 2
      ·(simp only [LX9]; try rfl)
      ·kernel_rfl
      ·kernel_rfl
      ·kernel_rfl
      ·exact fun _ _ _ h => h
      ·refine Or.inl ⟨by rfl, ?_⟩
       (intro V hSV; (try dsimp only at hSV); obtain ⟨q0, q1, q2, q3, q4, q5, q6, q7, q8, q9, q10, q11⟩ := hSV; go_simp; try with_reducible rfl)
      (try simp only [LY9])
      refine wpAnyH_take (i := 20) (oi := ?_) (v := ?_) ?_ ?_ ?_ ?_ ?_ ?_ (by exact hHeld) ?_
      rotate_left 2
      ·(simp only [LX9]; try rfl)
      ·kernel_rfl
      ·kernel_rfl
      ·kernel_rfl
      ·exact fun _ _ _ h => h
      ·refine Or.inl ⟨by rfl, ?_⟩
       (intro V hSV; (try dsimp only at hSV); obtain ⟨q0, q1, q2, q3, q4, q5, q6, q7, q8, q9, q10, q11⟩ := hSV; go_simp; try with_reducible rfl)
      (try simp only [LY9])
      refine wpAnyH_take (i := 21) (oi := ?_) (v := ?_) ?_ ?_ ?_ ?_ ?_ ?_ (by exact hHeld) ?_
      rotate_left 2
      ·(simp only [LX9]; try rfl)
      ·kernel_rfl
      ·kernel_rfl
      ·kernel_rfl
      ·exact fun _ _ _ h => h
      ·refine Or.inl ⟨by rfl, ?_⟩
       (intro V hSV; (try dsimp only at hSV); obtain ⟨q0, q1, q2, q3, q4, q5, q6, q7, q8, q9, q10, q11⟩ := hSV; go_simp; try with_reducible rfl)
      (try simp only [LY9])
      refine wpAnyH_take (i := 22) (oi := ?_) (v := ?_) ?_ ?_ ?_ ?_ ?_ ?_ (by exact hHeld) ?_
      rotate_left 2
      ·(simp only [LX9]; try rfl)
      ·kernel_rfl
      ·kernel_rfl
      ·kernel_rfl
      ·exact fun _ _ _ h => h
      ·refine Or.inl ⟨by rfl, ?_⟩
       (intro V hSV; (try dsimp only at hSV); obtain ⟨q0, q1, q2, q3, q4, q5, q6, q7, q8, q9, q10, q11⟩ := hSV; go_simp; try with_reducible rfl)
      (try simp only [LY9])
      refine wpAnyH_take (i := 23) (oi := ?_) (v := ?_) ?_ ?_ ?_ ?_ ?_ ?_ (by exact hHeld) ?_
      rotate_left 2
      ·(simp only [LX9]; try rfl)
      ·kernel_rfl
      ·kernel_rfl
      ·kernel_rfl
      ·exact fun _ _ _ h => h
      ·refine Or.inl ⟨by rfl, ?_⟩
       (intro V hSV; (try dsimp only at hSV); obtain ⟨q0, q1, q2, q3, q4, q5, q6, q7, q8, q9, q10, q11⟩ := hSV; go_simp; try with_reducible rfl)
      (try simp only [LY9])
      refine wpAnyH_take (i := 24) (oi := ?_) (v := ?_) ?_ ?_ ?_ ?_ ?_ ?_ (by exact hHeld) ?_
      rotate_left 2
      ·(simp only [LX9]; try rfl)
      ·kernel_rfl
      ·kernel_rfl
      ·kernel_rfl
      ·exact fun _ _ _ h => h
      ·refine Or.inl ⟨by rfl, ?_⟩
       (intro V hSV; (try dsimp only at hSV); obtain ⟨q0, q1, q2, q3, q4, q5, q6, q7, q8, q9, q10, q11⟩ := hSV; go_simp; try with_reducible rfl)
      (try simp only [LY9])
      refine wpAnyH_ready (rs := [25]) (by kernel_rfl) (by simp) ?_
      refine AllReadyH.cons rfl (fun K hK => ?_) AllReadyH.nil
      go_simp
      refine (specSelOk_any a.t d.text a.ct f t _ HN.out.2.1 HN.out.2.2 (by exact HTS1.out)).mono ?_
      rintro e w7 ⟨rfl, hb⟩
      rw [H2.out]
      have hb : Below w6.heap.size w6 w7 := ⟨hb.os, hb.tape, hb.output, hb.size, hb.block⟩
      have HR2 := Lib.hid (below_then HR1.out hb)
      have HU2 := Lib.hid (HU1.out.below hb)
      have HQ2 := Lib.hid (HQ1.out.below hb)
      clear hb
      go_wp2_with fail
      refine hK.out _ _ (by exact ⟨((HR2.out).cell (p := ⟨w.heap.size, 0, none⟩) hlx).trans p0, ((HR2.out).cell (p := ⟨w.heap.size, 1, none⟩) hlx).trans p1, ((HR2.out).cell (p := ⟨w.heap.size, 2, none⟩) hlx).trans p2, ((HR2.out).cell (p := ⟨w.heap.size, 3, none⟩) hlx).trans p3, ((HR2.out).cell (p := ⟨w.heap.size, 4, none⟩) hlx).trans p4, ((HR2.out).cell (p := ⟨w.heap.size, 5, none⟩) hlx).trans p5, ((HR2.out).cell (p := ⟨wr.heap.size, 0, none⟩) hly).trans m0, ((HR2.out).cell (p := ⟨wr.heap.size, 1, none⟩) hly).trans m1, ((HR2.out).cell (p := ⟨wr.heap.size, 2, none⟩) hly).trans m2, ((HR2.out).cell (p := ⟨wr.heap.size, 3, none⟩) hly).trans m3, ((HR2.out).cell (p := ⟨wr.heap.size, 4, none⟩) hly).trans m4, ((HR2.out).cell (p := ⟨b, off + (k - 1) * 5, none⟩) hlz).trans pc⟩) (fun hHeld => ?_)
      clear hK K
      (try simp only [LY9])
      refine wpAnyH_take (i := 26) (oi := ?_) (v := ?_) ?_ ?_ ?_ ?_ ?_ ?_ (by exact hHeld) ?_
      rotate_left 2
      ·(simp only [LX9]; try rfl)
      ·kernel_rfl
      ·kernel_rfl
      ·kernel_rfl
      ·exact fun _ _ _ h => h
      ·refine Or.inl ⟨by rfl, ?_⟩
       (intro V hSV; (try dsimp only at hSV); obtain ⟨q0, q1, q2, q3, q4, q5, q6, q7, q8, q9, q10, q11⟩ := hSV; go_simp; try with_reducible rfl)
      (try simp only [LY9])
      refine wpAnyH_take (i := 27) (oi := ?_) (v := ?_) ?_ ?_ ?_ ?_ ?_ ?_ (by exact hHeld) ?_
      rotate_left 2
      ·(simp only [LX9]; try rfl)
      ·kernel_rfl
      ·kernel_rfl
      ·kernel_rfl
      ·exact fun _ _ _ h => h
      ·refine Or.inl ⟨by rfl, ?_⟩
       (intro V hSV; (try dsimp only at hSV); obtain ⟨q0, q1, q2, q3, q4, q5, q6, q7, q8, q9, q10, q11⟩ := hSV; go_simp; try with_reducible rfl)
      (try simp only [LY9])
      refine wpAnyH_take (i := 28) (oi := ?_) (v := ?_) ?_ ?_ ?_ ?_ ?_ ?_ (by exact hHeld) ?_
      rotate_left 2
      ·(simp only [LX9]; try rfl)
      ·kernel_rfl
      ·kernel_rfl
      ·kernel_rfl
      ·exact fun _ _ _ h => h
      ·refine Or.inl ⟨by rfl, ?_⟩
       (intro V hSV; (try dsimp only at hSV); obtain ⟨q0, q1, q2, q3, q4, q5, q6, q7, q8, q9, q10, q11⟩ := hSV; go_simp; try with_reducible rfl)
      (try simp only [LY9])
      refine wpAnyH_take (i := 29) (oi := ?_) (v := ?_) ?_ ?_ ?_ ?_ ?_ ?_ (by exact hHeld) ?_
      rotate_left 2
      ·(simp only [LX9]; try rfl)
      ·kernel_rfl
      ·kernel_rfl
      ·kernel_rfl
      ·exact fun _ _ _ h => h
      ·refine Or.inl ⟨by rfl, ?_⟩
       (intro V hSV; (try dsimp only at hSV); obtain ⟨q0, q1, q2, q3, q4, q5, q6, q7, q8, q9, q10, q11⟩ := hSV; go_simp; try with_reducible rfl)
      (try simp only [LY9])
      refine wpAnyH_take (i := 30) (oi := ?_) (v := ?_) ?_ ?_ ?_ ?_ ?_ ?_ (by exact hHeld) ?_
      rotate_left 2
      ·(simp only [LX9]; try rfl)
      ·kernel_rfl
      ·kernel_rfl
      ·kernel_rfl
      ·exact fun _ _ _ h => h
      ·refine Or.inl ⟨by rfl, ?_⟩
       (intro V hSV; (try dsimp only at hSV); obtain ⟨q0, q1, q2, q3, q4, q5, q6, q7, q8, q9, q10, q11⟩ := hSV; go_simp; try with_reducible rfl)
      (try simp only [LY9])
      refine wpAnyH_ready (rs := [31]) (by kernel_rfl) (by simp) ?_
      refine AllReadyH.cons rfl (fun K hK => ?_) AllReadyH.nil
      go_simp
      refine (specStackOk_any U Q u r cu cr _ hu9 hr9 (by exact HU2.out) (by exact HQ2.out)).mono ?_
      rintro e w8 ⟨rfl, hb⟩
      rw [H3.out]
      have hb : Below w7.heap.size w7 w8 := ⟨hb.os, hb.tape, hb.output, hb.size, hb.block⟩
      have HR3 := Lib.hid (below_then HR2.out hb)
      clear hb
      go_wp2_with fail
      refine hK.out _ _ (by exact ⟨((HR3.out).cell (p := ⟨w.heap.size, 0, none⟩) hlx).trans p0, ((HR3.out).cell (p := ⟨w.heap.size, 1, none⟩) hlx).trans p1, ((HR3.out).cell (p := ⟨w.heap.size, 2, none⟩) hlx).trans p2, ((HR3.out).cell (p := ⟨w.heap.size, 3, none⟩) hlx).trans p3, ((HR3.out).cell (p := ⟨w.heap.size, 4, none⟩) hlx).trans p4, ((HR3.out).cell (p := ⟨w.heap.size, 5, none⟩) hlx).trans p5, ((HR3.out).cell (p := ⟨wr.heap.size, 0, none⟩) hly).trans m0, ((HR3.out).cell (p := ⟨wr.heap.size, 1, none⟩) hly).trans m1, ((HR3.out).cell (p := ⟨wr.heap.size, 2, none⟩) hly).trans m2, ((HR3.out).cell (p := ⟨wr.heap.size, 3, none⟩) hly).trans m3, ((HR3.out).cell (p := ⟨wr.heap.size, 4, none⟩) hly).trans m4, ((HR3.out).cell (p := ⟨b, off + (k - 1) * 5, none⟩) hlz).trans pc⟩) (fun hHeld => ?_)
      clear hK K
      (try simp only [LY9])
      refine wpAnyH_take (i := 32) (oi := ?_) (v := ?_) ?_ ?_ ?_ ?_ ?_ ?_ (by exact hHeld) ?_
      rotate_left 2
      ·(simp only [LX9]; try rfl)
      ·kernel_rfl
      ·kernel_rfl
      ·kernel_rfl
      ·exact fun _ _ _ h => h
      ·refine Or.inl ⟨by rfl, ?_⟩
       (intro V hSV; (try dsimp only at hSV); obtain ⟨q0, q1, q2, q3, q4, q5, q6, q7, q8, q9, q10, q11⟩ := hSV; go_simp; try with_reducible rfl)
      (try simp only [LY9])
      refine wpAnyH_take (i := 33) (oi := ?_) (v := ?_) ?_ ?_ ?_ ?_ ?_ ?_ (by exact hHeld) ?_
      rotate_left 2
      ·(simp only [LX9]; try rfl)
      ·kernel_rfl
      ·kernel_rfl
      ·kernel_rfl
      ·exact fun _ _ _ h => h
      ·refine Or.inl ⟨by rfl, ?_⟩
       (intro V hSV; (try dsimp only at hSV); obtain ⟨q0, q1, q2, q3, q4, q5, q6, q7, q8, q9, q10, q11⟩ := hSV; go_simp; try with_reducible rfl)
      (try simp only [LY9])
      refine wpAnyH_done (by kernel_rfl) ?_ _
      clear hHeld hlx hly p0 p1 p2 p3 p4 p5 m0 m1 m2 m3 m4 pc hlz
      have hb := HR3.out
      have BX := Lib.hid (BX.out.below hb)
      have MB := Lib.hid (MB.out.below hb)
      have HB := Lib.hid (below_then HB.out hb)
      have HU := Lib.hid (HU.out.below hb)
      have HQQ := Lib.hid (HQQ.out.below hb)
      clear hb
      cases q3
      ·skip
       have hmf : memOk d.text 0 d.mem = false := by rw [HST.out]; simp
       have e : R = false := by rw [← HR.out]; exact docOk_mem hmf
       subst e
       go_wp2
       go_ret
       exact ⟨rfl, HB.out⟩
      have p1 := BX.out.cell 1
      have m3 := MB.out.cell 3
      have m4 := MB.out.cell 4
      go_wp2_with fail
      refine (l10FitAll_any a.t d.text a.ct U u cu _ HN.out.2.1 HN.out.2.2 hu9 HTX.out (HK.out _ HB.out).t HU.out).mono ?_
      rintro e w9 ⟨rfl, hb⟩
      rw [H4.out]
      have BX := Lib.hid (BX.out.below hb)
      have MB := Lib.hid (MB.out.below hb)
      have HQQ := Lib.hid (HQQ.out.below hb)
      have HB := Lib.hid (below_then HB.out hb)
      clear hb
      clear p1 m3 m4
      cases q4
      ·skip
       have hmf : memOk d.text 0 d.mem = false := by rw [HST.out]; simp
       have e : R = false := by rw [← HR.out]; exact docOk_mem hmf
       subst e
       go_wp2
       go_ret
       exact ⟨rfl, HB.out⟩
      have p1 := BX.out.cell 1
      have m3 := MB.out.cell 3
      have m4 := MB.out.cell 4
      go_wp2_with fail
      refine (l10FitAll_any a.t d.text a.ct Q r cr _ HN.out.2.1 HN.out.2.2 hr9 HTX.out (HK.out _ HB.out).t HQQ.out).mono ?_
      rintro e w10 ⟨rfl, hb⟩
      rw [H5.out]
      have BX := Lib.hid (BX.out.below hb)
      have HB := Lib.hid (below_then HB.out hb)
      clear hb
      clear p1 m3 m4
      cases q5
      ·skip
       have hmf : memOk d.text 0 d.mem = false := by rw [HST.out]; simp
       have e : R = false := by rw [← HR.out]; exact docOk_mem hmf
       subst e
       go_wp2
       go_ret
       exact ⟨rfl, HB.out⟩
      have HMN := Lib.hid (show memOk d.text 0 d.mem = memOk d.text (lastS d.mem (k + 1)) (d.mem.drop (k + 1)) by rw [HST.out, show decide (la < s) = true from decide_eq_true (by omega), HSU.out]; rfl)
      go_wp2
      go_roundw
      case rel => exact ⟨k + 1, by omega, by go_num, HMN, HB.out, BX.out⟩
      case measure => simp [intOf]; omega
    ·have HMT := Lib.hid (show memOk d.text 0 d.mem = true from memOk_done (by omega) HM.out)
     clear HM
     go_wp2
     clear p4
     go_loopw [8] (fun i wr => ∃ k : Nat, k ≤ d.lea.length ∧ i = .int .i64 k ∧ Hid (∀ j (h : j < d.lea.length), j < k → leaPair d.text d.clock d.lea j d.lea[j] = true) ∧ Below w.heap.size w wr ∧ Blk wr w.heap.size #[.slice a.s d.start.length a.cs, .slice a.t d.text.length a.ct, .slice a.l d.log.length a.cl, .int .i64 d.clock, .slice a.m d.mem.length a.cm, .slice a.e d.lea.length a.ce] 36) (fun i _ => d.lea.length - (intOf i).toNat)
     case atStart => exact ⟨0, Nat.zero_le _, rfl, Lib.hid (fun j _ h => absurd h (Nat.not_lt_zero _)), HB.out, BX.out⟩
     case round =>
      obtain ⟨k, hk, rfl, HM, hb, bx⟩ := hrel
      have HB := Lib.hid hb
      have BX := Lib.hid bx
      clear hb bx
      have p5 := BX.out.cell 5
      by_cases hlt : k < d.lea.length
      ·obtain ⟨b, off, x, y, s, t, hA, hbl, hek, k0, k1, k2, k3, hin⟩ := (HK.out _ HB.out).e.at_ k hlt
       have HAM := Lib.hid hA
       rw [hA] at p5
       obtain ⟨q1, h1⟩ : ∃ q, isBound d.text x = q := ⟨_, rfl⟩
       obtain ⟨q2, h2⟩ : ∃ q, isBound d.text y = q := ⟨_, rfl⟩
       have hgd : leaPair d.text d.clock d.lea k d.lea[k] = (decide (d.clock < t) && (q1 && (q2 && !(d.lea.take k).any (barsL (x, y, s, t))))) := by rw [hek, ← h1, ← h2]; rfl
       have HGD := Lib.hid hgd
       have H1 := Lib.hid (show cutOk d.text x = q1 by unfold cutOk; rw [HTX.out, h1]; rfl)
       have H2 := Lib.hid (show cutOk d.text y = q2 by unfold cutOk; rw [HTX.out, h2]; rfl)
       have hki : (k : Int) < (d.lea.length : Int) := by omega
       have hi0 : (0 : Int) ≤ (k : Int) := by omega
       clear hgd h1 h2 hek hin hA
       have hbl9 := BX.out.lt
       have hal2 := (Below.refl wr.heap.size wr).alloc (Nat.le_refl _) (.cells #[.int .i64 x, .int .i64 y, .int .i64 s, .int .i64 t] 106)
       have MB := Lib.hid (Blk.new wr #[.int .i64 x, .int .i64 y, .int .i64 s, .int .i64 t] 106)
       have BX := Lib.hid (BX.out.below hal2)
       have HB := Lib.hid (below_then HB.out hal2)
       have p1 := BX.out.cell 1
       have p3 := BX.out.cell 3
       by_cases htl : d.clock < t
       rotate_left 1
       ·have hgt : decide (t ≤ d.clock) = true := decide_eq_true (by omega)
        have hpf : leaPair d.text d.clock d.lea k d.lea[k] = false := by rw [HGD.out, decide_eq_false htl]; rfl
        clear htl
        have e : R = false := by rw [← HR.out]; exact docOk_pair hlt hpf
        subst e
        go_wp2
        go_ret
        exact ⟨rfl, HB.out⟩
       have hgt : decide (t ≤ d.clock) = false := decide_eq_false (by omega)
       go_wp2_with fail
       generalize wr.alloc (.cells #[.int .i64 x, .int .i64 y, .int .i64 s, .int .i64 t] 106) = W1 at *
       refine (specCutOk_any a.t d.text a.ct x _ HN.out.2.1 HN.out.2.2 (HK.out _ HB.out).t).mono ?_
       rintro e w6 ⟨rfl, hb⟩
       rw [H1.out]
       have BX := Lib.hid (BX.out.below hb)
       have MB := Lib.hid (MB.out.below hb)
       have HB := Lib.hid (below_then HB.out hb)
       clear hb
       clear p1 p3 p5 k0 k1 k2 k3 hal2
       cases q1
       ·have hpf : leaPair d.text d.clock d.lea k d.lea[k] = false := by rw [HGD.out]; simp
        have e : R = false := by rw [← HR.out]; exact docOk_pair hlt hpf
        subst e
        go_wp2
        go_ret
        exact ⟨rfl, HB.out⟩
       have p1 := BX.out.cell 1
       have m1 := MB.out.cell 1
       go_wp2_with fail
       refine (specCutOk_any a.t d.text a.ct y _ HN.out.2.1 HN.out.2.2 (HK.out _ HB.out).t).mono ?_
       rintro e w7 ⟨rfl, hb⟩
       rw [H2.out]
       have BX := Lib.hid (BX.out.below hb)
       have MB := Lib.hid (MB.out.below hb)
       have HB := Lib.hid (below_then HB.out hb)
       clear hb
       clear p1 m1
       cases q2
       ·have hpf : leaPair d.text d.clock d.lea k d.lea[k] = false := by rw [HGD.out]; simp
        have e : R = false := by rw [← HR.out]; exact docOk_pair hlt hpf
        subst e
        go_wp2
        go_ret
        exact ⟨rfl, HB.out⟩
       have HGE := Lib.hid (show leaPair d.text d.clock d.lea k d.lea[k] = !(d.lea.take k).any (barsL (x, y, s, t)) by rw [HGD.out, decide_eq_true htl]; rfl)
       clear htl HGD
       go_wp2
       clear hbl9
       generalize wr.heap.size = lb at *
       go_loopw [10] (fun i wq => ∃ j : Nat, j ≤ k ∧ i = .int .i64 j ∧ Hid ((d.lea.take j).any (barsL (x, y, s, t)) = false) ∧ Below w.heap.size w wq ∧ Blk wq w.heap.size #[.slice a.s d.start.length a.cs, .slice a.t d.text.length a.ct, .slice a.l d.log.length a.cl, .int .i64 d.clock, .slice a.m d.mem.length a.cm, .slice a.e d.lea.length a.ce] 36 ∧ Blk wq lb #[.int .i64 x, .int .i64 y, .int .i64 s, .int .i64 t] 106) (fun i _ => k - (intOf i).toNat)
       case atStart => exact ⟨0, Nat.zero_le _, rfl, Lib.hid (by simp), HB.out, BX.out, MB.out⟩
       case round =>
        obtain ⟨j, hj, rfl, HN2, hb, bx, mb⟩ := hrel
        have HB := Lib.hid hb
        have BX := Lib.hid bx
        have MB := Lib.hid mb
        clear hb bx mb
        by_cases hjk : j < k
        ·have hjl : j < d.lea.length := by omega
         obtain ⟨b', off', x', y', s', t', hA', hlz, hek', j0, j1, j2, j3, hin'⟩ := (HK.out _ HB.out).e.at_ j hjl
         have hbo : b = b' ∧ off = off' := by
          have h9 := HAM.out.symm.trans hA'
          simp only [Option.some.injEq, Addr.mk.injEq] at h9
          exact ⟨h9.1, h9.2.1⟩
         obtain ⟨rfl, rfl⟩ := hbo
         have hts := any_take_succ d.lea j hjl (barsL (x, y, s, t))
         rw [hek', HN2.out, Bool.false_or] at hts
         have HTSS := Lib.hid hts
         have hjki : (j : Int) < (k : Int) := by omega
         have hji : (j : Int) < (d.lea.length : Int) := by omega
         have hj0 : (0 : Int) ≤ (j : Int) := by omega
         have hlx := BX.out.lt
         have hly := MB.out.lt
         clear hA' hek' hts hin' HN2
         by_cases hse : s' = s
         ·have hne : (s' != s) = false := by simp [hse]
          have hbf : barsL (x, y, s, t) (x', y', s', t') = false := by unfold barsL; simp [hse]
          have HN3 := Lib.hid (show (d.lea.take (j + 1)).any (barsL (x, y, s, t)) = false by rw [HTSS.out]; exact hbf)
          clear hse hbf
          have p5 := BX.out.cell 5
          rw [HAM.out] at p5
          have m0 := MB.out.cell 0
          have m1 := MB.out.cell 1
          have m2 := MB.out.cell 2
          have m3 := MB.out.cell 3
          go_wp2_with fail
          refine wp_region_held_drew (S := (fun V => V.cell? ⟨w.heap.size, 5, none⟩ = some (.slice (some ⟨b, off, none⟩) d.lea.length a.ce) ∧ V.cell? ⟨lb, 0, none⟩ = some (.int .i64 x) ∧ V.cell? ⟨lb, 1, none⟩ = some (.int .i64 y) ∧ V.cell? ⟨lb, 2, none⟩ = some (.int .i64 s) ∧ V.cell? ⟨lb, 3, none⟩ = some (.int .i64 t) ∧ V.cell? ⟨b, off + j * 4, none⟩ = some (.int .i64 x') ∧ V.cell? ⟨b, off + j * 4 + 1, none⟩ = some (.int .i64 y') ∧ V.cell? ⟨b, off + j * 4 + 2, none⟩ = some (.int .i64 s') ∧ V.cell? ⟨b, off + j * 4 + 3, none⟩ = some (.int .i64 t'))) (by kernel_rfl) (by exact ⟨p5, m0, m1, m2, m3, j0, j1, j2, j3⟩) (fun hHeld => ?_)
          refine wpAnyH_take (i := 0) (oi := ?_) (v := ?_) ?_ ?_ ?_ ?_ ?_ ?_ (by exact hHeld) ?_
          rotate_left 2
          ·(simp only [List.getElem?_toArray, List.getElem?_cons_zero]; try rfl)
          ·kernel_rfl
          ·kernel_rfl
          ·kernel_rfl
          ·exact fun _ _ _ h => h
          ·refine Or.inl ⟨by rfl, ?_⟩
           (intro V hSV; (try dsimp only at hSV); obtain ⟨q0, q1, q2, q3, q4, q5, q6, q7, q8⟩ := hSV; go_simp; try with_reducible rfl)
          (try simp only [LY9])
          refine wpAnyH_take (i := 1) (oi := ?_) (v := ?_) ?_ ?_ ?_ ?_ ?_ ?_ (by exact hHeld) ?_
          rotate_left 2
          ·(simp only [LX9]; try rfl)
          ·kernel_rfl
          ·kernel_rfl
          ·kernel_rfl
          ·exact fun _ _ _ h => h
          ·refine Or.inl ⟨by rfl, ?_⟩
           (intro V hSV; (try dsimp only at hSV); obtain ⟨q0, q1, q2, q3, q4, q5, q6, q7, q8⟩ := hSV; go_simp; try with_reducible rfl)
          (try simp only [LY9])
          refine wpAnyH_take (i := 2) (oi := ?_) (v := ?_) ?_ ?_ ?_ ?_ ?_ ?_ (by exact hHeld) ?_
          rotate_left 2
          ·(simp only [LX9]; try rfl)
          ·kernel_rfl
          ·kernel_rfl
          ·kernel_rfl
          ·exact fun _ _ _ h => h
          ·refine Or.inl ⟨by rfl, ?_⟩
           (intro V hSV; (try dsimp only at hSV); obtain ⟨q0, q1, q2, q3, q4, q5, q6, q7, q8⟩ := hSV; go_simp; try with_reducible rfl)
          (try simp only [LY9])
          refine wpAnyH_take (i := 3) (oi := ?_) (v := ?_) ?_ ?_ ?_ ?_ ?_ ?_ (by exact hHeld) ?_
          rotate_left 2
          ·(simp only [LX9]; try rfl)
          ·kernel_rfl
          ·kernel_rfl
          ·kernel_rfl
          ·exact fun _ _ _ h => h
          ·refine Or.inl ⟨by rfl, ?_⟩
           (intro V hSV; (try dsimp only at hSV); obtain ⟨q0, q1, q2, q3, q4, q5, q6, q7, q8⟩ := hSV; go_simp; try with_reducible rfl)
          (try simp only [LY9])
          refine wpAnyH_take (i := 4) (oi := ?_) (v := ?_) ?_ ?_ ?_ ?_ ?_ ?_ (by exact hHeld) ?_
          rotate_left 2
          ·(simp only [LX9]; try rfl)
          ·kernel_rfl
          ·kernel_rfl
          ·kernel_rfl
          ·exact fun _ _ _ h => h
          ·refine Or.inl ⟨by rfl, ?_⟩
           (intro V hSV; (try dsimp only at hSV); obtain ⟨q0, q1, q2, q3, q4, q5, q6, q7, q8⟩ := hSV; go_simp; try with_reducible rfl)
          (try simp only [LY9])
          refine wpAnyH_take (i := 5) (oi := ?_) (v := ?_) ?_ ?_ ?_ ?_ ?_ ?_ (by exact hHeld) ?_
          rotate_left 2
          ·(simp only [LX9]; try rfl)
          ·kernel_rfl
          ·kernel_rfl
          ·kernel_rfl
          ·exact fun _ _ _ h => h
          ·refine Or.inl ⟨by rfl, ?_⟩
           (intro V hSV; (try dsimp only at hSV); obtain ⟨q0, q1, q2, q3, q4, q5, q6, q7, q8⟩ := hSV; go_simp; try with_reducible rfl)
          (try simp only [LY9])
          refine wpAnyH_take (i := 6) (oi := ?_) (v := ?_) ?_ ?_ ?_ ?_ ?_ ?_ (by exact hHeld) ?_
          rotate_left 2
          ·(simp only [LX9]; try rfl)
          ·kernel_rfl
          ·kernel_rfl
          ·kernel_rfl
          ·exact fun _ _ _ h => h
          ·refine Or.inl ⟨by rfl, ?_⟩
           (intro V hSV; (try dsimp only at hSV); obtain ⟨q0, q1, q2, q3, q4, q5, q6, q7, q8⟩ := hSV; go_simp; try with_reducible rfl)
          (try simp only [LY9])
          refine wpAnyH_take (i := 7) (oi := ?_) (v := ?_) ?_ ?_ ?_ ?_ ?_ ?_ (by exact hHeld) ?_
          rotate_left 2
          ·(simp only [LX9]; try rfl)
          ·kernel_rfl
          ·kernel_rfl
          ·kernel_rfl
          ·exact fun _ _ _ h => h
          ·refine Or.inl ⟨by rfl, ?_⟩
           (intro V hSV; (try dsimp only at hSV); obtain ⟨q0, q1, q2, q3, q4, q5, q6, q7, q8⟩ := hSV; go_simp; try with_reducible rfl)
          (try simp only [LY9])
          refine wpAnyH_take (i := 8) (oi := ?_) (v := ?_) ?_ ?_ ?_ ?_ ?_ ?_ (by exact hHeld) ?_
          rotate_left 2
          ·(simp only [LX9]; try rfl)
          ·kernel_rfl
          ·kernel_rfl
          ·kernel_rfl
          ·exact fun _ _ _ h => h
          ·refine Or.inl ⟨by rfl, ?_⟩
           (intro V hSV; (try dsimp only at hSV); obtain ⟨q0, q1, q2, q3, q4, q5, q6, q7, q8⟩ := hSV; go_simp; try with_reducible rfl)
          (try simp only [LY9])
          refine wpAnyH_take (i := 9) (oi := ?_) (v := ?_) ?_ ?_ ?_ ?_ ?_ ?_ (by exact hHeld) ?_
          rotate_left 2
          ·(simp only [LX9]; try rfl)
          ·kernel_rfl
          ·kernel_rfl
          ·kernel_rfl
          ·exact fun _ _ _ h => h
          ·refine Or.inl ⟨by rfl, ?_⟩
           (intro V hSV; (try dsimp only at hSV); obtain ⟨q0, q1, q2, q3, q4, q5, q6, q7, q8⟩ := hSV; go_simp; try with_reducible rfl)
          (try simp only [LY9])
          refine wpAnyH_take (i := 10) (oi := ?_) (v := undef) ?_ ?_ ?_ ?_ ?_ ?_ (by exact hHeld) ?_
          rotate_left 1
          ·(simp only [LX9]; try rfl)
          ·kernel_rfl
          ·kernel_rfl
          ·kernel_rfl
          ·exact fun _ _ _ h => h
          ·refine Or.inr ?_
           exact ⟨by rfl, rfl⟩
          (try simp only [LY9])
          refine wpAnyH_take (i := 11) (oi := ?_) (v := undef) ?_ ?_ ?_ ?_ ?_ ?_ (by exact hHeld) ?_
          rotate_left 1
          ·(simp only [LX9]; try rfl)
          ·kernel_rfl
          ·kernel_rfl
          ·kernel_rfl
          ·exact fun _ _ _ h => h
          ·refine Or.inr ?_
           exact ⟨by rfl, rfl⟩
          (try simp only [LY9])
          refine wpAnyH_take (i := 12) (oi := ?_) (v := undef) ?_ ?_ ?_ ?_ ?_ ?_ (by exact hHeld) ?_
          rotate_left 1
          ·(simp only [LX9]; try rfl)
          ·kernel_rfl
          ·kernel_rfl
          ·kernel_rfl
          ·exact fun _ _ _ h => h
          ·refine Or.inr ?_
           exact ⟨by rfl, rfl⟩
          (try simp only [LY9])
          refine wpAnyH_take (i := 13) (oi := ?_) (v := undef) ?_ ?_ ?_ ?_ ?_ ?_ (by exact hHeld) ?_
          rotate_left 1
          ·(simp only [LX9]; try rfl)
          ·kernel_rfl
          ·kernel_rfl
          ·kernel_rfl
          ·exact fun _ _ _ h => h
          ·refine Or.inr ?_
           exact ⟨by rfl, rfl⟩
          (try simp only [LY9])
          refine wpAnyH_take (i := 14) (oi := ?_) (v := undef) ?_ ?_ ?_ ?_ ?_ ?_ (by exact hHeld) ?_
          rotate_left 1
          ·(simp only [LX9]; try rfl)
          ·kernel_rfl
          ·kernel_rfl
          ·kernel_rfl
          ·exact fun _ _ _ h => h
          ·refine Or.inr ?_
           exact ⟨by rfl, rfl⟩
          (try simp only [LY9])
          refine wpAnyH_take (i := 15) (oi := ?_) (v := undef) ?_ ?_ ?_ ?_ ?_ ?_ (by exact hHeld) ?_
          rotate_left 1
          ·(simp only [LX9]; try rfl)
          ·kernel_rfl
          ·kernel_rfl
          ·kernel_rfl
          ·exact fun _ _ _ h => h
          ·refine Or.inr ?_
           exact ⟨by rfl, rfl⟩
          (try simp only [LY9])
          refine wpAnyH_take (i := 16) (oi := ?_) (v := undef) ?_ ?_ ?_ ?_ ?_ ?_ (by exact hHeld) ?_
          rotate_left 1
          ·(simp only [LX9]; try rfl)
          ·kernel_rfl
          ·kernel_rfl
          ·kernel_rfl
          ·exact fun _ _ _ h => h
          ·refine Or.inr ?_
           exact ⟨by rfl, rfl⟩
          (try simp only [LY9])
          refine wpAnyH_take (i := 17) (oi := ?_) (v := ?_) ?_ ?_ ?_ ?_ ?_ ?_ (by exact hHeld) ?_
          rotate_left 2
          ·(simp only [LX9]; try rfl)
          ·kernel_rfl
          ·kernel_rfl
          ·kernel_rfl
          ·exact fun _ _ _ h => h
          ·refine Or.inl ⟨by rfl, ?_⟩
           (intro V hSV; (try dsimp only at hSV); obtain ⟨q0, q1, q2, q3, q4, q5, q6, q7, q8⟩ := hSV; go_simp; try with_reducible rfl)
          (try simp only [LY9])
          refine wpAnyH_done (by kernel_rfl) ?_ _
          clear hHeld hlx hly hlz p5 m0 m1 m2 m3 j0 j1 j2 j3
          go_wp2
          go_roundw
          case rel => exact ⟨j + 1, by omega, by go_num, HN3, below_then HB.out (bsk4 _), BX.out.below (bsk4 _), MB.out.below (bsk4 _)⟩
          case measure => simp [intOf]; omega
         ·have hne : (s' != s) = true := by simpa using hse
          obtain ⟨qm, hqm⟩ : ∃ q, meet (x', y', s', t') (x, y, s, t) = q := ⟨_, rfl⟩
          have HQM := Lib.hid hqm
          have hbf : barsL (x, y, s, t) (x', y', s', t') = qm := by rw [← hqm]; unfold barsL; simp [hse]
          have HBF := Lib.hid hbf
          clear hse hbf hqm
          have p5 := BX.out.cell 5
          rw [HAM.out] at p5
          have m0 := MB.out.cell 0
          have m1 := MB.out.cell 1
          have m2 := MB.out.cell 2
          have m3 := MB.out.cell 3
          go_wp2_with fail
          refine wp_region_held_drew (S := (fun V => V.cell? ⟨w.heap.size, 5, none⟩ = some (.slice (some ⟨b, off, none⟩) d.lea.length a.ce) ∧ V.cell? ⟨lb, 0, none⟩ = some (.int .i64 x) ∧ V.cell? ⟨lb, 1, none⟩ = some (.int .i64 y) ∧ V.cell? ⟨lb, 2, none⟩ = some (.int .i64 s) ∧ V.cell? ⟨lb, 3, none⟩ = some (.int .i64 t) ∧ V.cell? ⟨b, off + j * 4, none⟩ = some (.int .i64 x') ∧ V.cell? ⟨b, off + j * 4 + 1, none⟩ = some (.int .i64 y') ∧ V.cell? ⟨b, off + j * 4 + 2, none⟩ = some (.int .i64 s') ∧ V.cell? ⟨b, off + j * 4 + 3, none⟩ = some (.int .i64 t'))) (by kernel_rfl) (by exact ⟨p5, m0, m1, m2, m3, j0, j1, j2, j3⟩) (fun hHeld => ?_)
          refine wpAnyH_take (i := 0) (oi := ?_) (v := ?_) ?_ ?_ ?_ ?_ ?_ ?_ (by exact hHeld) ?_
          rotate_left 2
          ·(simp only [List.getElem?_toArray, List.getElem?_cons_zero]; try rfl)
          ·kernel_rfl
          ·kernel_rfl
          ·kernel_rfl
          ·exact fun _ _ _ h => h
          ·refine Or.inl ⟨by rfl, ?_⟩
           (intro V hSV; (try dsimp only at hSV); obtain ⟨q0, q1, q2, q3, q4, q5, q6, q7, q8⟩ := hSV; go_simp; try with_reducible rfl)
          (try simp only [LY9])
          refine wpAnyH_take (i := 1) (oi := ?_) (v := ?_) ?_ ?_ ?_ ?_ ?_ ?_ (by exact hHeld) ?_
          rotate_left 2
          ·(simp only [LX9]; try rfl)
          ·kernel_rfl
          ·kernel_rfl
          ·kernel_rfl
          ·exact fun _ _ _ h => h
          ·refine Or.inl ⟨by rfl, ?_⟩
           (intro V hSV; (try dsimp only at hSV); obtain ⟨q0, q1, q2, q3, q4, q5, q6, q7, q8⟩ := hSV; go_simp; try with_reducible rfl)
          (try simp only [LY9])
          refine wpAnyH_take (i := 2) (oi := ?_) (v := ?_) ?_ ?_ ?_ ?_ ?_ ?_ (by exact hHeld) ?_
          rotate_left 2
          ·(simp only [LX9]; try rfl)
          ·kernel_rfl
          ·kernel_rfl
          ·kernel_rfl
          ·exact fun _ _ _ h => h
          ·refine Or.inl ⟨by rfl, ?_⟩
           (intro V hSV; (try dsimp only at hSV); obtain ⟨q0, q1, q2, q3, q4, q5, q6, q7, q8⟩ := hSV; go_simp; try with_reducible rfl)
          (try simp only [LY9])
          refine wpAnyH_take (i := 3) (oi := ?_) (v := ?_) ?_ ?_ ?_ ?_ ?_ ?_ (by exact hHeld) ?_
          rotate_left 2
          ·(simp only [LX9]; try rfl)
          ·kernel_rfl
          ·kernel_rfl
          ·kernel_rfl
          ·exact fun _ _ _ h => h
          ·refine Or.inl ⟨by rfl, ?_⟩
           (intro V hSV; (try dsimp only at hSV); obtain ⟨q0, q1, q2, q3, q4, q5, q6, q7, q8⟩ := hSV; go_simp; try with_reducible rfl)
          (try simp only [LY9])
          refine wpAnyH_take (i := 4) (oi := ?_) (v := ?_) ?_ ?_ ?_ ?_ ?_ ?_ (by exact hHeld) ?_
          rotate_left 2
          ·(simp only [LX9]; try rfl)
          ·kernel_rfl
          ·kernel_rfl
          ·kernel_rfl
          ·exact fun _ _ _ h => h
          ·refine Or.inl ⟨by rfl, ?_⟩
           (intro V hSV; (try dsimp only at hSV); obtain ⟨q0, q1, q2, q3, q4, q5, q6, q7, q8⟩ := hSV; go_simp; try with_reducible rfl)
          (try simp only [LY9])
          refine wpAnyH_take (i := 5) (oi := ?_) (v := ?_) ?_ ?_ ?_ ?_ ?_ ?_ (by exact hHeld) ?_
          rotate_left 2
          ·(simp only [LX9]; try rfl)
          ·kernel_rfl
          ·kernel_rfl
          ·kernel_rfl
          ·exact fun _ _ _ h => h
          ·refine Or.inl ⟨by rfl, ?_⟩
           (intro V hSV; (try dsimp only at hSV); obtain ⟨q0, q1, q2, q3, q4, q5, q6, q7, q8⟩ := hSV; go_simp; try with_reducible rfl)
          (try simp only [LY9])
          refine wpAnyH_take (i := 6) (oi := ?_) (v := ?_) ?_ ?_ ?_ ?_ ?_ ?_ (by exact hHeld) ?_
          rotate_left 2
          ·(simp only [LX9]; try rfl)
          ·kernel_rfl
          ·kernel_rfl
          ·kernel_rfl
          ·exact fun _ _ _ h => h
          ·refine Or.inl ⟨by rfl, ?_⟩
           (intro V hSV; (try dsimp only at hSV); obtain ⟨q0, q1, q2, q3, q4, q5, q6, q7, q8⟩ := hSV; go_simp; try with_reducible rfl)
          (try simp only [LY9])
          refine wpAnyH_take (i := 7) (oi := ?_) (v := ?_) ?_ ?_ ?_ ?_ ?_ ?_ (by exact hHeld) ?_
          rotate_left 2
          ·(simp only [LX9]; try rfl)
          ·kernel_rfl
          ·kernel_rfl
          ·kernel_rfl
          ·exact fun _ _ _ h => h
          ·refine Or.inl ⟨by rfl, ?_⟩
           (intro V hSV; (try dsimp only at hSV); obtain ⟨q0, q1, q2, q3, q4, q5, q6, q7, q8⟩ := hSV; go_simp; try with_reducible rfl)
          (try simp only [LY9])
          refine wpAnyH_take (i := 8) (oi := ?_) (v := ?_) ?_ ?_ ?_ ?_ ?_ ?_ (by exact hHeld) ?_
          rotate_left 2
          ·(simp only [LX9]; try rfl)
          ·kernel_rfl
          ·kernel_rfl
          ·kernel_rfl
          ·exact fun _ _ _ h => h
          ·refine Or.inl ⟨by rfl, ?_⟩
           (intro V hSV; (try dsimp only at hSV); obtain ⟨q0, q1, q2, q3, q4, q5, q6, q7, q8⟩ := hSV; go_simp; try with_reducible rfl)
          (try simp only [LY9])
          refine wpAnyH_take (i := 9) (oi := ?_) (v := ?_) ?_ ?_ ?_ ?_ ?_ ?_ (by exact hHeld) ?_
          rotate_left 2
          ·(simp only [LX9]; try rfl)
          ·kernel_rfl
          ·kernel_rfl
          ·kernel_rfl
          ·exact fun _ _ _ h => h
          ·refine Or.inl ⟨by rfl, ?_⟩
           (intro V hSV; (try dsimp only at hSV); obtain ⟨q0, q1, q2, q3, q4, q5, q6, q7, q8⟩ := hSV; go_simp; try with_reducible rfl)
          (try simp only [LY9])
          refine wpAnyH_take (i := 10) (oi := ?_) (v := ?_) ?_ ?_ ?_ ?_ ?_ ?_ (by exact hHeld) ?_
          rotate_left 2
          ·(simp only [LX9]; try rfl)
          ·kernel_rfl
          ·kernel_rfl
          ·kernel_rfl
          ·exact fun _ _ _ h => h
          ·refine Or.inl ⟨by rfl, ?_⟩
           (intro V hSV; (try dsimp only at hSV); obtain ⟨q0, q1, q2, q3, q4, q5, q6, q7, q8⟩ := hSV; go_simp; try with_reducible rfl)
          (try simp only [LY9])
          refine wpAnyH_take (i := 11) (oi := ?_) (v := ?_) ?_ ?_ ?_ ?_ ?_ ?_ (by exact hHeld) ?_
          rotate_left 2
          ·(simp only [LX9]; try rfl)
          ·kernel_rfl
          ·kernel_rfl
          ·kernel_rfl
          ·exact fun _ _ _ h => h
          ·refine Or.inl ⟨by rfl, ?_⟩
           (intro V hSV; (try dsimp only at hSV); obtain ⟨q0, q1, q2, q3, q4, q5, q6, q7, q8⟩ := hSV; go_simp; try with_reducible rfl)
          (try simp only [LY9])
          refine wpAnyH_take (i := 12) (oi := ?_) (v := ?_) ?_ ?_ ?_ ?_ ?_ ?_ (by exact hHeld) ?_
          rotate_left 2
          ·(simp only [LX9]; try rfl)
          ·kernel_rfl
          ·kernel_rfl
          ·kernel_rfl
          ·exact fun _ _ _ h => h
          ·refine Or.inl ⟨by rfl, ?_⟩
           (intro V hSV; (try dsimp only at hSV); obtain ⟨q0, q1, q2, q3, q4, q5, q6, q7, q8⟩ := hSV; go_simp; try with_reducible rfl)
          (try simp only [LY9])
          refine wpAnyH_take (i := 13) (oi := ?_) (v := ?_) ?_ ?_ ?_ ?_ ?_ ?_ (by exact hHeld) ?_
          rotate_left 2
          ·(simp only [LX9]; try rfl)
          ·kernel_rfl
          ·kernel_rfl
          ·kernel_rfl
          ·exact fun _ _ _ h => h
          ·refine Or.inl ⟨by rfl, ?_⟩
           (intro V hSV; (try dsimp only at hSV); obtain ⟨q0, q1, q2, q3, q4, q5, q6, q7, q8⟩ := hSV; go_simp; try with_reducible rfl)
          (try simp only [LY9])
          refine wpAnyH_take (i := 14) (oi := ?_) (v := ?_) ?_ ?_ ?_ ?_ ?_ ?_ (by exact hHeld) ?_
          rotate_left 2
          ·(simp only [LX9]; try rfl)
          ·kernel_rfl
          ·kernel_rfl
          ·kernel_rfl
          ·exact fun _ _ _ h => h
          ·refine Or.inl ⟨by rfl, ?_⟩
           (intro V hSV; (try dsimp only at hSV); obtain ⟨q0, q1, q2, q3, q4, q5, q6, q7, q8⟩ := hSV; go_simp; try with_reducible rfl)
          (try simp only [LY9])
          refine wpAnyH_take (i := 15) (oi := ?_) (v := ?_) ?_ ?_ ?_ ?_ ?_ ?_ (by exact hHeld) ?_
          rotate_left 2
          ·(simp only [LX9]; try rfl)
          ·kernel_rfl
          ·kernel_rfl
          ·kernel_rfl
          ·exact fun _ _ _ h => h
          ·refine Or.inl ⟨by rfl, ?_⟩
           (intro V hSV; (try dsimp only at hSV); obtain ⟨q0, q1, q2, q3, q4, q5, q6, q7, q8⟩ := hSV; go_simp; try with_reducible rfl)
          (try simp only [LY9])
          refine wpAnyH_ready (rs := [16]) (by kernel_rfl) (by simp) ?_
          refine AllReadyH.cons rfl (fun K hK => ?_) AllReadyH.nil
          go_simp
          refine (l07Meet_any x' y' s' t' x y s t _).mono ?_
          rintro e w8 ⟨rfl, hb⟩
          rw [HQM.out]
          have hb : Below wr.heap.size wr w8 := ⟨hb.os, hb.tape, hb.output, hb.size, hb.block⟩
          have HR1 := Lib.hid hb
          clear hb
          go_wp2_with fail
          refine hK.out _ _ (by exact ⟨((HR1.out).cell (p := ⟨w.heap.size, 5, none⟩) hlx).trans p5, ((HR1.out).cell (p := ⟨lb, 0, none⟩) hly).trans m0, ((HR1.out).cell (p := ⟨lb, 1, none⟩) hly).trans m1, ((HR1.out).cell (p := ⟨lb, 2, none⟩) hly).trans m2, ((HR1.out).cell (p := ⟨lb, 3, none⟩) hly).trans m3, ((HR1.out).cell (p := ⟨b, off + j * 4, none⟩) hlz).trans j0, ((HR1.out).cell (p := ⟨b, off + j * 4 + 1, none⟩) hlz).trans j1, ((HR1.out).cell (p := ⟨b, off + j * 4 + 2, none⟩) hlz).trans j2, ((HR1.out).cell (p := ⟨b, off + j * 4 + 3, none⟩) hlz).trans j3⟩) (fun hHeld => ?_)
          clear hK K
          (try simp only [LY9])
          refine wpAnyH_take (i := 17) (oi := ?_) (v := ?_) ?_ ?_ ?_ ?_ ?_ ?_ (by exact hHeld) ?_
          rotate_left 2
          ·(simp only [LX9]; try rfl)
          ·kernel_rfl
          ·kernel_rfl
          ·kernel_rfl
          ·exact fun _ _ _ h => h
          ·refine Or.inl ⟨by rfl, ?_⟩
           (intro V hSV; (try dsimp only at hSV); obtain ⟨q0, q1, q2, q3, q4, q5, q6, q7, q8⟩ := hSV; go_simp; try with_reducible rfl)
          (try simp only [LY9])
          refine wpAnyH_done (by kernel_rfl) ?_ _
          clear hHeld hlx hly hlz p5 m0 m1 m2 m3 j0 j1 j2 j3
          have BX := Lib.hid (BX.out.below HR1.out)
          have MB := Lib.hid (MB.out.below HR1.out)
          have HB := Lib.hid (below_then HB.out HR1.out)
          cases qm
          ·have HN3 := Lib.hid (show (d.lea.take (j + 1)).any (barsL (x, y, s, t)) = false by rw [HTSS.out]; exact HBF.out)
           go_wp2
           go_roundw
           case rel => exact ⟨j + 1, by omega, by go_num, HN3, HB.out, by first | exact BX.out | (rw [← HAM.out]; exact BX.out), MB.out⟩
           case measure => simp [intOf]; omega
          ·have hpf : leaPair d.text d.clock d.lea k d.lea[k] = false := by
            rw [HGE.out]
            have h9 : (d.lea.take (j + 1)).any (barsL (x, y, s, t)) = true := by rw [HTSS.out]; exact HBF.out
            have h8 : (d.lea.take k).any (barsL (x, y, s, t)) = true := by
             rw [List.any_eq_true] at h9 ⊢
             obtain ⟨z, hz, hb⟩ := h9
             exact ⟨z, List.take_subset_take_left d.lea (by omega) hz, hb⟩
            rw [h8]; rfl
           have e : R = false := by rw [← HR.out]; exact docOk_pair hlt hpf
           subst e
           go_wp2
           go_ret
           exact ⟨rfl, HB.out⟩
        ·have e : j = k := by omega
         have HMN := Lib.hid (show ∀ i (h : i < d.lea.length), i < k + 1 → leaPair d.text d.clock d.lea i d.lea[i] = true from fun i h hi => by
          by_cases e2 : i = k
          ·subst e2
           have h9 := HN2.out
           rw [e] at h9
           rw [HGE.out, h9]; rfl
          ·exact HM.out i h (by omega))
         have hnlt : ¬ (j : Int) < (k : Int) := by omega
         clear e
         go_wp2
         go_roundw
         case rel => exact ⟨k + 1, by omega, by go_num, HMN, HB.out, by first | exact BX.out | (rw [← HAM.out]; exact BX.out)⟩
         case measure => simp [intOf]; omega
      ·have e : R = true := by
        rw [← HR.out]
        exact docOk_yes hl6 HQC.out HQL.out HRT.out HSE.out HMT.out (fun i h => HM.out i h (by omega))
       subst e
       go_wp2
       go_ret
       exact ⟨rfl, HB.out⟩
end Go.Proofs.YtaekanhjkpoifaaGreatDoor
