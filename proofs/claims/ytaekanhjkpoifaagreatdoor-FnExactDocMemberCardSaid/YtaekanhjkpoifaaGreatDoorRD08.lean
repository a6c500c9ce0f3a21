/-
 Chapter 10, when members and leases of a document, and a document, are valid: the program's contracts. Own work.
-/
import Derived.Test.YtaekanhjkpoifaaGreatDoorRp9
import Derived.Test.YtaekanhjkpoifaaGreatDoorRp0
namespace Go.Proofs.YtaekanhjkpoifaaGreatDoor
open Go.RowKit P
set_option linter.unusedVariables false
set_option linter.unusedSimpArgs false
set_option maxRecDepth 100000

set_option maxHeartbeats 16000000 in
theorem membersOk_any (a : Da) (d : Dc) (w : World) (ht : isText d.text = true) (hT : Tab w) (hD : RdD w a d) :
  Calls Tryz.prog 72 #[.agg #[.slice a.s d.start.length a.cs, .slice a.t d.text.length a.ct, .slice a.l d.log.length a.cl, .int .i64 d.clock, .slice a.m d.mem.length a.cm, .slice a.e d.lea.length a.ce]] w fun e w' => e = .returned (.bool (memOk d.text 0 d.mem)) ∧ Below w.heap.size w w' := by
 have hal := (Below.refl w.heap.size w).alloc (Nat.le_refl _) (.cells #[.slice a.s d.start.length a.cs, .slice a.t d.text.length a.ct, .slice a.l d.log.length a.cl, .int .i64 d.clock, .slice a.m d.mem.length a.cm, .slice a.e d.lea.length a.ce] 36)
 have BX := Lib.hid (Blk.new w #[.slice a.s d.start.length a.cs, .slice a.t d.text.length a.ct, .slice a.l d.log.length a.cl, .int .i64 d.clock, .slice a.m d.mem.length a.cm, .slice a.e d.lea.length a.ce] 36)
 have HK := Lib.hid (show ∀ W, Below w.heap.size w W → Tab W ∧ RdD W a d from fun W h => ⟨hT.below h, hD.below h⟩)
 have HB := Lib.hid hal
 obtain ⟨n1, n2, n3, n4, n5⟩ := hD.n9
 have ht4 := isText_len ht
 have HN := Lib.hid (show d.text.length ≤ a.ct ∧ a.ct ≤ 9223372036854775807 from ⟨hD.ht.1, by have h := hD.ht.2; unfold maxLen at h; omega⟩)
 obtain ⟨R0, hR0⟩ : ∃ R, memOk d.text 0 d.mem = R := ⟨_, rfl⟩
 rw [hR0]
 have HR0 := Lib.hid hR0
 clear hD hT hal hR0
 have p4 := BX.out.cell 4
 go_enter Tryz.func72, Tryz.ntmps72
 go_wp2
 clear p4
 go_loopw [3, 9] (fun la i wr => ∃ k : Nat, k ≤ d.mem.length ∧ i = .int .i64 k ∧ la = .int .i64 (lastS d.mem k) ∧ Hid (memOk d.text 0 d.mem = memOk d.text (lastS d.mem k) (d.mem.drop k)) ∧ Below w.heap.size w wr ∧ Blk wr w.heap.size #[.slice a.s d.start.length a.cs, .slice a.t d.text.length a.ct, .slice a.l d.log.length a.cl, .int .i64 d.clock, .slice a.m d.mem.length a.cm, .slice a.e d.lea.length a.ce] 36) (fun _ i _ => d.mem.length - (intOf i).toNat)
 case atStart => exact ⟨0, Nat.zero_le _, rfl, by rw [lastS_zero], Lib.hid (by rw [lastS_zero]; rfl), HB.out, BX.out⟩
 case round =>
  obtain ⟨k, hk, rfl, rfl, HM, hb, bx⟩ := hrel
  have HB := Lib.hid hb
  have BX := Lib.hid bx
  clear hb bx
  by_cases hlt : k < d.mem.length
  ·obtain ⟨b, off, s, f, t, U, u, cu, R, r, cr, hA, hbl, hek, k0, k1, k2, k3, k4, hs, hf, htt, hcu, hcm, hdr, hdm, hU, hR⟩ := (HK.out _ HB.out).2.m.at_ k hlt
   have HAM := Lib.hid hA
   rw [hA]
   have hst := memOk_step hlt HM.out
   rw [hek, lastS_succ d.mem k hlt, hek] at hst
   have hsu := lastS_succ d.mem k hlt
   rw [hek] at hsu
   obtain ⟨la, hla⟩ : ∃ la, lastS d.mem k = la := ⟨_, rfl⟩
   rw [hla] at hst ⊢
   obtain ⟨q1, h1⟩ : ∃ q, ses s = q := ⟨_, rfl⟩
   obtain ⟨q2, h2⟩ : ∃ q, selOk d.text f t = q := ⟨_, rfl⟩
   obtain ⟨q3, h3⟩ : ∃ q, canT d.text u r = q := ⟨_, rfl⟩
   have hgd : mbGood d.text la (s, (f, t), (u, r)) = (decide (la < s) && (q1 && (q2 && q3))) := by rw [← h1, ← h2, ← h3]; rfl
   rw [hgd, HR0.out] at hst
   have HST := Lib.hid hst
   have H1 := Lib.hid (show decide (1 ≤ s ∧ s ≤ 8) = q1 from h1)
   have H2 := Lib.hid h2
   have H3 := Lib.hid h3
   have HSU := Lib.hid hsu
   have HU := Lib.hid hU
   have HR := Lib.hid hR
   have hu9 : u.length ≤ 9223372036854775807 := by unfold maxLen at hcm; omega
   have hr9 : r.length ≤ 9223372036854775807 := by unfold maxLen at hdm; omega
   have hki : (k : Int) < (d.mem.length : Int) := by omega
   have hbl9 := BX.out.lt
   clear hst hgd h1 h2 h3 hsu hU hR hek hla hs hf htt hcu hcm hdr hdm hA HM
   by_cases hla : la < s
   rotate_left 1
   ·have hz : R0 = false := by rw [HST.out, decide_eq_false hla]; rfl
    have hg : decide (s ≤ la) = true := decide_eq_true (by omega)
    subst hz
    go_wp2
    go_ret
    refine ⟨rfl, ?_⟩
    have h9 := HB.out
    (repeat (first | exact Below.refl _ _ | assumption | refine Below.setCell ?_ (by first | (simp; done) | (simp; omega) | omega) _ | refine Below.drew ?_ | refine below_drewN ?_ _ | refine Below.alloc ?_ (by first | (simp; done) | (simp; omega) | omega) _))
   have hg : decide (s ≤ la) = false := decide_eq_false (by omega)
   have HST := Lib.hid (show R0 = ((q1 && (q2 && q3)) && memOk d.text s (d.mem.drop (k + 1))) by rw [HST.out, decide_eq_true hla]; rfl)
   have hal2 := (Below.refl wr.heap.size wr).alloc (Nat.le_refl _) (.cells #[.int .i64 s, .int .i64 f, .int .i64 t, .slice U u.length cu, .slice R r.length cr] 50)
   have MB := Lib.hid (Blk.new wr #[.int .i64 s, .int .i64 f, .int .i64 t, .slice U u.length cu, .slice R r.length cr] 50)
   have BX := Lib.hid (BX.out.below hal2)
   have HB := Lib.hid (below_then HB.out hal2)
   have HU := Lib.hid (HU.out.below hal2)
   have HR := Lib.hid (HR.out.below hal2)
   go_wp2_with fail
   generalize wr.alloc (.cells #[.int .i64 s, .int .i64 f, .int .i64 t, .slice U u.length cu, .slice R r.length cr] 50) = W1 at *
   refine (isSession_any s _).mono ?_
   rintro e w1 ⟨rfl, rfl⟩
   rw [H1.out]
   clear k0 k1 k2 k3 k4 hal2
   cases q1
   ·have hz : R0 = false := by rw [HST.out]; rfl
    subst hz
    go_wp2
    go_ret
    exact ⟨rfl, HB.out⟩
   have p1 := BX.out.cell 1
   have m1 := MB.out.cell 1
   have m2 := MB.out.cell 2
   go_wp2_with fail
   refine (implSelOk_any a.t d.text a.ct f t _ HN.out.1 HN.out.2 (HK.out _ HB.out).1 (HK.out _ HB.out).2.t).mono ?_
   rintro e w2 ⟨rfl, hb⟩
   rw [H2.out]
   have BX := Lib.hid (BX.out.below hb)
   have MB := Lib.hid (MB.out.below hb)
   have HB := Lib.hid (below_then HB.out hb)
   have HU := Lib.hid (HU.out.below hb)
   have HR := Lib.hid (HR.out.below hb)
   clear hb p1 m1 m2
   cases q2
   ·have hz : R0 = false := by rw [HST.out]; rfl
    subst hz
    go_wp2
    go_ret
    exact ⟨rfl, HB.out⟩
   have p1 := BX.out.cell 1
   have m0 := MB.out.cell 0
   have m1 := MB.out.cell 1
   have m2 := MB.out.cell 2
   have m3 := MB.out.cell 3
   have m4 := MB.out.cell 4
   go_wp2_with fail
   refine (canTurn_any s f t U u cu R r cr a.t d.text a.ct _ ht4 hu9 hr9 (HK.out _ HB.out).1 (HK.out _ HB.out).2.t HU.out HR.out).mono ?_
   rintro e w3 ⟨rfl, hb⟩
   rw [H3.out]
   have BX := Lib.hid (BX.out.below hb)
   have MB := Lib.hid (MB.out.below hb)
   have HB := Lib.hid (below_then HB.out hb)
   clear hb p1 m0 m1 m2 m3 m4
   cases q3
   ·have hz : R0 = false := by rw [HST.out]; rfl
    subst hz
    go_wp2
    go_ret
    exact ⟨rfl, HB.out⟩
   have HMN := Lib.hid (show memOk d.text 0 d.mem = memOk d.text (lastS d.mem (k + 1)) (d.mem.drop (k + 1)) by rw [HR0.out, HST.out, HSU.out]; rfl)
   have m0 := MB.out.cell 0
   go_wp2
   go_roundw
   case rel => exact ⟨k + 1, by omega, by go_num, by rw [HSU.out], HMN, HB.out, by first | exact BX.out | (rw [← HAM.out]; exact BX.out)⟩
   case measure => simp [intOf]; omega
  ·have hz : R0 = true := by rw [← HR0.out]; exact memOk_done (by omega) HM.out
   subst hz
   go_wp2
   go_ret
   exact ⟨rfl, HB.out⟩

set_option maxHeartbeats 16000000 in
theorem leasesOk_any (a : Da) (d : Dc) (w : World) (hD : RdD w a d) :
  Calls Tryz.prog 73 #[.agg #[.slice a.s d.start.length a.cs, .slice a.t d.text.length a.ct, .slice a.l d.log.length a.cl, .int .i64 d.clock, .slice a.m d.mem.length a.cm, .slice a.e d.lea.length a.ce]] w fun e w' => e = .returned (.bool (leaOk d)) ∧ Below w.heap.size w w' := by
 have hal := (Below.refl w.heap.size w).alloc (Nat.le_refl _) (.cells #[.slice a.s d.start.length a.cs, .slice a.t d.text.length a.ct, .slice a.l d.log.length a.cl, .int .i64 d.clock, .slice a.m d.mem.length a.cm, .slice a.e d.lea.length a.ce] 36)
 have BX := Lib.hid (Blk.new w #[.slice a.s d.start.length a.cs, .slice a.t d.text.length a.ct, .slice a.l d.log.length a.cl, .int .i64 d.clock, .slice a.m d.mem.length a.cm, .slice a.e d.lea.length a.ce] 36)
 have HK := Lib.hid (show ∀ W, Below w.heap.size w W → RdD W a d from fun W h => hD.below h)
 have HB := Lib.hid hal
 obtain ⟨n1, n2, n3, n4, n5⟩ := hD.n9
 obtain ⟨q, hq⟩ : ∃ q, leOk d.lea = q := ⟨_, rfl⟩
 have HQ := Lib.hid hq
 obtain ⟨R0, hR0⟩ : ∃ R, leaAll d = R := ⟨_, rfl⟩
 obtain ⟨R1, hR1⟩ : ∃ R, leaOk d = R := ⟨_, rfl⟩
 have HR1 := Lib.hid (show R1 = (q && R0) by rw [← hR1, ← hq, ← hR0]; rfl)
 rw [hR1]
 have F0 : ∀ k (h : k < d.lea.length), leaGood d.text d.clock d.lea d.lea[k] = false → R0 = false := fun k h h2 => by
  rw [← hR0]
  unfold leaAll
  rw [List.all_eq_false]
  exact ⟨_, List.getElem_mem h, by rw [h2]; simp⟩
 have F1 : (∀ k (h : k < d.lea.length), leaGood d.text d.clock d.lea d.lea[k] = true) → R0 = true := fun h => by
  rw [← hR0]
  unfold leaAll
  rw [List.all_eq_true]
  intro x hx
  obtain ⟨k, hk, rfl⟩ := List.getElem_of_mem hx
  exact h k hk
 have G0 := Lib.hid F0
 have G1 := Lib.hid F1
 clear hD hal hR0 hR1 hq F0 F1
 have p5 := BX.out.cell 5
 go_enter Tryz.func73, Tryz.ntmps73
 go_wp2_with fail
 generalize w.alloc (.cells #[.slice a.s d.start.length a.cs, .slice a.t d.text.length a.ct, .slice a.l d.log.length a.cl, .int .i64 d.clock, .slice a.m d.mem.length a.cm, .slice a.e d.lea.length a.ce] 36) = W at *
 refine (implLeasesOk_any a.e d.lea a.ce _ n5 (HK.out _ HB.out).e).mono ?_
 rintro e w1 ⟨rfl, hb⟩
 rw [HQ.out]
 have BX := Lib.hid (BX.out.below hb)
 have HB := Lib.hid (below_then HB.out hb)
 clear hb p5
 cases q
 ·have e : R1 = false := by rw [HR1.out]; rfl
  subst e
  go_wp2
  go_ret
  exact ⟨rfl, HB.out⟩
 have e : R1 = R0 := by rw [HR1.out]; rfl
 subst e
 clear HR1
 have p5 := BX.out.cell 5
 go_wp2
 clear p5
 go_loopw [12] (fun i wr => ∃ k : Nat, k ≤ d.lea.length ∧ i = .int .i64 k ∧ Hid (∀ j (h : j < d.lea.length), j < k → leaGood d.text d.clock d.lea d.lea[j] = true) ∧ Below w.heap.size w wr ∧ Blk wr w.heap.size #[.slice a.s d.start.length a.cs, .slice a.t d.text.length a.ct, .slice a.l d.log.length a.cl, .int .i64 d.clock, .slice a.m d.mem.length a.cm, .slice a.e d.lea.length a.ce] 36) (fun i _ => d.lea.length - (intOf i).toNat)
 case atStart => exact ⟨0, Nat.zero_le _, rfl, Lib.hid (fun j _ h => absurd h (Nat.not_lt_zero _)), HB.out, BX.out⟩
 case round =>
  obtain ⟨k, hk, rfl, HM, hb, bx⟩ := hrel
  have HB := Lib.hid hb
  have BX := Lib.hid bx
  clear hb bx
  by_cases hlt : k < d.lea.length
  ·obtain ⟨b, off, x, y, s, t, hA, hbl, hek, k0, k1, k2, k3, hin⟩ := (HK.out _ HB.out).e.at_ k hlt
   have HAE := Lib.hid hA
   rw [hA]
   obtain ⟨q1, h1⟩ : ∃ q, decide (d.clock < t) = q := ⟨_, rfl⟩
   obtain ⟨q2, h2⟩ : ∃ q, isBound d.text x = q := ⟨_, rfl⟩
   obtain ⟨q3, h3⟩ : ∃ q, isBound d.text y = q := ⟨_, rfl⟩
   obtain ⟨q4, h4⟩ : ∃ q, heldL d.lea (x, y, s, t) d.clock = q := ⟨_, rfl⟩
   have hgd : leaGood d.text d.clock d.lea d.lea[k] = (q1 && (q2 && (q3 && !q4))) := by rw [hek, ← h1, ← h2, ← h3, ← h4]; rfl
   have HGD := Lib.hid hgd
   have H1 := Lib.hid h1
   have H2 := Lib.hid h2
   have H3 := Lib.hid h3
   have H4 := Lib.hid h4
   have hki : (k : Int) < (d.lea.length : Int) := by omega
   have hbl9 := BX.out.lt
   clear hgd h1 h2 h3 h4 hek hin hA
   have hal2 := (Below.refl wr.heap.size wr).alloc (Nat.le_refl _) (.cells #[.int .i64 x, .int .i64 y, .int .i64 s, .int .i64 t] 106)
   have MB := Lib.hid (Blk.new wr #[.int .i64 x, .int .i64 y, .int .i64 s, .int .i64 t] 106)
   have BX := Lib.hid (BX.out.below hal2)
   have HB := Lib.hid (below_then HB.out hal2)
   have p3 := BX.out.cell 3
   go_wp2_with fail
   generalize wr.alloc (.cells #[.int .i64 x, .int .i64 y, .int .i64 s, .int .i64 t] 106) = W1 at *
   refine (isActive_any x y s t d.clock _).mono ?_
   rintro e w2 ⟨rfl, hb⟩
   rw [H1.out]
   have BX := Lib.hid (BX.out.below hb)
   have MB := Lib.hid (MB.out.below hb)
   have HB := Lib.hid (below_then HB.out hb)
   clear hb p3 k0 k1 k2 k3 hal2
   cases q1
   ·have hz := G0.out k hlt (by rw [HGD.out]; rfl)
    subst hz
    go_wp2
    go_ret
    exact ⟨rfl, HB.out⟩
   have p1 := BX.out.cell 1
   have m0 := MB.out.cell 0
   go_wp2_with fail
   refine (isBoundary_any a.t d.text a.ct x _ n2 (HK.out _ HB.out).t).mono ?_
   rintro e w3 ⟨rfl, rfl⟩
   rw [H2.out]
   cases q2
   ·have hz := G0.out k hlt (by rw [HGD.out]; rfl)
    subst hz
    go_wp2
    go_ret
    exact ⟨rfl, HB.out⟩
   have m1 := MB.out.cell 1
   go_wp2_with fail
   refine (isBoundary_any a.t d.text a.ct y _ n2 (HK.out _ HB.out).t).mono ?_
   rintro e w4 ⟨rfl, rfl⟩
   rw [H3.out]
   cases q3
   ·have hz := G0.out k hlt (by rw [HGD.out]; rfl)
    subst hz
    go_wp2
    go_ret
    exact ⟨rfl, HB.out⟩
   have m2 := MB.out.cell 2
   have m3 := MB.out.cell 3
   have p5 := BX.out.cell 5
   have p3 := BX.out.cell 3
   rw [HAE.out] at p5
   go_wp2_with fail
   refine (isHeld_any _ d.lea a.ce x y s t d.clock _ HQ.out (by have h9 := (HK.out _ HB.out).e; rw [HAE.out] at h9; exact h9)).mono ?_
   rintro e w5 ⟨rfl, hb⟩
   rw [H4.out]
   have BX := Lib.hid (BX.out.below hb)
   have HB := Lib.hid (below_then HB.out hb)
   clear hb p1 p3 p5 m0 m1 m2 m3 MB
   cases q4
   rotate_left 1
   ·have hz := G0.out k hlt (by rw [HGD.out]; rfl)
    subst hz
    go_wp2
    go_ret
    exact ⟨rfl, HB.out⟩
   have HMN := Lib.hid (show ∀ j (h : j < d.lea.length), j < k + 1 → leaGood d.text d.clock d.lea d.lea[j] = true from fun j h hj => by
    by_cases e : j = k
    ·subst e; rw [HGD.out]; rfl
    ·exact HM.out j h (by omega))
   go_wp2
   go_roundw
   case rel => exact ⟨k + 1, by omega, by go_num, HMN, HB.out, by first | exact BX.out | (rw [← HAE.out]; exact BX.out)⟩
   case measure => simp [intOf]; omega
  ·have hz := G1.out (fun j h => HM.out j h (by omega))
   subst hz
   go_wp2
   go_ret
   exact ⟨rfl, HB.out⟩

set_option maxHeartbeats 8000000 in
theorem implDocOk_any (a : Da) (d : Dc) (w : World) (hT : Tab w) (hD : RdD w a d) :
  Calls Tryz.prog 34 #[.agg #[.slice a.s d.start.length a.cs, .slice a.t d.text.length a.ct, .slice a.l d.log.length a.cl, .int .i64 d.clock, .slice a.m d.mem.length a.cm, .slice a.e d.lea.length a.ce]] w fun e w' => e = .returned (.bool (docOk d)) ∧ Below w.heap.size w w' := by
 have hal := (Below.refl w.heap.size w).alloc (Nat.le_refl _) (.cells #[.slice a.s d.start.length a.cs, .slice a.t d.text.length a.ct, .slice a.l d.log.length a.cl, .int .i64 d.clock, .slice a.m d.mem.length a.cm, .slice a.e d.lea.length a.ce] 36)
 have BX := Lib.hid (Blk.new w #[.slice a.s d.start.length a.cs, .slice a.t d.text.length a.ct, .slice a.l d.log.length a.cl, .int .i64 d.clock, .slice a.m d.mem.length a.cm, .slice a.e d.lea.length a.ce] 36)
 have HK := Lib.hid (show ∀ W, Below w.heap.size w W → Tab W ∧ RdD W a d from fun W h => ⟨hT.below h, hD.below h⟩)
 have HB := Lib.hid hal
 obtain ⟨q1, h1⟩ : ∃ q, logOk d = q := ⟨_, rfl⟩
 obtain ⟨q2, h2⟩ : ∃ q, clkOk d.clock = q := ⟨_, rfl⟩
 obtain ⟨q3, h3⟩ : ∃ q, memOk d.text 0 d.mem = q := ⟨_, rfl⟩
 obtain ⟨q4, h4⟩ : ∃ q, leaOk d = q := ⟨_, rfl⟩
 rw [show docOk d = (q1 && (q2 && (q3 && q4))) by rw [← h1, ← h2, ← h3, ← h4]; rfl]
 have H1 := Lib.hid h1
 have H2 := Lib.hid (show decide (0 ≤ d.clock ∧ d.clock ≤ 1000) = q2 from h2)
 have H3 := Lib.hid h3
 have H4 := Lib.hid h4
 clear hD hT hal h1 h2 h3 h4
 have p0 := BX.out.cell 0
 have p1 := BX.out.cell 1
 have p2 := BX.out.cell 2
 have p3 := BX.out.cell 3
 have p4 := BX.out.cell 4
 have p5 := BX.out.cell 5
 go_enter Tryz.func34, Tryz.ntmps34
 go_wp2_with fail
 generalize w.alloc (.cells #[.slice a.s d.start.length a.cs, .slice a.t d.text.length a.ct, .slice a.l d.log.length a.cl, .int .i64 d.clock, .slice a.m d.mem.length a.cm, .slice a.e d.lea.length a.ce] 36) = W at *
 refine (logOk_any a d _ (HK.out _ HB.out).1 (HK.out _ HB.out).2).mono ?_
 rintro e w1 ⟨rfl, hb⟩
 rw [H1.out]
 have BX := Lib.hid (BX.out.below hb)
 have HB := Lib.hid (below_then HB.out hb)
 clear hb p0 p1 p2 p3 p4 p5
 cases q1
 ·go_wp2
  go_ret
  exact ⟨rfl, HB.out⟩
 have htx := logOk_text H1.out
 have p3 := BX.out.cell 3
 go_wp2_with fail
 refine (fitsClock_any d.clock _).mono ?_
 rintro e w2 ⟨rfl, rfl⟩
 rw [H2.out]
 clear p3
 cases q2
 ·go_wp2
  go_ret
  exact ⟨rfl, HB.out⟩
 have p0 := BX.out.cell 0
 have p1 := BX.out.cell 1
 have p2 := BX.out.cell 2
 have p3 := BX.out.cell 3
 have p4 := BX.out.cell 4
 have p5 := BX.out.cell 5
 go_wp2_with fail
 refine (membersOk_any a d _ htx (HK.out _ HB.out).1 (HK.out _ HB.out).2).mono ?_
 rintro e w3 ⟨rfl, hb⟩
 rw [H3.out]
 have BX := Lib.hid (BX.out.below hb)
 have HB := Lib.hid (below_then HB.out hb)
 clear hb p0 p1 p2 p3 p4 p5
 cases q3
 ·go_wp2
  go_ret
  exact ⟨rfl, HB.out⟩
 have p0 := BX.out.cell 0
 have p1 := BX.out.cell 1
 have p2 := BX.out.cell 2
 have p3 := BX.out.cell 3
 have p4 := BX.out.cell 4
 have p5 := BX.out.cell 5
 go_wp2_with fail
 refine (leasesOk_any a d _ (HK.out _ HB.out).2).mono ?_
 rintro e w4 ⟨rfl, hb⟩
 rw [H4.out]
 have HB := Lib.hid (below_then HB.out hb)
 clear hb p0 p1 p2 p3 p4 p5
 go_wp2
 go_ret
 exact ⟨rfl, HB.out⟩
end Go.Proofs.YtaekanhjkpoifaaGreatDoor
