/-
  Chapter 7, LeaseMoved in the program and in the model: contracts. Own work.
-/
import Derived.Test.YtdmmdbapkogdhaaS15
import Derived.Test.YtdmmdbapkogdhaaP16
import Derived.Test.YtdmmdbapkogdhaaJ09
import Derived.Deep.DeepCutAuto
namespace Go.Proofs.Ytdmmdbapkogdhaa
open Go.RowKit P
set_option linter.unusedVariables false
set_option linter.unusedSimpArgs false
set_option maxRecDepth 100000

theorem after_app3 {w wr w4 : World} {v : Value} {out : List Le} {cs : Array Value} (hbx : Blk wr w.heap.size cs 30) (how : OwR wr (w.heap.size + 1) v out) (hb : Below w.heap.size w wr) (o : Obj) (hg : (wr.alloc o).grownBy w4 v.ownBlock) :
    Blk w4 w.heap.size cs 30 ∧ Below w.heap.size w w4 := by
  have hk := Keeps.of_grown hg
  have hz := hbx.lt
  refine ⟨(hbx.alloc o).of_block (hk.block _ (by simp; omega) (fun hm => by have := (how.range _ hm).1; omega)), ?_⟩
  exact (hb.alloc hb.size o).trans (hk.below (B := w.heap.size) (by simp; omega) (fun k hm => by have := (how.range k hm).1; omega))

set_option maxHeartbeats 16000000 in
theorem implLeaseMoved_any (A : Option Addr) (es : List Le) (c : Nat) (a m : Int) (Ap : Option Addr) (lp : List UInt8) (cp : Nat) (w : World) (hl : es.length ≤ 1048576) (hl9 : lp.length ≤ 9223372036854775807) (hA : Ll w A es) :
    Calls Try.prog 27 #[.slice A es.length c, .agg #[.int .i64 a, .int .i64 m, .slice Ap lp.length cp]] w fun e w' => ∃ v, e = .returned v ∧ OwR w' w.heap.size v (movedL es a m lp) ∧ Below w.heap.size w w' := by
  have hn9 : es.length ≤ 9223372036854775807 := by omega
  obtain ⟨z, hz⟩ : ∃ z, leOk es = z := ⟨_, rfl⟩
  obtain ⟨L, hL⟩ : ∃ L, movedL es a m lp = L := ⟨_, rfl⟩
  rw [hL]
  have HZ := Lib.hid hz
  have HL := Lib.hid hL
  have hA0 := Lib.hid hA
  have BX := Lib.hid (Blk.new w #[.int .i64 a, .int .i64 m, .slice Ap lp.length cp] 30)
  have HB := Lib.hid ((Below.refl w.heap.size w).alloc (Nat.le_refl _) (.cells #[.int .i64 a, .int .i64 m, .slice Ap lp.length cp] 30))
  clear hz hL hA
  go_enter Try.func27, Try.ntmps27
  have HA := Lib.hid (hA0.out.below HB.out)
  go_wp2_with fail
  refine (implLeasesOk_any A es c _ hn9 HA.out).mono ?_
  rintro e w1 ⟨rfl, hb⟩
  rw [HZ.out]
  have BX := Lib.hid (BX.out.below hb)
  have HB := Lib.hid (below_then HB.out hb)
  clear hb HA
  cases z
  · have HN := Lib.hid (HL.out.symm.trans (movedL_no HZ.out))
    go_wp2
    go_ret
    exact ⟨_, rfl, by rw [HN.out]; exact OwR.nil _ _, HB.out⟩
  have hlen := leOk_len HZ.out
  go_wp2
  go_loopw [5, 13] (fun o i wr => ∃ (k : Nat) (v : Value), k ≤ es.length ∧ i = .int .i64 k ∧ v = o ∧ Hid ((es.take k).all (fit1 a m lp) = true) ∧ OwR wr (w.heap.size + 1) v (mvS a m lp (es.take k)) ∧ Blk wr w.heap.size #[.int .i64 a, .int .i64 m, .slice Ap lp.length cp] 30 ∧ Below w.heap.size w wr)
    (fun _ i _ => es.length - (intOf i).toNat)
  case atStart => exact ⟨0, _, Nat.zero_le _, rfl, rfl, Lib.hid (by simp), OwR.nil _ _, BX.out, HB.out⟩
  case round =>
    obtain ⟨k, v, hk, rfl, rfl, HALL, how, hbx, hb⟩ := hrel
    have HOW := Lib.hid how
    have BX := Lib.hid hbx
    have HB := Lib.hid hb
    have HLT := Lib.hid (show ∀ q ∈ v.ownBlock.toList, q < wr.heap.size from fun q hq => (how.range q hq).2)
    clear how hbx hb
    by_cases hlt : k < es.length
    · skip
      have hki0 : (0 : Int) ≤ (k : Int) := by omega
      have hki : (k : Int) < (es.length : Int) := by omega
      obtain ⟨b, off, x0, y0, s0, t0, rfl, hbl, hek, k0, k1, k2, k3, hin0⟩ := (hA0.out.below HB.out).at_ k hlt
      have hrt := leOk_right HZ.out _ (List.getElem_mem hlt)
      obtain ⟨I, hI⟩ : ∃ I, spanI x0 y0 a m lp = I := ⟨_, rfl⟩
      obtain ⟨J, hJ⟩ : ∃ J, spanJ x0 y0 a m lp = J := ⟨_, rfl⟩
      have hmv : mv1 a m lp es[k] = (I, J, s0, t0) := by unfold mv1; rw [hek]; simp only [hI, hJ]
      have hft : fit1 a m lp es[k] = decide (0 ≤ J ∧ J ≤ 400) := by unfold fit1; rw [hek]; simp only [hJ]
      have hnx := mvS_next (a := a) (m := m) (lp := lp) hlt
      rw [hmv] at hnx
      simp only [hek, hI, hJ] at hnx
      have HI := Lib.hid hI
      have HJ := Lib.hid hJ
      have HMV := Lib.hid hmv
      have HFT := Lib.hid hft
      have HNX := Lib.hid hnx
      have HRT := Lib.hid hrt
      have HEK := Lib.hid hek
      clear hI hJ hmv hft hnx hrt hek hin0
      have hal := (Below.refl wr.heap.size wr).alloc (Nat.le_refl _) (.cells #[.int .i64 x0, .int .i64 y0, .int .i64 s0, .int .i64 t0] 26)
      have LB := Lib.hid (Blk.new wr #[.int .i64 x0, .int .i64 y0, .int .i64 s0, .int .i64 t0] 26)
      have hzx0 := BX.out.lt
      have HOW := Lib.hid (HOW.out.below hal)
      have BX := Lib.hid (BX.out.below hal)
      have HB1 := Lib.hid (below_then HB.out hal)
      have hlw := LB.out.lt
      have hzb := HB.out.size
      have hzx := BX.out.lt
      have q0 := LB.out.cell 0
      have q1 := LB.out.cell 1
      have p0 := BX.out.cell 0
      have p1 := BX.out.cell 1
      have p2 := BX.out.cell 2
      clear hal HB
      go_wp2_with fail
      generalize wr.alloc (.cells #[.int .i64 x0, .int .i64 y0, .int .i64 s0, .int .i64 t0] 26) = W1 at *
      refine (implSpanMove_any x0 y0 a m Ap lp cp _ hl9).mono ?_
      rintro e w2 ⟨rfl, hb2⟩
      rw [HI.out, HJ.out]
      have LB := Lib.hid (LB.out.below hb2)
      have HOW := Lib.hid (HOW.out.below hb2)
      have BX := Lib.hid (BX.out.below hb2)
      have HB := Lib.hid (below_then HB1.out hb2)
      have hlw2 : wr.heap.size < w2.heap.size := LB.out.lt
      clear k0 k1 k2 k3 q0 q1 p0 p1 p2 hb2 HB1
      have f0 := LB.out.frozen 0
      have f1 := LB.out.frozen 1
      have q0 := LB.out.cell 0
      have q1 := LB.out.cell 1
      have q2 := LB.out.cell 2
      have q3 := LB.out.cell 3
      have hkp := ((Keeps.refl [wr.heap.size] w2).put (List.mem_singleton.2 rfl) 0 (.int .i64 I)).put (List.mem_singleton.2 rfl) 1 (.int .i64 J)
      have LB3 := Lib.hid (show Blk ((w2.setCell ⟨wr.heap.size, 0, none⟩ (.int .i64 I)).setCell ⟨wr.heap.size, 1, none⟩ (.int .i64 J)) wr.heap.size #[.int .i64 I, .int .i64 J, .int .i64 s0, .int .i64 t0] 26 by simpa using (LB.out.set 0 (.int .i64 I)).set 1 (.int .i64 J))
      have HOW3 := Lib.hid (HOW.out.keeps hkp (fun q hq => by
        have h9 := HOW.out.range q hq
        have h8 : q < wr.heap.size := HLT.out q hq
        simp
        omega))
      have BX3 := Lib.hid (BX.out.of_block (hkp.block _ BX.out.lt (by simp; omega)))
      have HB3 := Lib.hid (HB.out.trans (hkp.below (B := w.heap.size) HB.out.size (fun q hq => by simp at hq; omega)))
      clear LB HOW BX HB hkp
      go_upto_region 8 with fail
      generalize (w2.setCell ⟨wr.heap.size, 0, none⟩ (.int .i64 I)).setCell ⟨wr.heap.size, 1, none⟩ (.int .i64 J) = w3 at *
      clear q0 q1 q2 q3 f0 f1
      have q0 := LB3.out.cell 0
      have q1 := LB3.out.cell 1
      have q2 := LB3.out.cell 2
      have q3 := LB3.out.cell 3
      obtain ⟨f, hf⟩ : ∃ f, decide (0 ≤ J ∧ J ≤ 400) = f := ⟨_, rfl⟩
      have HF := Lib.hid hf
      clear hf
      go_wp2_with fail
      refine (fitsText_e J f _ HF.out).mono ?_
      rintro e w4 ⟨rfl, rfl⟩
      cases f
      · have HN := Lib.hid (HL.out.symm.trans (movedL_not hlt (HFT.out.trans HF.out)))
        go_wp2
        go_ret
        exact ⟨_, rfl, by rw [HN.out]; exact OwR.nil _ _, HB3.out⟩
      have HAL2 := Lib.hid (all_next hlt HALL.out (HFT.out.trans HF.out))
      by_cases hIJ : I < J
      · have hst := HNX.out
        rw [if_pos hIJ] at hst
        have HST := Lib.hid hst
        have hri := mv1_right HRT.out (HFT.out.trans HF.out)
        rw [HMV.out] at hri
        have hin := leIn_right hri
        have how2 := HOW3.out.below ((Below.refl w4.heap.size w4).alloc (Nat.le_refl _) (.cells (leC (I, J, s0, t0)) 26))
        have hnew := ll_new w4 hin
        have hml := mvS_len a m lp (es.take k)
        rw [List.length_take] at hml
        have hb3z := HB3.out.size
        have hbx3z := BX3.out.lt
        obtain ⟨D, hD⟩ : ∃ D, mvS a m lp (es.take k) = D := ⟨_, rfl⟩
        rw [hD] at how2 hml HST
        have hc1 : D.length + [((I, J, s0, t0) : Le)].length ≤ 1000000 := by simp; omega
        have hc2 : w.heap.size + 1 ≤ (w4.alloc (.cells (leC (I, J, s0, t0)) 26)).heap.size := by simp; omega
        have HHO := Lib.hid HOW3.out
        rw [hD] at HHO
        clear hst hri hin hD
        go_wp2_with (at_builtin; go_must (refine wpList_app_le rfl _ _ rfl (w.heap.size + 1) _ D [(I, J, s0, t0)] _ 1 1 rfl rfl rfl how2 hnew hc1 hc2 ?_))
        intro v5 w5 hown5 hg5 _
        obtain ⟨hbx5, hb5⟩ := after_app3 BX3.out HHO.out HB3.out _ hg5
        rw [← HST.out] at hown5
        have HO5 := Lib.hid hown5
        clear hown5 hg5 how2 hnew
        go_wp2
        go_roundw
        case rel => exact ⟨k + 1, _, by omega, by go_num, rfl, HAL2, HO5.out, hbx5, hb5⟩
        case measure => simp [intOf]; omega
      · have hst := HNX.out
        rw [if_neg hIJ, List.append_nil] at hst
        have HST := Lib.hid hst
        have hIJ2 : J ≤ I := by omega
        have HO5 := HOW3
        rw [← HST.out] at HO5
        clear hst
        go_wp2
        go_roundw
        case rel => exact ⟨k + 1, _, by omega, by go_num, rfl, HAL2, HO5.out, BX3.out, HB3.out⟩
        case measure => simp [intOf]; omega
    · have e : k = es.length := by omega
      have hki : ¬ (k : Int) < (es.length : Int) := by omega
      subst e
      have hall := HALL.out
      rw [List.take_length] at hall HOW
      have hml := mvS_len a m lp es
      have HRT := Lib.hid (mvS_right (leOk_right HZ.out) hall)
      have HR := Lib.hid (HL.out.symm.trans (movedL_yes HZ.out hall))
      obtain ⟨D, hD⟩ : ∃ D, mvS a m lp es = D := ⟨_, rfl⟩
      rw [hD] at HOW hml HRT HR
      obtain ⟨A2, c2, rfl, _, _, hA2⟩ := HOW.out.ll
      have HA2 := Lib.hid hA2
      have hzw := HB.out.size
      clear hall hD hA2
      go_wp2_with fail
      refine (endingHeap_any A2 D c2 _ (by omega) HA2.out).mono ?_
      rintro e w2 ⟨hb, v2, G2, rfl, hp2, hi2, hq2, hb2⟩
      have hgl := hp2.length_eq
      have HB2 := Lib.hid (below_then HB.out hb2)
      have hz2 := hb2.size
      have HP2 := Lib.hid hp2
      have HI2 := Lib.hid hi2
      have HQ2 := Lib.hid hq2
      have hrt2 : ∀ l ∈ G2, leRight l = true := fun l hl => HRT.out l (hp2.mem_iff.1 hl)
      have HRT2 := Lib.hid hrt2
      clear hp2 hi2 hq2 hb2 hrt2
      go_wp2_with fail
      refine (emptied_any wr.heap.size hb v2 G2 _ HQ2.out HI2.out (by omega) HRT2.out).mono ?_
      rintro e w3 ⟨v3, E, rfl, hbk, _, hO3, hb3⟩
      have hEe : E = bookOf D := hbk.unique (bookOf_book D) (fun x => HP2.out.mem_iff)
      have HO3 := Lib.hid (hO3.mono (base' := w.heap.size) (by omega))
      rw [hEe, ← HR.out] at HO3
      have HB3 := Lib.hid (HB2.out.trans (hb3.mono hzw))
      clear hO3 hb3 hbk hEe
      go_wp2
      go_ret
      exact ⟨_, rfl, HO3.out, HB3.out⟩

set_option maxHeartbeats 16000000 in
theorem specLeaseMoved_any (A : Option Addr) (es : List Le) (c : Nat) (a m : Int) (Ap : Option Addr) (lp : List UInt8) (cp : Nat) (w : World) (hl : es.length ≤ 1048576) (hl9 : lp.length ≤ 9223372036854775807) (hA : Ll w A es) :
    Calls Try.prog 28 #[.slice A es.length c, .agg #[.int .i64 a, .int .i64 m, .slice Ap lp.length cp]] w fun e w' => ∃ v, e = .returned v ∧ OwR w' w.heap.size v (movedL es a m lp) ∧ Below w.heap.size w w' := by
  have hn9 : es.length ≤ 9223372036854775807 := by omega
  obtain ⟨z, hz⟩ : ∃ z, leOk es = z := ⟨_, rfl⟩
  obtain ⟨L, hL⟩ : ∃ L, movedL es a m lp = L := ⟨_, rfl⟩
  rw [hL]
  have HZ := Lib.hid hz
  have HL := Lib.hid hL
  have hA0 := Lib.hid hA
  have BX := Lib.hid (Blk.new w #[.int .i64 a, .int .i64 m, .slice Ap lp.length cp] 30)
  have HB := Lib.hid ((Below.refl w.heap.size w).alloc (Nat.le_refl _) (.cells #[.int .i64 a, .int .i64 m, .slice Ap lp.length cp] 30))
  clear hz hL hA
  go_enter Try.func28, Try.ntmps28
  have HA := Lib.hid (hA0.out.below HB.out)
  go_wp2_with fail
  refine (specLeasesOk_any A es c _ hn9 HA.out).mono ?_
  rintro e w1 ⟨rfl, hb⟩
  rw [HZ.out]
  have BX := Lib.hid (BX.out.below hb)
  have HB := Lib.hid (below_then HB.out hb)
  clear hb HA
  cases z
  · have HN := Lib.hid (HL.out.symm.trans (movedL_no HZ.out))
    go_wp2
    go_ret
    exact ⟨_, rfl, by rw [HN.out]; exact OwR.nil _ _, HB.out⟩
  have hlen := leOk_len HZ.out
  obtain ⟨q, hq⟩ : ∃ q, edSmall a m lp = q := ⟨_, rfl⟩
  have HQ := Lib.hid hq
  clear hq
  have p0 := BX.out.cell 0
  have p1 := BX.out.cell 1
  have p2 := BX.out.cell 2
  go_wp2_with fail
  refine (l05Small_any a m Ap lp cp _ hl9).mono ?_
  rintro e w2 ⟨rfl, hb⟩
  rw [HQ.out]
  have BX := Lib.hid (BX.out.below hb)
  have HB := Lib.hid (below_then HB.out hb)
  clear hb p0 p1 p2
  cases q
  · have HN := Lib.hid (HL.out.symm.trans (movedL_big HQ.out))
    go_wp2
    go_ret
    exact ⟨_, rfl, by rw [HN.out]; exact OwR.nil _ _, HB.out⟩
  have hal := (Below.refl w2.heap.size w2).alloc (Nat.le_refl _) (.cells #[] 26)
  have hown := (OwR.empty w2).mono (base' := w.heap.size) HB.out.size
  have BX := Lib.hid (BX.out.below hal)
  have HB := Lib.hid (below_then HB.out hal)
  clear hal
  go_wp2
  go_loopw [5, 6] (fun o i wr => ∃ (k : Nat) (v : Value), k ≤ es.length ∧ i = .int .i64 k ∧ v = o ∧ Hid ((es.take k).all (fit1 a m lp) = true) ∧ OwR wr w.heap.size v (bookOf (mvS a m lp (es.take k))) ∧ Blk wr w.heap.size #[.int .i64 a, .int .i64 m, .slice Ap lp.length cp] 30 ∧ Below w.heap.size w wr)
    (fun _ i _ => es.length - (intOf i).toNat)
  case atStart => exact ⟨0, _, Nat.zero_le _, rfl, rfl, Lib.hid (by simp), hown, BX.out, HB.out⟩
  case round =>
    obtain ⟨k, v, hk, rfl, rfl, HALL, how, hbx, hb⟩ := hrel
    have HOW := Lib.hid how
    have BX := Lib.hid hbx
    have HB := Lib.hid hb
    have HLT := Lib.hid (show ∀ q ∈ v.ownBlock.toList, q < wr.heap.size from fun q hq => (how.range q hq).2)
    clear how hbx hb hown
    by_cases hlt : k < es.length
    · skip
      have hki0 : (0 : Int) ≤ (k : Int) := by omega
      have hki : (k : Int) < (es.length : Int) := by omega
      obtain ⟨b, off, x0, y0, s0, t0, rfl, hbl, hek, k0, k1, k2, k3, hin0⟩ := (hA0.out.below HB.out).at_ k hlt
      have hrt := leOk_right HZ.out _ (List.getElem_mem hlt)
      obtain ⟨I, hI⟩ : ∃ I, spanI x0 y0 a m lp = I := ⟨_, rfl⟩
      obtain ⟨J, hJ⟩ : ∃ J, spanJ x0 y0 a m lp = J := ⟨_, rfl⟩
      have hmv : mv1 a m lp es[k] = (I, J, s0, t0) := by unfold mv1; rw [hek]; simp only [hI, hJ]
      have hft : fit1 a m lp es[k] = decide (0 ≤ J ∧ J ≤ 400) := by unfold fit1; rw [hek]; simp only [hJ]
      have hnx := mvS_next (a := a) (m := m) (lp := lp) hlt
      rw [hmv] at hnx
      simp only [hek, hI, hJ] at hnx
      have HI := Lib.hid hI
      have HJ := Lib.hid hJ
      have HMV := Lib.hid hmv
      have HFT := Lib.hid hft
      have HNX := Lib.hid hnx
      have HRT := Lib.hid hrt
      have HEK := Lib.hid hek
      clear hI hJ hmv hft hnx hrt hek hin0
      have hal := (Below.refl wr.heap.size wr).alloc (Nat.le_refl _) (.cells #[.int .i64 x0, .int .i64 y0, .int .i64 s0, .int .i64 t0] 26)
      have LB := Lib.hid (Blk.new wr #[.int .i64 x0, .int .i64 y0, .int .i64 s0, .int .i64 t0] 26)
      have hzx0 := BX.out.lt
      have k0 := (hal.cell (p := ⟨b, off + k * 4, none⟩) hbl).trans k0
      have k1 := (hal.cell (p := ⟨b, off + k * 4 + 1, none⟩) hbl).trans k1
      have g0 := (hA0.out.below HB.out).at_ k hlt
      have k00 : wr.cell? ⟨b, off + k * 4, none⟩ = some (.int .i64 x0) := by rw [← hal.cell (p := ⟨b, off + k * 4, none⟩) hbl]; exact k0
      have k10 : wr.cell? ⟨b, off + k * 4 + 1, none⟩ = some (.int .i64 y0) := by rw [← hal.cell (p := ⟨b, off + k * 4 + 1, none⟩) hbl]; exact k1
      have HOW := Lib.hid (HOW.out.below hal)
      have BX := Lib.hid (BX.out.below hal)
      have HB1 := Lib.hid (below_then HB.out hal)
      have hlw := LB.out.lt
      have hzb := HB.out.size
      have zb1 := BX.out.lt
      have hbl1 : b < (wr.alloc (.cells #[.int .i64 x0, .int .i64 y0, .int .i64 s0, .int .i64 t0] 26)).heap.size := Nat.lt_of_lt_of_le hbl hal.size
      have p0 := BX.out.cell 0
      have p1 := BX.out.cell 1
      have p2 := BX.out.cell 2
      clear hal HB g0
      go_wp2_with fail
      generalize wr.alloc (.cells #[.int .i64 x0, .int .i64 y0, .int .i64 s0, .int .i64 t0] 26) = W1 at *
      refine wp_region_held_drew (S := (fun V => V.cell? ⟨b, off + k * 4, none⟩ = some (.int .i64 x0) ∧ V.cell? ⟨b, off + k * 4 + 1, none⟩ = some (.int .i64 y0) ∧ V.cell? ⟨w.heap.size, 0, none⟩ = some (.int .i64 a) ∧ V.cell? ⟨w.heap.size, 1, none⟩ = some (.int .i64 m) ∧ V.cell? ⟨w.heap.size, 2, none⟩ = some (.slice Ap lp.length cp))) (by kernel_rfl) (by exact ⟨k0, k1, p0, p1, p2⟩) (fun hHeld => ?_)
      refine wpAnyH_take (i := 0) (oi := ?_) (v := ?_) ?_ ?_ ?_ ?_ ?_ ?_ (by exact hHeld) ?_
      rotate_left 2
      · (simp only [List.getElem?_toArray, List.getElem?_cons_zero]; try rfl)
      · kernel_rfl
      · kernel_rfl
      · kernel_rfl
      · exact fun _ _ _ h => h
      · refine Or.inl ⟨by rfl, ?_⟩
        (intro V hSV; (try dsimp only at hSV); obtain ⟨q0, q1, q2, q3, q4⟩ := hSV; go_simp; try with_reducible rfl)
      (try simp only [Act.put, List.setIfInBounds_toArray, List.set_cons_zero, List.set_cons_succ])
      refine wpAnyH_take (i := 1) (oi := ?_) (v := ?_) ?_ ?_ ?_ ?_ ?_ ?_ (by exact hHeld) ?_
      rotate_left 2
      · (simp only [List.getElem?_toArray, List.getElem?_cons_zero, List.getElem?_cons_succ]; try rfl)
      · kernel_rfl
      · kernel_rfl
      · kernel_rfl
      · exact fun _ _ _ h => h
      · refine Or.inl ⟨by rfl, ?_⟩
        (intro V hSV; (try dsimp only at hSV); obtain ⟨q0, q1, q2, q3, q4⟩ := hSV; go_simp; try with_reducible rfl)
      (try simp only [Act.put, List.setIfInBounds_toArray, List.set_cons_zero, List.set_cons_succ])
      refine wpAnyH_take (i := 2) (oi := ?_) (v := ?_) ?_ ?_ ?_ ?_ ?_ ?_ (by exact hHeld) ?_
      rotate_left 2
      · (simp only [List.getElem?_toArray, List.getElem?_cons_zero, List.getElem?_cons_succ]; try rfl)
      · kernel_rfl
      · kernel_rfl
      · kernel_rfl
      · exact fun _ _ _ h => h
      · refine Or.inl ⟨by rfl, ?_⟩
        (intro V hSV; (try dsimp only at hSV); obtain ⟨q0, q1, q2, q3, q4⟩ := hSV; go_simp; try with_reducible rfl)
      (try simp only [Act.put, List.setIfInBounds_toArray, List.set_cons_zero, List.set_cons_succ])
      refine wpAnyH_take (i := 3) (oi := ?_) (v := ?_) ?_ ?_ ?_ ?_ ?_ ?_ (by exact hHeld) ?_
      rotate_left 2
      · (simp only [List.getElem?_toArray, List.getElem?_cons_zero, List.getElem?_cons_succ]; try rfl)
      · kernel_rfl
      · kernel_rfl
      · kernel_rfl
      · exact fun _ _ _ h => h
      · refine Or.inl ⟨by rfl, ?_⟩
        (intro V hSV; (try dsimp only at hSV); obtain ⟨q0, q1, q2, q3, q4⟩ := hSV; go_simp; try with_reducible rfl)
      (try simp only [Act.put, List.setIfInBounds_toArray, List.set_cons_zero, List.set_cons_succ])
      refine wpAnyH_take (i := 4) (oi := ?_) (v := ?_) ?_ ?_ ?_ ?_ ?_ ?_ (by exact hHeld) ?_
      rotate_left 2
      · (simp only [List.getElem?_toArray, List.getElem?_cons_zero, List.getElem?_cons_succ]; try rfl)
      · kernel_rfl
      · kernel_rfl
      · kernel_rfl
      · exact fun _ _ _ h => h
      · refine Or.inl ⟨by rfl, ?_⟩
        (intro V hSV; (try dsimp only at hSV); obtain ⟨q0, q1, q2, q3, q4⟩ := hSV; go_simp; try with_reducible rfl)
      (try simp only [Act.put, List.setIfInBounds_toArray, List.set_cons_zero, List.set_cons_succ])
      refine wpAnyH_take (i := 5) (oi := ?_) (v := ?_) ?_ ?_ ?_ ?_ ?_ ?_ (by exact hHeld) ?_
      rotate_left 2
      · (simp only [List.getElem?_toArray, List.getElem?_cons_zero, List.getElem?_cons_succ]; try rfl)
      · kernel_rfl
      · kernel_rfl
      · kernel_rfl
      · exact fun _ _ _ h => h
      · refine Or.inl ⟨by rfl, ?_⟩
        (intro V hSV; (try dsimp only at hSV); obtain ⟨q0, q1, q2, q3, q4⟩ := hSV; go_simp; try with_reducible rfl)
      (try simp only [Act.put, List.setIfInBounds_toArray, List.set_cons_zero, List.set_cons_succ])
      refine wpAnyH_take (i := 6) (oi := ?_) (v := ?_) ?_ ?_ ?_ ?_ ?_ ?_ (by exact hHeld) ?_
      rotate_left 2
      · (simp only [List.getElem?_toArray, List.getElem?_cons_zero, List.getElem?_cons_succ]; try rfl)
      · kernel_rfl
      · kernel_rfl
      · kernel_rfl
      · exact fun _ _ _ h => h
      · refine Or.inl ⟨by rfl, ?_⟩
        (intro V hSV; (try dsimp only at hSV); obtain ⟨q0, q1, q2, q3, q4⟩ := hSV; go_simp; try with_reducible rfl)
      (try simp only [Act.put, List.setIfInBounds_toArray, List.set_cons_zero, List.set_cons_succ])
      refine wpAnyH_take (i := 7) (oi := ?_) (v := ?_) ?_ ?_ ?_ ?_ ?_ ?_ (by exact hHeld) ?_
      rotate_left 2
      · (simp only [List.getElem?_toArray, List.getElem?_cons_zero, List.getElem?_cons_succ]; try rfl)
      · kernel_rfl
      · kernel_rfl
      · kernel_rfl
      · exact fun _ _ _ h => h
      · refine Or.inl ⟨by rfl, ?_⟩
        (intro V hSV; (try dsimp only at hSV); obtain ⟨q0, q1, q2, q3, q4⟩ := hSV; go_simp; try with_reducible rfl)
      (try simp only [Act.put, List.setIfInBounds_toArray, List.set_cons_zero, List.set_cons_succ])
      refine wpAnyH_take (i := 8) (oi := ?_) (v := ?_) ?_ ?_ ?_ ?_ ?_ ?_ (by exact hHeld) ?_
      rotate_left 2
      · (simp only [List.getElem?_toArray, List.getElem?_cons_zero, List.getElem?_cons_succ]; try rfl)
      · kernel_rfl
      · kernel_rfl
      · kernel_rfl
      · exact fun _ _ _ h => h
      · refine Or.inl ⟨by rfl, ?_⟩
        (intro V hSV; (try dsimp only at hSV); obtain ⟨q0, q1, q2, q3, q4⟩ := hSV; go_simp; try with_reducible rfl)
      (try simp only [Act.put, List.setIfInBounds_toArray, List.set_cons_zero, List.set_cons_succ])
      refine wpAnyH_take (i := 9) (oi := ?_) (v := ?_) ?_ ?_ ?_ ?_ ?_ ?_ (by exact hHeld) ?_
      rotate_left 2
      · (simp only [List.getElem?_toArray, List.getElem?_cons_zero, List.getElem?_cons_succ]; try rfl)
      · kernel_rfl
      · kernel_rfl
      · kernel_rfl
      · exact fun _ _ _ h => h
      · refine Or.inl ⟨by rfl, ?_⟩
        (intro V hSV; (try dsimp only at hSV); obtain ⟨q0, q1, q2, q3, q4⟩ := hSV; go_simp; try with_reducible rfl)
      (try simp only [Act.put, List.setIfInBounds_toArray, List.set_cons_zero, List.set_cons_succ])
      refine wpAnyH_take (i := 10) (oi := ?_) (v := ?_) ?_ ?_ ?_ ?_ ?_ ?_ (by exact hHeld) ?_
      rotate_left 2
      · (simp only [List.getElem?_toArray, List.getElem?_cons_zero, List.getElem?_cons_succ]; try rfl)
      · kernel_rfl
      · kernel_rfl
      · kernel_rfl
      · exact fun _ _ _ h => h
      · refine Or.inl ⟨by rfl, ?_⟩
        (intro V hSV; (try dsimp only at hSV); obtain ⟨q0, q1, q2, q3, q4⟩ := hSV; go_simp; try with_reducible rfl)
      (try simp only [Act.put, List.setIfInBounds_toArray, List.set_cons_zero, List.set_cons_succ])
      refine wpAnyH_ready (rs := [11]) (by kernel_rfl) (by simp) ?_
      refine AllReadyH.cons rfl (fun K hK => ?_) AllReadyH.nil
      go_simp
      refine (specSpanMove_any x0 y0 a m Ap lp cp _ hl9).mono ?_
      rintro e w2 ⟨rfl, hbw2⟩
      rw [HI.out, HJ.out]
      have hbw2 : Below W1.heap.size W1 w2 := ⟨hbw2.os, hbw2.tape, hbw2.output, hbw2.size, hbw2.block⟩
      have hbR := hbw2
      have hs0 : w2.cell? ⟨b, off + k * 4, none⟩ = some (.int .i64 x0) ∧ w2.cell? ⟨b, off + k * 4 + 1, none⟩ = some (.int .i64 y0) ∧ w2.cell? ⟨w.heap.size, 0, none⟩ = some (.int .i64 a) ∧ w2.cell? ⟨w.heap.size, 1, none⟩ = some (.int .i64 m) ∧ w2.cell? ⟨w.heap.size, 2, none⟩ = some (.slice Ap lp.length cp) := ⟨((hbw2).cell (p := ⟨b, off + k * 4, none⟩) hbl1).trans k0, ((hbw2).cell (p := ⟨b, off + k * 4 + 1, none⟩) hbl1).trans k1, ((hbw2).cell (p := ⟨w.heap.size, 0, none⟩) zb1).trans p0, ((hbw2).cell (p := ⟨w.heap.size, 1, none⟩) zb1).trans p1, ((hbw2).cell (p := ⟨w.heap.size, 2, none⟩) zb1).trans p2⟩
      have LB2 := Lib.hid (LB.out.below hbw2)
      obtain ⟨e0, e1, e2, e3, e4⟩ := hs0
      have HS1 := Lib.hid (show (w2.setCell ⟨wr.heap.size, 0, none⟩ (.int .i64 I)).cell? ⟨b, off + k * 4, none⟩ = some (.int .i64 x0) ∧ (w2.setCell ⟨wr.heap.size, 0, none⟩ (.int .i64 I)).cell? ⟨b, off + k * 4 + 1, none⟩ = some (.int .i64 y0) ∧ (w2.setCell ⟨wr.heap.size, 0, none⟩ (.int .i64 I)).cell? ⟨w.heap.size, 0, none⟩ = some (.int .i64 a) ∧ (w2.setCell ⟨wr.heap.size, 0, none⟩ (.int .i64 I)).cell? ⟨w.heap.size, 1, none⟩ = some (.int .i64 m) ∧ (w2.setCell ⟨wr.heap.size, 0, none⟩ (.int .i64 I)).cell? ⟨w.heap.size, 2, none⟩ = some (.slice Ap lp.length cp) from ⟨(cell_other (w := w2) (p := ⟨b, off + k * 4, none⟩) (.int .i64 I) (by show b ≠ wr.heap.size; omega)).trans e0, (cell_other (w := w2) (p := ⟨b, off + k * 4 + 1, none⟩) (.int .i64 I) (by show b ≠ wr.heap.size; omega)).trans e1, (cell_other (w := w2) (p := ⟨w.heap.size, 0, none⟩) (.int .i64 I) (by show w.heap.size ≠ wr.heap.size; omega)).trans e2, (cell_other (w := w2) (p := ⟨w.heap.size, 1, none⟩) (.int .i64 I) (by show w.heap.size ≠ wr.heap.size; omega)).trans e3, (cell_other (w := w2) (p := ⟨w.heap.size, 2, none⟩) (.int .i64 I) (by show w.heap.size ≠ wr.heap.size; omega)).trans e4⟩)
      have HS2 := Lib.hid (show ((w2.setCell ⟨wr.heap.size, 0, none⟩ (.int .i64 I)).setCell ⟨wr.heap.size, 1, none⟩ (.int .i64 J)).cell? ⟨b, off + k * 4, none⟩ = some (.int .i64 x0) ∧ ((w2.setCell ⟨wr.heap.size, 0, none⟩ (.int .i64 I)).setCell ⟨wr.heap.size, 1, none⟩ (.int .i64 J)).cell? ⟨b, off + k * 4 + 1, none⟩ = some (.int .i64 y0) ∧ ((w2.setCell ⟨wr.heap.size, 0, none⟩ (.int .i64 I)).setCell ⟨wr.heap.size, 1, none⟩ (.int .i64 J)).cell? ⟨w.heap.size, 0, none⟩ = some (.int .i64 a) ∧ ((w2.setCell ⟨wr.heap.size, 0, none⟩ (.int .i64 I)).setCell ⟨wr.heap.size, 1, none⟩ (.int .i64 J)).cell? ⟨w.heap.size, 1, none⟩ = some (.int .i64 m) ∧ ((w2.setCell ⟨wr.heap.size, 0, none⟩ (.int .i64 I)).setCell ⟨wr.heap.size, 1, none⟩ (.int .i64 J)).cell? ⟨w.heap.size, 2, none⟩ = some (.slice Ap lp.length cp) from ⟨(cell_other (w := (w2.setCell ⟨wr.heap.size, 0, none⟩ (.int .i64 I))) (p := ⟨b, off + k * 4, none⟩) (.int .i64 J) (by show b ≠ wr.heap.size; omega)).trans ((cell_other (w := w2) (p := ⟨b, off + k * 4, none⟩) (.int .i64 I) (by show b ≠ wr.heap.size; omega)).trans e0), (cell_other (w := (w2.setCell ⟨wr.heap.size, 0, none⟩ (.int .i64 I))) (p := ⟨b, off + k * 4 + 1, none⟩) (.int .i64 J) (by show b ≠ wr.heap.size; omega)).trans ((cell_other (w := w2) (p := ⟨b, off + k * 4 + 1, none⟩) (.int .i64 I) (by show b ≠ wr.heap.size; omega)).trans e1), (cell_other (w := (w2.setCell ⟨wr.heap.size, 0, none⟩ (.int .i64 I))) (p := ⟨w.heap.size, 0, none⟩) (.int .i64 J) (by show w.heap.size ≠ wr.heap.size; omega)).trans ((cell_other (w := w2) (p := ⟨w.heap.size, 0, none⟩) (.int .i64 I) (by show w.heap.size ≠ wr.heap.size; omega)).trans e2), (cell_other (w := (w2.setCell ⟨wr.heap.size, 0, none⟩ (.int .i64 I))) (p := ⟨w.heap.size, 1, none⟩) (.int .i64 J) (by show w.heap.size ≠ wr.heap.size; omega)).trans ((cell_other (w := w2) (p := ⟨w.heap.size, 1, none⟩) (.int .i64 I) (by show w.heap.size ≠ wr.heap.size; omega)).trans e3), (cell_other (w := (w2.setCell ⟨wr.heap.size, 0, none⟩ (.int .i64 I))) (p := ⟨w.heap.size, 2, none⟩) (.int .i64 J) (by show w.heap.size ≠ wr.heap.size; omega)).trans ((cell_other (w := w2) (p := ⟨w.heap.size, 2, none⟩) (.int .i64 I) (by show w.heap.size ≠ wr.heap.size; omega)).trans e4)⟩)
      have f0 := LB2.out.frozen 0
      have f1 := LB2.out.frozen 1
      have c0 := LB2.out.cell 0
      have c1 := LB2.out.cell 1
      clear e0 e1 e2 e3 e4
      go_wp2_with fail
      refine hK.out _ _ (by exact ⟨((hbR).cell (p := ⟨b, off + k * 4, none⟩) hbl1).trans k0, ((hbR).cell (p := ⟨b, off + k * 4 + 1, none⟩) hbl1).trans k1, ((hbR).cell (p := ⟨w.heap.size, 0, none⟩) zb1).trans p0, ((hbR).cell (p := ⟨w.heap.size, 1, none⟩) zb1).trans p1, ((hbR).cell (p := ⟨w.heap.size, 2, none⟩) zb1).trans p2⟩) (fun hHeld => ?_)
      clear hK K
      (try simp only [Act.put, List.setIfInBounds_toArray, List.set_cons_zero, List.set_cons_succ])
      refine wpAnyH_take (i := 12) (oi := ?_) (v := ?_) ?_ ?_ ?_ ?_ ?_ ?_ (by exact hHeld) ?_
      rotate_left 2
      · (simp only [List.getElem?_toArray, List.getElem?_cons_zero, List.getElem?_cons_succ]; try rfl)
      · kernel_rfl
      · kernel_rfl
      · kernel_rfl
      · exact fun _ _ _ h => h
      · refine Or.inl ⟨by rfl, ?_⟩
        (intro V hSV; (try dsimp only at hSV); obtain ⟨q0, q1, q2, q3, q4⟩ := hSV; go_simp; try with_reducible rfl)
      (try simp only [Act.put, List.setIfInBounds_toArray, List.set_cons_zero, List.set_cons_succ])
      refine wpAnyH_take (i := 13) (oi := ?_) (v := ?_) ?_ ?_ ?_ ?_ ?_ ?_ (by exact hHeld) ?_
      rotate_left 2
      · (simp only [List.getElem?_toArray, List.getElem?_cons_zero, List.getElem?_cons_succ]; try rfl)
      · kernel_rfl
      · kernel_rfl
      · kernel_rfl
      · exact fun _ _ _ h => h
      · refine Or.inl ⟨by rfl, ?_⟩
        (intro V hSV; (try dsimp only at hSV); obtain ⟨q0, q1, q2, q3, q4⟩ := hSV; go_simp; try with_reducible rfl)
      (try simp only [Act.put, List.setIfInBounds_toArray, List.set_cons_zero, List.set_cons_succ])
      refine wpAnyH_take (i := 14) (oi := ?_) (v := ?_) ?_ ?_ ?_ ?_ ?_ ?_ (by exact hHeld) ?_
      rotate_left 2
      · (simp only [List.getElem?_toArray, List.getElem?_cons_zero, List.getElem?_cons_succ]; try rfl)
      · kernel_rfl
      · kernel_rfl
      · kernel_rfl
      · exact fun _ _ _ h => h
      · refine Or.inl ⟨by rfl, ?_⟩
        (intro V hSV; (try dsimp only at hSV); obtain ⟨q0, q1, q2, q3, q4⟩ := hSV; go_simp; try with_reducible rfl)
      (try simp only [Act.put, List.setIfInBounds_toArray, List.set_cons_zero, List.set_cons_succ])
      refine wpAnyH_take (i := 15) (oi := ?_) (v := ?_) ?_ ?_ ?_ ?_ ?_ ?_ (by exact hHeld) ?_
      rotate_left 2
      · (simp only [List.getElem?_toArray, List.getElem?_cons_zero, List.getElem?_cons_succ]; try rfl)
      · kernel_rfl
      · kernel_rfl
      · kernel_rfl
      · exact fun _ _ _ h => h
      · refine Or.inl ⟨by rfl, ?_⟩
        (intro V hSV; (try dsimp only at hSV); obtain ⟨q0, q1, q2, q3, q4⟩ := hSV; go_simp; try with_reducible rfl)
      (try simp only [Act.put, List.setIfInBounds_toArray, List.set_cons_zero, List.set_cons_succ])
      refine wpAnyH_ready (rs := [16]) (by kernel_rfl) (by simp) ?_
      refine AllReadyH.cons (o := ?_) ?_ (fun K hK => ?_) AllReadyH.nil
      rotate_left 1
      · (simp only [List.getElem?_toArray, List.getElem?_cons_zero, List.getElem?_cons_succ]; try rfl)
      go_simp
      refine hK.out _ _ (by exact HS1.out) (fun hHeld => ?_)
      clear hK K
      (try simp only [Act.put, List.setIfInBounds_toArray, List.set_cons_zero, List.set_cons_succ])
      refine wpAnyH_take (i := 17) (oi := ?_) (v := ?_) ?_ ?_ ?_ ?_ ?_ ?_ (by exact hHeld) ?_
      rotate_left 2
      · (simp only [List.getElem?_toArray, List.getElem?_cons_zero, List.getElem?_cons_succ]; try rfl)
      · kernel_rfl
      · kernel_rfl
      · kernel_rfl
      · exact fun _ _ _ h => h
      · refine Or.inl ⟨by rfl, ?_⟩
        (intro V hSV; (try dsimp only at hSV); obtain ⟨q0, q1, q2, q3, q4⟩ := hSV; go_simp; try with_reducible rfl)
      (try simp only [Act.put, List.setIfInBounds_toArray, List.set_cons_zero, List.set_cons_succ])
      refine wpAnyH_ready (rs := [18]) (by kernel_rfl) (by simp) ?_
      refine AllReadyH.cons (o := ?_) ?_ (fun K hK => ?_) AllReadyH.nil
      rotate_left 1
      · (simp only [List.getElem?_toArray, List.getElem?_cons_zero, List.getElem?_cons_succ]; try rfl)
      go_simp
      refine hK.out _ _ (by exact HS2.out) (fun hHeld => ?_)
      clear hK K
      (try simp only [Act.put, List.setIfInBounds_toArray, List.set_cons_zero, List.set_cons_succ])
      refine wpAnyH_done (by kernel_rfl) ?_ _
      clear hHeld k0 k1 k00 k10 k2 k3 p0 p1 p2 c0 c1 f0 f1
      have hkp := ((Keeps.refl [wr.heap.size] w2).put (List.mem_singleton.2 rfl) 0 (.int .i64 I)).put (List.mem_singleton.2 rfl) 1 (.int .i64 J)
      have LB3 := Lib.hid (show Blk ((w2.setCell ⟨wr.heap.size, 0, none⟩ (.int .i64 I)).setCell ⟨wr.heap.size, 1, none⟩ (.int .i64 J)) wr.heap.size #[.int .i64 I, .int .i64 J, .int .i64 s0, .int .i64 t0] 26 by simpa using (LB2.out.set 0 (.int .i64 I)).set 1 (.int .i64 J))
      have HOW3 := Lib.hid ((HOW.out.below hbw2).keeps hkp (fun q hq => by
        have h8 : q < wr.heap.size := HLT.out q hq
        simp
        omega))
      have BX3 := Lib.hid ((BX.out.below hbw2).of_block (hkp.block _ (BX.out.below hbw2).lt (by simp; omega)))
      have HB2 := Lib.hid (below_then HB1.out hbw2)
      have HB3 := Lib.hid (HB2.out.trans (hkp.below (B := w.heap.size) HB2.out.size (fun q hq => by simp at hq; omega)))
      clear HS1 HS2 LB LB2 HOW BX HB1 HB2 hkp hbR hbw2
      generalize ((w2.setCell ⟨wr.heap.size, 0, none⟩ (.int .i64 I)).setCell ⟨wr.heap.size, 1, none⟩ (.int .i64 J)) = w3 at *
      have q0 := LB3.out.cell 0
      have q1 := LB3.out.cell 1
      have q2 := LB3.out.cell 2
      have q3 := LB3.out.cell 3
      have hJ0 := spanJ_ge HRT.out HQ.out
      rw [HEK.out] at hJ0
      simp only [HJ.out] at hJ0
      by_cases hJ4 : 400 < J
      · have HN := Lib.hid (HL.out.symm.trans (movedL_not hlt (HFT.out.trans (decide_eq_false (by omega)))))
        go_wp2
        go_ret
        exact ⟨_, rfl, by rw [HN.out]; exact OwR.nil _ _, HB3.out⟩
      have hF := HFT.out.trans (decide_eq_true (show 0 ≤ J ∧ J ≤ 400 by omega))
      have HF := Lib.hid hF
      have HAL2 := Lib.hid (all_next hlt HALL.out hF)
      have hJ5 : J ≤ 400 := by omega
      clear hF
      by_cases hIJ : I < J
      · have hst := HNX.out
        rw [if_pos hIJ] at hst
        have hst2 : bookOf (mvS a m lp (es.take (k + 1))) = putM (bookOf (mvS a m lp (es.take k))) (I, J, s0, t0) := by rw [hst, bookOf_snoc]
        have HST := Lib.hid hst2
        have hri := mv1_right HRT.out HF.out
        rw [HMV.out] at hri
        have hin := leIn_right hri
        have hml := mvS_len a m lp (es.take k)
        rw [List.length_take] at hml
        have hbk := bookOf_book (mvS a m lp (es.take k))
        have hbl2 := hbk.length
        have HSR := Lib.hid hbk.srt
        have HRR := Lib.hid (show ∀ l ∈ bookOf (mvS a m lp (es.take k)), leRight l = true from fun l hl => mvS_right (fun l hl => leOk_right HZ.out l (List.mem_of_mem_take hl)) HALL.out l (hbk.sub l hl))
        obtain ⟨D, hD⟩ : ∃ D, bookOf (mvS a m lp (es.take k)) = D := ⟨_, rfl⟩
        rw [hD] at HST HOW3 HSR HRR hbl2
        obtain ⟨A2, c2, rfl, _, _, hA2⟩ := HOW3.out.ll
        have HA2 := Lib.hid hA2
        have hzc := HB3.out.size
        clear hst hst2 hri hbk hD hA2 hJ0
        go_wp2_with fail
        refine (l07Put_any A2 D c2 I J s0 t0 _ (by omega) HSR.out HRR.out hin HA2.out).mono ?_
        rintro e w5 ⟨v5, rfl, hO5, hb5⟩
        have HO5 := Lib.hid (hO5.mono (base' := w.heap.size) hzc)
        rw [← HST.out] at HO5
        have BX5 := Lib.hid (BX3.out.below hb5)
        have HB5 := Lib.hid (below_then HB3.out hb5)
        clear hO5 hb5
        go_wp2
        go_roundw
        case rel => exact ⟨k + 1, _, by omega, by go_num, rfl, HAL2, HO5.out, BX5.out, HB5.out⟩
        case measure => simp [intOf]; omega
      · have hst := HNX.out
        rw [if_neg hIJ, List.append_nil] at hst
        have HST := Lib.hid hst
        have hIJ2 : J ≤ I := by omega
        have HO5 := HOW3
        rw [← HST.out] at HO5
        clear hst hJ0
        go_wp2
        go_roundw
        case rel => exact ⟨k + 1, _, by omega, by go_num, rfl, HAL2, HO5.out, BX3.out, HB3.out⟩
        case measure => simp [intOf]; omega
    · have e : k = es.length := by omega
      have hki : ¬ (k : Int) < (es.length : Int) := by omega
      subst e
      have hall := HALL.out
      rw [List.take_length] at hall HOW
      have HR := Lib.hid (HL.out.symm.trans (movedL_yes HZ.out hall))
      rw [← HR.out] at HOW
      clear hall
      go_wp2
      go_ret
      exact ⟨_, rfl, HOW.out, HB.out⟩
end Go.Proofs.Ytdmmdbapkogdhaa
