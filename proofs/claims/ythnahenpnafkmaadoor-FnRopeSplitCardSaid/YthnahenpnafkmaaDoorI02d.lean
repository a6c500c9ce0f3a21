/-
  Chapter 2, ChunksOk of the program and of the model: contracts. Own work.
-/
import Derived.Test.YthnahenpnafkmaaDoorI02c
namespace Go.Proofs.YthnahenpnafkmaaDoor
open Go.RowKit P
set_option linter.unusedVariables false
set_option maxRecDepth 100000

theorem all_take (ls : List (List UInt8)) (k : Nat) (h : k < ls.length) : (ls.take (k + 1)).all chunkOk = ((ls.take k).all chunkOk && chunkOk ls[k]) := by
  rw [List.take_succ_eq_append_getElem h, List.all_append]; simp

theorem not_all {ls : List (List UInt8)} {k : Nat} (h : k < ls.length) (hc : chunkOk ls[k] = false) : chunksOk ls = false := by
  unfold chunksOk
  have : ls.all chunkOk = false := by
    rw [List.all_eq_false]
    exact ⟨ls[k], List.getElem_mem h, by simp [hc]⟩
  rw [this]; rfl

theorem chunkOk_len {l : List UInt8} (h : chunkOk l = true) : 1 ≤ l.length ∧ l.length ≤ 16 := ⟨((chunkOk_iff l).1 h).1, ((chunkOk_iff l).1 h).2.1⟩

set_option maxHeartbeats 1000000 in
theorem specChunksOk_any (A : Option Addr) (ls : List (List UInt8)) (c : Nat) (w : World) (hn : ls.length ≤ 9223372036854775807) (hC : Cs w A ls) :
    Calls Tryd.prog 49 #[.slice A ls.length c] w fun e w' => e = .returned (.bool (chunksOk ls)) ∧ Below w.heap.size w w' := by
  go_enter Tryd.func49, Tryd.ntmps49
  go_wp2
  go_loopw [3, 4] (fun n i wr => ∃ k : Nat, k ≤ ls.length ∧ i = .int .i64 k ∧ n = .int .i64 (tot (ls.take k)) ∧ tot (ls.take k) ≤ 400 ∧ (ls.take k).all chunkOk = true ∧ Below w.heap.size w wr) (fun _ i _ => ls.length - (intOf i).toNat)
  case atStart => exact ⟨0, Nat.zero_le _, rfl, by simp [tot], by simp [tot], by simp, Below.refl _ _⟩
  case round =>
    obtain ⟨k, hk, rfl, rfl, ht4, hall, hb⟩ := hrel
    by_cases hlt : k < ls.length
    · obtain ⟨b, off, B, d, rfl, hbl, hc, hld, hdm, hB⟩ := (hC.below hb).at_ k hlt
      have hst := all_take ls k hlt
      have htk := tot_take ls k hlt
      have hno := not_all (ls := ls) (k := k) hlt
      rw [hall, Bool.true_and] at hst
      have htl : tot (ls.take (k + 1)) ≤ tot ls := by
        have h2 : ls.flatten = (ls.take (k + 1)).flatten ++ (ls.drop (k + 1)).flatten := by rw [← List.flatten_append, List.take_append_drop]
        unfold tot
        rw [h2, List.length_append]
        omega
      have hover : ¬ tot (ls.take (k + 1)) ≤ 400 → chunksOk ls = false := by
        intro h
        unfold chunksOk
        rw [decide_eq_false (by unfold tot at h htl; omega), Bool.and_false]
      generalize hL : ls[k] = L at *
      have HST := Lib.hid hst
      have HTK := Lib.hid htk
      have HNO := Lib.hid hno
      have HAL := Lib.hid hall
      have HOV := Lib.hid hover
      have hlen := @chunkOk_len L
      generalize hq : chunkOk L = q at *
      have HQ := Lib.hid hq
      have hd9 : d ≤ 9223372036854775807 := by unfold maxLen at hdm; omega
      clear hst htk hno hall hL hq hover hdm
      go_wp2_with fail
      refine (specChunkOk_any B L d _ hld hd9 (by exact hB)).mono ?_
      rintro e w1 ⟨rfl, hb1⟩
      rw [HQ.out]
      have hcr := (hb1.cell (p := ⟨b, off + k, none⟩) hbl).trans hc
      have hb2 := below_then hb hb1
      cases q
      · go_wp2
        go_ret
        exact ⟨ret_bool (HNO.out (by simp)).symm, hb2⟩
      · obtain ⟨hl1, hl2⟩ := hlen rfl
        by_cases h4 : tot (ls.take k) + L.length ≤ 400
        · have h4' : (tot (ls.take k) : Int) + (L.length : Int) ≤ 400 := by omega
          go_wp2
          go_roundw
          case rel => exact ⟨k + 1, by omega, by go_num, by rw [HTK.out]; go_num, by rw [HTK.out]; omega, HST.out, hb2⟩
          case measure => simp [intOf]; omega
        · have h4' : ¬ (tot (ls.take k) : Int) + (L.length : Int) ≤ 400 := by omega
          go_wp2
          go_ret
          exact ⟨ret_bool (HOV.out (by rw [HTK.out]; omega)).symm, hb2⟩
    · have e : k = ls.length := by omega
      subst e
      rw [List.take_length] at hall ht4
      have hok : chunksOk ls = true := by unfold chunksOk; unfold tot at ht4; rw [hall, decide_eq_true ht4]; rfl
      have HOK := Lib.hid hok
      clear hok hall
      go_wp2
      go_ret
      exact ⟨ret_bool HOK.out.symm, hb⟩

theorem mB_ok {l : List UInt8} (h : chunkOk l = true) : mB l = l.length := by unfold mB; rw [if_pos ((chunkOk_iff l).1 h).2.2]

set_option maxHeartbeats 2000000 in
theorem implChunksOk_any (A : Option Addr) (ls : List (List UInt8)) (c : Nat) (w : World) (hn : ls.length ≤ 1048576) (hT : Tab w) (hC : Cs w A ls) :
    Calls Tryd.prog 20 #[.slice A ls.length c] w fun e w' => e = .returned (.bool (chunksOk ls)) ∧ Below w.heap.size w w' := by
  go_enter Tryd.func20, Tryd.ntmps20
  go_wp2
  go_loopw [5, 8] (fun _ i wr => ∃ (k : Nat) (R L : Int), k ≤ ls.length ∧ i = .int .i64 k ∧ tot (ls.take k) ≤ 16 * k ∧ 0 ≤ R ∧ R ≤ 400 * k ∧ 0 ≤ L ∧ L ≤ 400 * k ∧ Blk wr w.heap.size #[.int .i64 (tot (ls.take k)), .int .i64 R, .int .i64 L] 35 ∧ (ls.take k).all chunkOk = true ∧ Below w.heap.size w wr) (fun _ i _ => ls.length - (intOf i).toNat)
  case atStart => exact ⟨0, 0, 0, Nat.zero_le _, rfl, by simp [tot], by omega, by omega, by omega, by omega, by simpa [tot] using Blk.new w #[.int .i64 0, .int .i64 0, .int .i64 0] 35, by simp, (Below.refl _ _).alloc (Nat.le_refl _) _⟩
  case round =>
    obtain ⟨k, R, L, hk, rfl, ht4, hR0, hR1, hL0, hL1, hblk, hall, hb⟩ := hrel
    have c0 : wr.cell? ⟨w.heap.size, 0, none⟩ = some (.int .i64 (tot (ls.take k))) := hblk.cell 0
    by_cases hlt : k < ls.length
    · obtain ⟨b, off, B, d, rfl, hbl, hc, hld, hdm, hB⟩ := (hC.below hb).at_ k hlt
      have hst := all_take ls k hlt
      have htk := tot_take ls k hlt
      have hno := not_all (ls := ls) (k := k) hlt
      rw [hall, Bool.true_and] at hst
      generalize hLl : ls[k] = l at *
      have HST := Lib.hid hst
      have HTK := Lib.hid htk
      have HNO := Lib.hid hno
      have HAL := Lib.hid hall
      have hlen := @chunkOk_len l
      have hmb := @mB_ok l
      have hm := m_bd l
      generalize hq : chunkOk l = q at *
      have HQ := Lib.hid hq
      have hd9 : d ≤ 9223372036854775807 := by unfold maxLen at hdm; omega
      have hTr := (hT.below hb)
      have hal := (Below.refl wr.heap.size wr).alloc (Nat.le_refl _) (.cells #[.slice B l.length d] 46)
      have hTr1 := hTr.below hal
      have hB1 := hB.below hal
      have hb1 := below_then hb hal
      have hy1 := Blk.new wr #[.slice B l.length d] 46
      have hx1 := hblk.alloc (.cells #[.slice B l.length d] 46)
      clear hst htk hno hall hLl hq hdm hTr hal hB hblk
      go_wp2_with fail
      refine (implChunkOk_any B l d _ hld hd9 (by exact hTr1) (by exact hB1)).mono ?_
      rintro e w1 ⟨rfl, hb2⟩
      rw [HQ.out]
      have hT2 := hTr1.below hb2
      have hB2 := hB1.below hb2
      have hy2 := hy1.below hb2
      have hx2 := hx1.below hb2
      have hb3 := hb1.trans (hb2.mono hb1.size)
      clear hTr1 hB1 hy1 hx1 hb1 hb2 c0
      cases q
      · go_wp2
        go_ret
        exact ⟨ret_bool (HNO.out (by simp)).symm, hb3⟩
      · obtain ⟨hl1, hl2⟩ := hlen (by simp)
        have HMB := Lib.hid (hmb (by simp))
        have e0 : w1.cell? ⟨w.heap.size, 0, none⟩ = some (.int .i64 (tot (ls.take k))) := hx2.cell 0
        have e1 : w1.cell? ⟨w.heap.size, 1, none⟩ = some (.int .i64 R) := hx2.cell 1
        have e2 : w1.cell? ⟨w.heap.size, 2, none⟩ = some (.int .i64 L) := hx2.cell 2
        have y0 : w1.cell? ⟨wr.heap.size, 0, none⟩ = some (.slice B l.length d) := hy2.cell 0
        have f0 := hx2.frozen 0
        have f1 := hx2.frozen 1
        have f2 := hx2.frozen 2
        clear hmb hlen
        obtain ⟨m0, m1, m2, m3, m4, m5⟩ := hm
        have hk9 : (400 * k : Int) ≤ 419430400 := by omega
        have htt : (tot (ls.take k) : Int) ≤ 1000000000 := by omega
        have hR2 : R ≤ 1000000000 := by omega
        have hL2 : L ≤ 1000000000 := by omega
        have hs1 := hb3.size
        have hwl := hx2.lt
        go_wp2
        go_region_with (first
          | (go_at_call 26; refine (measOf_any B l d _ hld hd9 (by exact hT2) (by exact hB2)).mono ?_; rintro e w2 ⟨rfl, hb4⟩; have hb4 : Below w1.heap.size w1 w2 := ⟨hb4.os, hb4.tape, hb4.output, hb4.size, hb4.block⟩; unfold meas; have hx3 := hx2.below hb4; have e0 : w2.cell? ⟨w.heap.size, 0, none⟩ = some (.int .i64 (tot (ls.take k))) := hx3.cell 0; have e1 : w2.cell? ⟨w.heap.size, 1, none⟩ = some (.int .i64 R) := hx3.cell 1; have e2 : w2.cell? ⟨w.heap.size, 2, none⟩ = some (.int .i64 L) := hx3.cell 2; have hb5 := below_then hb3 hb4; have hws := hx3.lt)
          | (go_at_call 25; refine (measSum_any _ (tot (ls.take k)) R L (mB l) (mR l) (mL l) 2 _ (by simp) ⟨by omega, by omega⟩ ⟨by omega, by omega⟩ ⟨by omega, by omega⟩ ⟨by omega, by omega⟩ ⟨by omega, by omega⟩ ⟨by omega, by omega⟩ (by exact Blk.new _ _ _)).mono ?_; rintro e w3 ⟨rfl, hb6⟩; unfold meas; have hx4 := (hx3.alloc (.cells #[.int .i64 (tot (ls.take k)), .int .i64 R, .int .i64 L, .int .i64 (mB l), .int .i64 (mR l), .int .i64 (mL l)] 35)).below hb6; have e0 : w3.cell? ⟨w.heap.size, 0, none⟩ = some (.int .i64 (tot (ls.take k))) := hx4.cell 0; have e1 : w3.cell? ⟨w.heap.size, 1, none⟩ = some (.int .i64 R) := hx4.cell 1; have e2 : w3.cell? ⟨w.heap.size, 2, none⟩ = some (.int .i64 L) := hx4.cell 2; have f0 := hx4.frozen 0; have f1 := hx4.frozen 1; have f2 := hx4.frozen 2; have hb7 := below_then hb5 (((Below.refl _ _).alloc (Nat.le_refl _) (.cells #[.int .i64 (tot (ls.take k)), .int .i64 R, .int .i64 L, .int .i64 (mB l), .int .i64 (mR l), .int .i64 (mL l)] 35)).trans (hb6.mono (by simp)))))
        all_goals
          have hx5 := ((hx4.set 0 (.int .i64 (tot (ls.take k) + mB l))).set 1 (.int .i64 (R + mR l))).set 2 (.int .i64 (L + mL l))
          have hb8 := ((hb7.setCell (p := ⟨w.heap.size, 0, none⟩) (Nat.le_refl _) (.int .i64 (tot (ls.take k) + mB l))).setCell (p := ⟨w.heap.size, 1, none⟩) (Nat.le_refl _) (.int .i64 (R + mR l))).setCell (p := ⟨w.heap.size, 2, none⟩) (Nat.le_refl _) (.int .i64 (L + mL l))
          clear hx4 hb7
          go_wp2
          go_roundw
          case rel =>
            refine ⟨k + 1, R + mR l, L + mL l, by omega, by go_num, by rw [HTK.out]; omega, by omega, by omega, by omega, by omega, ?_, HST.out, hb8⟩
            rw [HTK.out]
            have e : ((tot (ls.take k) + l.length : Nat) : Int) = tot (ls.take k) + mB l := by rw [HMB.out]; omega
            rw [e]
            exact hx5
          case measure => simp [intOf]; omega
    · have e : k = ls.length := by omega
      subst e
      rw [List.take_length] at hall
      have hok : chunksOk ls = decide ((tot ls : Int) ≤ 400) := by unfold chunksOk tot; rw [hall, Bool.true_and, decide_eq_decide]; omega
      have htl : tot (ls.take ls.length) = tot ls := tot_all ls
      rw [htl] at c0
      have HOK := Lib.hid hok
      clear hok hall htl hblk
      go_wp2
      all_goals go_ret
      all_goals exact ⟨ret_bool HOK.out.symm, hb⟩
end Go.Proofs.YthnahenpnafkmaaDoor
