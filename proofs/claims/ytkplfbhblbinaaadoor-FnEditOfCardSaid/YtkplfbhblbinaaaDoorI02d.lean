/-
  Chapter 2, ChunksOk of the program and of the model: contracts. Own work.
-/
import Derived.Test.YtkplfbhblbinaaaDoorI02c
namespace Go.Proofs.YtkplfbhblbinaaaDoor
open Go.RowKit P
set_option linter.unusedVariables false
set_option maxRecDepth 100000

theorem all_take (ls : List (List UInt8)) (k : Nat) (h : k < ls.length) : (ls.take (k + 1)).all chunkOk = ((ls.take k).all chunkOk && chunkOk ls[k]) := by
  rw [List.take_succ_eq_append_getElem h, List.all_append]; simp

theorem not_all {ls : List (List UInt8)} {k : Nat} (h : k < ls.length) (hc : chunkOk ls[k] = false) : chunksOk ls = false := by
  unfold chunksOk
  have : ls.all chunkOk = false := by
    rw [List.all_eq_false]
    exact ⟨ls[k], List.getElem_mem h, by simp [hc]⟩
  rw [this]; rfl

theorem chunkOk_len {l : List UInt8} (h : chunkOk l = true) : 1 ≤ l.length ∧ l.length ≤ 16 := ⟨((chunkOk_iff l).1 h).1, ((chunkOk_iff l).1 h).2.1⟩

set_option maxHeartbeats 1000000 in
theorem specChunksOk_any (A : Option Addr) (ls : List (List UInt8)) (c : Nat) (w : World) (hn : ls.length ≤ 9223372036854775807) (hC : Cs w A ls) :
    Calls Tryd.prog 109 #[.slice A ls.length c] w fun e w' => e = .returned (.bool (chunksOk ls)) ∧ Below w.heap.size w w' := by
  go_enter Tryd.func109, Tryd.ntmps109
  go_wp2
  go_loopw [3, 4] (fun n i wr => ∃ k : Nat, k ≤ ls.length ∧ i = .int .i64 k ∧ n = .int .i64 (tot (ls.take k)) ∧ tot (ls.take k) ≤ 400 ∧ (ls.take k).all chunkOk = true ∧ Below w.heap.size w wr) (fun _ i _ => ls.length - (intOf i).toNat)
  case atStart => exact ⟨0, Nat.zero_le _, rfl, by simp [tot], by simp [tot], by simp, Below.refl _ _⟩
  case round =>
    obtain ⟨k, hk, rfl, rfl, ht4, hall, hb⟩ := hrel
    by_cases hlt : k < ls.length
    · obtain ⟨b, off, B, d, rfl, hbl, hc, hld, hdm, hB⟩ := (hC.below hb).at_ k hlt
      have hst := all_take ls k hlt
      have htk := tot_take ls k hlt
      have hno := not_all (ls := ls) (k := k) hlt
      rw [hall, Bool.true_and] at hst
      have htl : tot (ls.take (k + 1)) ≤ tot ls := by
        have h2 : ls.flatten = (ls.take (k + 1)).flatten ++ (ls.drop (k + 1)).flatten := by rw [← List.flatten_append, List.take_append_drop]
        unfold tot
        rw [h2, List.length_append]
        omega
      have hover : ¬ tot (ls.take (k + 1)) ≤ 400 → chunksOk ls = false := by
        intro h
        unfold chunksOk
        rw [decide_eq_false (by unfold tot at h htl; omega), Bool.and_false]
      generalize hL : ls[k] = L at *
      have HST := Lib.hid hst
      have HTK := Lib.hid htk
      have HNO := Lib.hid hno
      have HAL := Lib.hid hall
      have HOV := Lib.hid hover
      have hlen := @chunkOk_len L
      generalize hq : chunkOk L = q at *
      have HQ := Lib.hid hq
      have hd9 : d ≤ 9223372036854775807 := by unfold maxLen at hdm; omega
      clear hst htk hno hall hL hq hover hdm
      go_wp2_with fail
      refine (specChunkOk_any B L d _ hld hd9 (by exact hB)).mono ?_
      rintro e w1 ⟨rfl, hb1⟩
      rw [HQ.out]
      have hcr := (hb1.cell (p := ⟨b, off + k, none⟩) hbl).trans hc
      have hb2 := below_then hb hb1
      cases q
      · go_wp2
        go_ret
        exact ⟨ret_bool (HNO.out (by simp)).symm, hb2⟩
      · obtain ⟨hl1, hl2⟩ := hlen rfl
        by_cases h4 : tot (ls.take k) + L.length ≤ 400
        · have h4' : (tot (ls.take k) : Int) + (L.length : Int) ≤ 400 := by omega
          go_wp2
          go_roundw
          case rel => exact ⟨k + 1, by omega, by go_num, by rw [HTK.out]; go_num, by rw [HTK.out]; omega, HST.out, hb2⟩
          case measure => simp [intOf]; omega
        · have h4' : ¬ (tot (ls.take k) : Int) + (L.length : Int) ≤ 400 := by omega
          go_wp2
          go_ret
          exact ⟨ret_bool (HOV.out (by rw [HTK.out]; omega)).symm, hb2⟩
    · have e : k = ls.length := by omega
      subst e
      rw [List.take_length] at hall ht4
      have hok : chunksOk ls = true := by unfold chunksOk; unfold tot at ht4; rw [hall, decide_eq_true ht4]; rfl
      have HOK := Lib.hid hok
      clear hok hall
      go_wp2
      go_ret
      exact ⟨ret_bool HOK.out.symm, hb⟩

theorem mB_ok {l : List UInt8} (h : chunkOk l = true) : mB l = l.length := by unfold mB; rw [if_pos ((chunkOk_iff l).1 h).2.2]

end Go.Proofs.YtkplfbhblbinaaaDoor
