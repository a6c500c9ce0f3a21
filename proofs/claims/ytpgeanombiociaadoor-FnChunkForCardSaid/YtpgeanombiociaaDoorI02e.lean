/-
  Chapter 2, ChunkFor of the program and of the model: contracts. Own work.
-/
import Derived.Test.YtpgeanombiociaaDoorI02d
namespace Go.Proofs.YtpgeanombiociaaDoor
open Go.RowKit P
set_option linter.unusedVariables false

theorem ret_pair {a b c d : Int} (h1 : a = c) (h2 : b = d) : Ending.returned (.tuple #[.int .i64 a, .int .i64 b]) = .returned (.tuple #[.int .i64 c, .int .i64 d]) := by rw [h1, h2]

theorem chunkFor_out {ls : List (List UInt8)} {a : Int} (h : a < 0 ∨ chunksOk ls = false) : chunkFor ls a = (-1, -1) := by unfold chunkFor; rw [if_pos h]
theorem chunkFor_in {ls : List (List UInt8)} {a : Int} (h0 : 0 ≤ a) (h : chunksOk ls = true) : chunkFor ls a = chunkFrom 0 ls a := by
  unfold chunkFor; rw [if_neg]; rw [h]; simp; omega
theorem chunkFrom_end (ls : List (List UInt8)) (a : Int) : chunkFrom ls.length (ls.drop ls.length) a = if 0 < a then (-1, -1) else ((ls.length : Int), 0) := by
  rw [List.drop_length]; rfl

set_option maxHeartbeats 1000000 in
theorem specChunkFor_any (A : Option Addr) (ls : List (List UInt8)) (c : Nat) (a : Int) (w : World) (hn : ls.length ≤ 9223372036854775807) (ha : a ≤ 9223372036854775807) (hC : Cs w A ls) :
    Calls Tryd.prog 31 #[.slice A ls.length c, .int .i64 a] w fun e w' => e = .returned (.tuple #[.int .i64 (chunkFor ls a).1, .int .i64 (chunkFor ls a).2]) ∧ Below w.heap.size w w' := by
  generalize hq : chunksOk ls = q
  have HQ := Lib.hid hq
  cases q
  · have hr := chunkFor_out (a := a) (.inr hq)
    have HR := Lib.hid hr
    clear hq hr
    go_enter Tryd.func31, Tryd.ntmps31
    go_wp2_with fail
    refine (specChunksOk_any A ls c _ hn (by exact hC)).mono ?_
    rintro e w1 ⟨rfl, hb1⟩
    rw [HQ.out]
    go_wp2
    go_ret2
    exact ⟨by rw [HR.out]; rfl, hb1⟩
  · by_cases h0 : a < 0
    · have hr := chunkFor_out (ls := ls) (a := a) (.inl h0)
      have HR := Lib.hid hr
      clear hq hr
      go_enter Tryd.func31, Tryd.ntmps31
      go_wp2_with fail
      refine (specChunksOk_any A ls c _ hn (by exact hC)).mono ?_
      rintro e w1 ⟨rfl, hb1⟩
      rw [HQ.out]
      go_wp2
      go_ret2
      exact ⟨by rw [HR.out]; rfl, hb1⟩
    · have hr := chunkFor_in (ls := ls) (a := a) (by omega) hq
      have HR := Lib.hid hr
      have h00 : decide (a < 0) = false := by simp; omega
      clear hq hr
      go_enter Tryd.func31, Tryd.ntmps31
      go_wp2_with fail
      refine (specChunksOk_any A ls c _ hn (by exact hC)).mono ?_
      rintro e w1 ⟨rfl, hb1⟩
      rw [HQ.out]
      have hC1 := hC.below hb1
      go_wp2
      go_loop [1, 6] (fun at_ i => ∃ (k : Nat) (x : Int), k ≤ ls.length ∧ i = .int .i64 k ∧ at_ = .int .i64 x ∧ 0 ≤ x ∧ x ≤ 9223372036854775807 ∧ Hid (chunkFrom k (ls.drop k) x = chunkFrom 0 ls a)) (fun _ i => ls.length - (intOf i).toNat)
      case atStart => exact ⟨0, a, Nat.zero_le _, rfl, rfl, by omega, ha, Lib.hid (by simp)⟩
      case round =>
        obtain ⟨k, x, hk, rfl, rfl, hx0, hx1, HF⟩ := hrel
        by_cases hlt : k < ls.length
        · obtain ⟨b, off, B, d, rfl, hbl, hc, hld, hdm, hB⟩ := hC1.at_ k hlt
          have hst := chunkFrom_drop ls k hlt x
          have HST := Lib.hid hst
          generalize hL : ls[k] = L at *
          have HL := Lib.hid hL
          clear hst hL
          by_cases hxl : x < L.length
          · go_wp2
            go_ret2
            have e := HST.out
            rw [if_pos hxl, HF.out] at e
            exact ⟨by rw [HR.out, e]; rfl, hb1⟩
          · go_wp2
            go_round
            case rel => exact ⟨k + 1, x - L.length, by omega, by go_num, by go_num, by omega, by omega, Lib.hid (by rw [← HF.out, HST.out, if_neg hxl])⟩
            case measure => simp [intOf]; omega
        · have e : k = ls.length := by omega
          subst e
          have he := chunkFrom_end ls x
          have HE := Lib.hid he
          clear he
          by_cases hxp : 0 < x
          · go_wp2
            go_ret2
            exact ⟨by rw [HR.out, ← HF.out, HE.out, if_pos hxp]; rfl, hb1⟩
          · go_wp2
            go_ret2
            exact ⟨by rw [HR.out, ← HF.out, HE.out, if_neg (by omega)]; rfl, hb1⟩

set_option maxHeartbeats 1000000 in
theorem implChunkFor_any (A : Option Addr) (ls : List (List UInt8)) (c : Nat) (a : Int) (w : World) (hn : ls.length ≤ 1048576) (ha : a ≤ 9223372036854775807) (hT : Tab w) (hC : Cs w A ls) :
    Calls Tryd.prog 30 #[.slice A ls.length c, .int .i64 a] w fun e w' => e = .returned (.tuple #[.int .i64 (chunkFor ls a).1, .int .i64 (chunkFor ls a).2]) ∧ Below w.heap.size w w' := by
  by_cases h0 : a < 0
  · have hr := chunkFor_out (ls := ls) (a := a) (.inl h0)
    have HR := Lib.hid hr
    clear hr
    go_enter Tryd.func30, Tryd.ntmps30
    go_wp2
    go_ret2
    exact ⟨by rw [HR.out]; rfl, Below.refl _ _⟩
  · have h00 : decide (a < 0) = false := by simp; omega
    generalize hq : chunksOk ls = q
    have HQ := Lib.hid hq
    cases q
    · have hr := chunkFor_out (a := a) (.inr hq)
      have HR := Lib.hid hr
      clear hq hr
      go_enter Tryd.func30, Tryd.ntmps30
      go_wp2_with fail
      refine (implChunksOk_any A ls c _ hn (by exact hT) (by exact hC)).mono ?_
      rintro e w1 ⟨rfl, hb1⟩
      rw [HQ.out]
      go_wp2
      go_ret2
      exact ⟨by rw [HR.out]; rfl, hb1⟩
    · have hr := chunkFor_in (ls := ls) (a := a) (by omega) hq
      have HR := Lib.hid hr
      clear hq hr
      go_enter Tryd.func30, Tryd.ntmps30
      go_wp2_with fail
      refine (implChunksOk_any A ls c _ hn (by exact hT) (by exact hC)).mono ?_
      rintro e w1 ⟨rfl, hb1⟩
      rw [HQ.out]
      have hC1 := hC.below hb1
      go_wp2
      go_loopw [1, 6, 7, 17] (fun at_ _ _ i wr => ∃ (k : Nat) (x : Int), k ≤ ls.length ∧ i = .int .i64 k ∧ at_ = .int .i64 x ∧ 0 ≤ x ∧ x ≤ 9223372036854775807 ∧ Hid (chunkFrom k (ls.drop k) x = chunkFrom 0 ls a) ∧ Below w1.heap.size w1 wr) (fun _ _ _ i _ => ls.length - (intOf i).toNat)
      case atStart => exact ⟨0, a, Nat.zero_le _, rfl, rfl, by omega, ha, Lib.hid (by simp), Below.refl _ _⟩
      case round =>
        obtain ⟨k, x, hk, rfl, rfl, hx0, hx1, HF, hbr⟩ := hrel
        by_cases hlt : k < ls.length
        · obtain ⟨b, off, B, d, rfl, hbl, hc, hld, hdm, hB⟩ := (hC1.below hbr).at_ k hlt
          have hst := chunkFrom_drop ls k hlt x
          have HST := Lib.hid hst
          generalize hL : ls[k] = L at *
          have HL := Lib.hid hL
          have hbr2 := hbr.alloc hbr.size (.cells #[.slice B L.length d] 37)
          have hfin := below_then hb1 hbr2
          clear hst hL
          by_cases hxl : x < L.length
          · go_wp2
            go_ret2
            have e := HST.out
            rw [if_pos hxl, HF.out] at e
            exact ⟨by rw [HR.out, e]; rfl, hfin⟩
          · go_wp2
            go_roundw
            case rel => exact ⟨k + 1, x - L.length, by omega, by go_num, by go_num, by omega, by omega, Lib.hid (by rw [← HF.out, HST.out, if_neg hxl]), hbr2⟩
            case measure => simp [intOf]; omega
        · have e : k = ls.length := by omega
          subst e
          have he := chunkFrom_end ls x
          have HE := Lib.hid he
          have hfin := below_then hb1 hbr
          clear he
          by_cases hxp : 0 < x
          · go_wp2
            go_ret2
            exact ⟨by rw [HR.out, ← HF.out, HE.out, if_pos hxp]; rfl, hfin⟩
          · go_wp2
            go_ret2
            exact ⟨by rw [HR.out, ← HF.out, HE.out, if_neg (by omega)]; rfl, hfin⟩
end Go.Proofs.YtpgeanombiociaaDoor
