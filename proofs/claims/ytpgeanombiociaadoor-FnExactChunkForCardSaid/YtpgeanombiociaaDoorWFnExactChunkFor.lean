/-
  FnExactChunkFor, its walk. Own work.
-/
import Derived.Test.YtpgeanombiociaaDoorLaw
import Derived.Test.YtpgeanombiociaaDoorI02e
import Derived.Test.YtpgeanombiociaaDoorC02b
namespace Go.Proofs.YtpgeanombiociaaDoor.fnExactChunkFor
open Go.ChangeShapes Go.WideShapes Go.ChangeAt Go.RowKit P
set_option linter.unusedVariables false

set_option maxHeartbeats 2000000 in
theorem walk (A : Option Addr) (ls : List (List UInt8)) (c : Nat) (hc : ls.length ≤ c) (hm : c ≤ maxLen) (a : Int) (ha : -9223372036854775808 ≤ a ∧ a ≤ 9223372036854775807) (w : World) (hC : Cs w A ls) (hT : Tab w) :
    Calls Tryd.prog 11 #[.slice A ls.length c, .int .i64 a] w fun e w' => e = .returned (.bool true) ∧ Below w.heap.size w w' := by
  have hn9 : ls.length ≤ 9223372036854775807 := by unfold maxLen at hm; omega
  clear hc hm
  go_enter Tryd.func11, Tryd.ntmps11
  go_wp2_with fail
  refine (szChunkS_any A ls c _ hn9 (by exact hC)).mono ?_
  rintro e w1 ⟨⟨r, rfl, hr⟩, hb1⟩
  have hC1 := hC.below hb1
  have hT1 := hT.below hb1
  by_cases hneg : r < 0
  · go_wp2
    go_ret
    exact ⟨rfl, hb1⟩
  · have hl : ls.length + tot ls ≤ 1048576 := by omega
    have hl2 : ls.length ≤ 1048576 := by omega
    clear hr
    go_wp2_with fail
    refine (toChunkS_any A ls c _ hl (by exact hC1)).mono ?_
    rintro e w2 ⟨cs2, fp2, rfl, how2, hn2, hf2, hb2⟩
    have hC2 := hC1.below hb2
    have hT2 := hT1.below hb2
    have hb2 := below_then hb1 hb2
    obtain ⟨A2, c2, rfl, hlc2, hcm2, hD2⟩ := Lay.chunks.read how2
    unfold wSlice
    clear how2 hn2 hf2 hC1 hT1 hb1
    go_wp2_with fail
    refine (specChunkFor_any A2 ls c2 a _ hn9 ha.2 (by exact hD2)).mono ?_
    rintro e w3 ⟨rfl, hb3⟩
    obtain ⟨x, y, hq⟩ : ∃ x y, chunkFor ls a = (x, y) := ⟨_, _, rfl⟩
    have HQ := Lib.hid hq
    rw [HQ.out]
    have hC3 := hC2.below hb3
    have hT3 := hT2.below hb3
    have hb3 := below_then hb2 hb3
    clear hq hD2 hC2 hT2 hb2 hlc2 hcm2
    go_wp2_with fail
    refine (toChunkS_any A ls c _ hl (by exact hC3)).mono ?_
    rintro e w4 ⟨cs4, fp4, rfl, how4, hn4, hf4, hb4⟩
    have hC4 := hC3.below hb4
    have hT4 := hT3.below hb4
    have hb4 := below_then hb3 hb4
    obtain ⟨A4, c4, rfl, hlc4, hcm4, hD4⟩ := Lay.chunks.read how4
    unfold wSlice
    clear how4 hn4 hf4 hC3 hT3 hb3 hlc4 hcm4
    go_wp2_with fail
    refine (implChunkFor_any A4 ls c4 a _ hl2 ha.2 (by exact hT4) (by exact hD4)).mono ?_
    rintro e w5 ⟨rfl, hb5⟩
    rw [HQ.out]
    have hC5 := hC4.below hb5
    have hD5 := hD4.below hb5
    have hb5 := below_then hb4 hb5
    have hq1 : (x != x) = false := by simp
    have hq2 : (y != y) = false := by simp
    clear hC4 hD4 hT4 hb4 HQ
    go_wp2_with fail
    refine (toChunkS_any A ls c _ hl (by exact hC5)).mono ?_
    rintro e w6 ⟨cs6, fp6, rfl, how6, hn6, hf6, hb6⟩
    have hD6 := hD5.below hb6
    have hb6 := below_then hb5 hb6
    obtain ⟨A6, c6, rfl, hlc6, hcm6, hE6⟩ := Lay.chunks.read how6
    unfold wSlice
    clear how6 hn6 hf6 hC5 hD5 hb5 hlc6 hcm6
    go_wp2_with fail
    refine (eqChunkS_any A4 A6 ls ls c4 c6 _ hn9 (by exact hD6) (by exact hE6)).mono ?_
    rintro e w7 ⟨rfl, hb7⟩
    rw [decide_eq_true (rfl : ls = ls)]
    have hb7 := below_then hb6 hb7
    go_wp2
    go_ret
    exact ⟨rfl, hb7⟩

end Go.Proofs.YtpgeanombiociaaDoor.fnExactChunkFor
