/-
  FnExactChunkOk, its walk. Own work.
-/
import Derived.Test.YtpgeanombiociaaDoorLaw
import Derived.Test.YtpgeanombiociaaDoorI02b
namespace Go.Proofs.YtpgeanombiociaaDoor.fnExactChunkOk
open Go.ChangeShapes Go.WideShapes Go.ChangeAt Go.RowKit P
set_option linter.unusedVariables false

set_option maxHeartbeats 2000000 in
theorem walk (A : Option Addr) (l : List UInt8) (c : Nat) (hc : l.length ≤ c) (hm : c ≤ maxLen) (w : World) (hB : Bs w A l) (hT : Tab w) :
    Calls Tryd.prog 7 #[.agg #[.slice A l.length c]] w fun e w' => e = .returned (.bool true) ∧ Below w.heap.size w w' := by
  have hb0 := (Below.refl w.heap.size w).alloc (Nat.le_refl _) (.cells #[.slice A l.length c] 46)
  have hB0 := hB.below hb0
  have hT0 := hT.below hb0
  have hl9 : l.length ≤ 9223372036854775807 := by unfold maxLen at hm; omega
  go_enter Tryd.func7, Tryd.ntmps7
  go_wp2_with fail
  refine (szChunk_any A l.length c 1048576 _ hl9 (by omega) (by omega)).mono ?_
  rintro e w1 ⟨⟨r, rfl, hr⟩, hb1⟩
  have hx1 := (Blk.new w _ _).below hb1
  have hB1 := hB0.below hb1
  have hT1 := hT0.below hb1
  have hb1 := hb0.trans (hb1.mono (by simp))
  clear hb0 hB0 hT0
  by_cases hneg : r < 0
  · go_wp2
    go_ret
    exact ⟨rfl, hb1⟩
  · have hl : l.length ≤ 1048576 := by omega
    have d1 : w1.cell? ⟨w.heap.size, 0, none⟩ = some (.slice A l.length c) := hx1.cell 0
    clear hr
    go_wp2_with fail
    refine (toChunk_any A l c _ hl (by exact hB1)).mono ?_
    rintro e w2 ⟨v2, rfl, hown2, hb2⟩
    have hx2 := hx1.below hb2
    have hB2 := hB1.below hb2
    have hT2 := hT1.below hb2
    have hb2 := below_then hb1 hb2
    obtain ⟨A2, c2, rfl, hlc2, hcm2, hBs2⟩ := hown2.form
    have hc92 : c2 ≤ 9223372036854775807 := by unfold maxLen at hcm2; omega
    clear hown2 d1 hx1 hB1 hT1 hb1 hcm2
    go_wp2_with fail
    refine (specChunkOk_any A2 l c2 _ hlc2 hc92 (by exact hBs2)).mono ?_
    rintro e w3 ⟨rfl, hb3⟩
    have hx3 := hx2.below hb3
    have hB3 := hB2.below hb3
    have hT3 := hT2.below hb3
    have hb3 := below_then hb2 hb3
    have d3 : w3.cell? ⟨w.heap.size, 0, none⟩ = some (.slice A l.length c) := hx3.cell 0
    generalize hq : chunkOk l = q
    have HQ := Lib.hid hq
    clear hq hx2 hB2 hT2 hb2 hBs2
    go_wp2_with fail
    refine (toChunk_any A l c _ hl (by exact hB3)).mono ?_
    rintro e w4 ⟨v4, rfl, hown4, hb4⟩
    have hx4 := hx3.below hb4
    have hB4 := hB3.below hb4
    have hT4 := hT3.below hb4
    have hb4 := below_then hb3 hb4
    obtain ⟨A4, c4, rfl, hlc4, hcm4, hBs4⟩ := hown4.form
    have hc94 : c4 ≤ 9223372036854775807 := by unfold maxLen at hcm4; omega
    have hal := (Below.refl w4.heap.size w4).alloc (Nat.le_refl _) (.cells #[.slice A4 l.length c4] 37)
    have hx5 := hx4.below hal
    have hy5 := Blk.new w4 #[.slice A4 l.length c4] 37
    have hB5 := hB4.below hal
    have hT5 := hT4.below hal
    have hBs5 := hBs4.below hal
    have hb5 := below_then hb4 hal
    clear hown4 d3 hx3 hB3 hT3 hb3 hcm4 hx4 hB4 hT4 hb4 hBs4 hal
    go_wp2_with fail
    refine (implChunkOk_any A4 l c4 _ hlc4 hc94 (by exact hT5) (by exact hBs5)).mono ?_
    rintro e w6 ⟨rfl, hb6⟩
    rw [HQ.out]
    have hx6 := hx5.below hb6
    have hy6 := hy5.below hb6
    have hB6 := hB5.below hb6
    have hBs6 := hBs5.below hb6
    have hb6 := below_then hb5 hb6
    have hqq : (q != q) = false := by simp
    have d6 : w6.cell? ⟨w.heap.size, 0, none⟩ = some (.slice A l.length c) := hx6.cell 0
    have e6 : w6.cell? ⟨w4.heap.size, 0, none⟩ = some (.slice A4 l.length c4) := hy6.cell 0
    have hs6 := hy6.lt
    have hs60 := hx6.lt
    clear hx5 hy5 hB5 hT5 hBs5 hb5 HQ hT
    go_wp2
    go_region_with (first
      | (go_at_call 37; refine (toChunk_any A l c _ hl (by exact hB6)).mono ?_; rintro e w7 ⟨v7, rfl, hown7, hb7⟩; have hb7 : Below w6.heap.size w6 w7 := ⟨hb7.os, hb7.tape, hb7.output, hb7.size, hb7.block⟩; obtain ⟨A7, c7, rfl, _, _, hBs7⟩ := hown7.form; have e7 := hy6.below (w' := w7) hb7; have e70 : w7.cell? ⟨w4.heap.size, 0, none⟩ = some (.slice A4 l.length c4) := e7.cell 0; have hBx7 := hBs6.below (w' := w7) hb7; have hb7' := below_then hb6 hb7)
      | (go_at_call 39; refine (eqChunk_any A4 _ l l c4 _ _ hl9 (by exact hBx7) (by exact hBs7)).mono ?_; rintro e w8 ⟨rfl, hb8⟩; rw [decide_eq_true (rfl : l = l)]; have hb8' := below_then hb7' hb8))
    all_goals trace "way"
    all_goals go_wp2
    all_goals go_ret
    all_goals exact ⟨rfl, hb8'⟩

end Go.Proofs.YtpgeanombiociaaDoor.fnExactChunkOk
