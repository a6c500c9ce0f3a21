/-
  FnExactRopeOk, its walk. Own work.
-/
import Derived.Test.YtpipkmnmdipeeaaDoorLaw
import Derived.Test.YtpipkmnmdipeeaaDoorS04
import Derived.Test.YtpipkmnmdipeeaaDoorI04
import Derived.Test.YtpipkmnmdipeeaaDoorC04
namespace Go.Proofs.YtpipkmnmdipeeaaDoor.fnExactRopeOk
open Go.ChangeShapes Go.WideShapes Go.ChangeAt Go.RowKit P
set_option linter.unusedVariables false
set_option maxRecDepth 100000

set_option maxHeartbeats 2000000 in
theorem walk (A : Option Addr) (ls : List (List UInt8)) (c : Nat) (hc : ls.length ≤ c) (hm : c ≤ maxLen) (w : World) (hL : Cs w A ls) (hT : Tab w) :
    Calls Tryd.prog 3 #[.agg #[.slice A ls.length c]] w fun e w' => e = .returned (.bool true) ∧ Below w.heap.size w w' := by
  have hn9 : ls.length ≤ 9223372036854775807 := by unfold maxLen at hm; omega
  clear hc hm
  have hb0 := (Below.refl w.heap.size w).alloc (Nat.le_refl _) (.cells #[.slice A ls.length c] 24)
  have bA0 := Blk.new w #[.slice A ls.length c] 24
  have hL0 := hL.below hb0
  go_enter Tryd.func3, Tryd.ntmps3
  go_wp2_with fail
  refine (szRope_any A ls c _ hn9 (by exact hL0)).mono ?_
  rintro e w1 ⟨⟨r, rfl, hr⟩, hb1⟩
  have bA1 := bA0.below hb1
  have hb1 := below_then hb0 hb1
  by_cases hneg : r < 0
  · go_wp2
    go_ret
    exact ⟨rfl, hb1⟩
  · have hl : ls.length + tot ls ≤ 1048576 := by omega
    have hl2 : ls.length ≤ 1048576 := by omega
    clear hr bA0 hb0 hL0
    have hL1 := hL.below hb1
    have kA1 : w1.cell? ⟨w.heap.size, 0, none⟩ = some (.slice A ls.length c) := by rw [bA1.cell]; rfl
    go_wp2_with fail
    refine (toRope_any A ls c _ hl (by exact hL1)).mono ?_
    rintro e w2 ⟨v2, fp2, rfl, how2, hn2, hf2, hb2⟩
    have bA2 := bA1.below hb2
    have hb2 := below_then hb1 hb2
    obtain ⟨A2, c2, rfl, _, _, hD2⟩ := Lay.chunks_rd (Lay.chunks.read how2)
    clear how2 hn2 hf2 bA1 kA1 hL1 hb1
    go_wp2_with fail
    refine (specRopeOk_any A2 ls c2 _ hn9 (by exact hD2)).mono ?_
    rintro e w3 ⟨rfl, hb3⟩
    have bA3 := bA2.below hb3
    have hb3 := below_then hb2 hb3
    have hL3 := hL.below hb3
    have kA3 : w3.cell? ⟨w.heap.size, 0, none⟩ = some (.slice A ls.length c) := by rw [bA3.cell]; rfl
    generalize hq : chunksOk ls = q
    have HQ := Lib.hid hq
    clear hq hD2 hb2 bA2
    go_wp2_with fail
    refine (toRope_any A ls c _ hl (by exact hL3)).mono ?_
    rintro e w4 ⟨v4, fp4, rfl, how4, hn4, hf4, hb4⟩
    have bA4 := (bA3.below hb4).alloc (.cells #[v4] 29)
    obtain ⟨A4, c4, rfl, _, _, hD4⟩ := Lay.chunks_rd (Lay.chunks.read how4)
    have hb4 := below_then hb3 hb4
    have hal := (Below.refl w4.heap.size w4).alloc (Nat.le_refl _) (.cells #[.slice A4 ls.length c4] 29)
    have hb4 := below_then hb4 hal
    have bX4 := Blk.new w4 #[.slice A4 ls.length c4] 29
    have hD4 := hD4.below hal
    have hT4 := hT.below hb4
    clear how4 hn4 hf4 bA3 kA3 hL3 hb3 hal
    go_wp2_with fail
    refine (implRopeOk_any A4 ls c4 _ hl2 (by exact hT4) (by exact hD4)).mono ?_
    rintro e w5 ⟨rfl, hb5⟩
    rw [HQ.out]
    have bA5 := bA4.below hb5
    have bX5 := bX4.below hb5
    have hD5 := hD4.below hb5
    have hb5 := below_then hb4 hb5
    have hL5 := hL.below hb5
    have hsA := bA5.lt
    have hsX := bX5.lt
    have kA5 : w5.cell? ⟨w.heap.size, 0, none⟩ = some (.slice A ls.length c) := by rw [bA5.cell]; rfl
    have kX5 : w5.cell? ⟨w4.heap.size, 0, none⟩ = some (.slice A4 ls.length c4) := by rw [bX5.cell]; rfl
    have hqq : (q != q) = false := by simp
    clear HQ bA4 bX4 hD4 hb4
    go_wp2
    go_region_with (first
      | (go_at_call 17; refine (toRope_any A ls c _ hl (by exact hL5)).mono ?_; rintro e w6 ⟨v6, fp6, rfl, how6, hn6, hf6, hb6⟩; obtain ⟨A6, c6, rfl, _, _, hD6⟩ := Lay.chunks_rd (Lay.chunks.read how6); have kX6 : w6.cell? ⟨w4.heap.size, 0, none⟩ = some (.slice A4 ls.length c4) := (hb6.cell (p := ⟨w4.heap.size, 0, none⟩) hsX).trans kX5; have hD56 : Cs w6 A4 ls := Cs.below (w := w5) hD5 ⟨hb6.os, hb6.tape, hb6.output, hb6.size, hb6.block⟩; have hb6' : Below w.heap.size w w6 := below_then (b := w5.drew) hb5.drew hb6; clear how6 hn6 hf6 hb6)
      | (go_at_call 19; refine (eqRope_any A4 _ ls ls c4 _ _ hn9 (by assumption) (by assumption)).mono ?_; rintro e w7 ⟨rfl, hb7⟩; rw [decide_eq_true (rfl : ls = ls)]))
    all_goals
      go_wp2
      go_ret
      exact ⟨rfl, ⟨hb7.os.trans hb6'.os, hb7.tape.trans hb6'.tape, hb7.output.trans hb6'.output, Nat.le_trans hb6'.size hb7.size, fun k hk => (hb7.block k (Nat.lt_of_lt_of_le hk hb6'.size)).trans (hb6'.block k hk)⟩⟩

end Go.Proofs.YtpipkmnmdipeeaaDoor.fnExactRopeOk
