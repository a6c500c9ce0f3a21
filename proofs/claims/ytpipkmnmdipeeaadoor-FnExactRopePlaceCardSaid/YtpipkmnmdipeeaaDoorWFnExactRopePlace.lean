/-
  FnExactRopePlace, its walk. Own work.
-/
import Derived.Test.YtpipkmnmdipeeaaDoorLaw
import Derived.Test.YtpipkmnmdipeeaaDoorR06
import Derived.Deep.RegionHeld3
namespace Go.Proofs.YtpipkmnmdipeeaaDoor.fnExactRopePlace
open Go.ChangeShapes Go.WideShapes Go.ChangeAt Go.RowKit P
set_option linter.unusedVariables false
set_option maxRecDepth 100000

set_option maxHeartbeats 2000000 in
theorem walk (A : Option Addr) (ls : List (List UInt8)) (c : Nat) (hc : ls.length ≤ c) (hm : c ≤ maxLen) (line : Int) (ha : -9223372036854775808 ≤ line ∧ line ≤ 9223372036854775807) (col : Int) (hb : -9223372036854775808 ≤ col ∧ col ≤ 9223372036854775807) (w : World) (hL : Cs w A ls) (hT : Tab w) (hM : ∃ m : Int, w.cell? ⟨0, 0, none⟩ = some (.int .i64 m)) :
    Calls Tryd.prog 14 #[.agg #[.slice A ls.length c], .int .i64 line, .int .i64 col] w fun e w' => e = .returned (.bool true) ∧ Below w.heap.size w w' := by
  have hn9 : ls.length ≤ 9223372036854775807 := by unfold maxLen at hm; omega
  clear hc hm
  have hb0 := (Below.refl w.heap.size w).alloc (Nat.le_refl _) (.cells #[.slice A ls.length c] 24)
  have bA0 := Blk.new w #[.slice A ls.length c] 24
  have hL0 := hL.below hb0
  go_enter Tryd.func14, Tryd.ntmps14
  go_wp2_with fail
  refine (szRope_any A ls c _ hn9 (by exact hL0)).mono ?_
  rintro e w1 ⟨⟨r, rfl, hr⟩, hb1⟩
  have bA1 := bA0.below hb1
  have hb1 := below_then hb0 hb1
  by_cases hneg : r < 0
  · go_wp2
    go_ret
    exact ⟨rfl, hb1⟩
  · have hl : ls.length + tot ls ≤ 1048576 := by omega
    have hl2 : ls.length ≤ 1048576 := by omega
    obtain ⟨m, hM⟩ := hM
    have hMz : 0 < w.heap.size := World.block_lt_of_cell? w _ hM
    clear hr bA0 hb0 hL0
    have hL1 := hL.below hb1
    have kA1 : w1.cell? ⟨w.heap.size, 0, none⟩ = some (.slice A ls.length c) := by rw [bA1.cell]; rfl
    go_wp2_with fail
    refine (toRope_any A ls c _ hl (by exact hL1)).mono ?_
    rintro e w2 ⟨v2, fp2, rfl, how2, hn2, hf2, hb2⟩
    have bA2 := bA1.below hb2
    have hb2 := below_then hb1 hb2
    obtain ⟨A2, c2, rfl, _, _, hD2⟩ := Lay.chunks_rd (Lay.chunks.read how2)
    clear how2 hn2 hf2 bA1 kA1 hL1 hb1
    go_wp2_with fail
    refine (specRopePlace_any A2 ls c2 line col _ hn9 (by exact hD2)).mono ?_
    rintro e w3 ⟨x, rfl, hx, hb3⟩
    have bA3 := bA2.below hb3
    have hb3 := below_then hb2 hb3
    have hL3 := hL.below hb3
    have kA3 : w3.cell? ⟨w.heap.size, 0, none⟩ = some (.slice A ls.length c) := by rw [bA3.cell]; rfl
    clear hD2 hb2 bA2
    go_wp2_with fail
    refine (toRope_any A ls c _ hl (by exact hL3)).mono ?_
    rintro e w4 ⟨v4, fp4, rfl, how4, hn4, hf4, hb4⟩
    obtain ⟨A4, c4, rfl, _, _, hD4⟩ := Lay.chunks_rd (Lay.chunks.read how4)
    have hal := (Below.refl w4.heap.size w4).alloc (Nat.le_refl _) (.cells #[.slice A4 ls.length c4] 29)
    have bA4 := (bA3.below hb4).below hal
    have hb4 := below_then (below_then hb3 hb4) hal
    have bX4 := Blk.new w4 #[.slice A4 ls.length c4] 29
    have hD4 := hD4.below hal
    clear how4 hn4 hf4 bA3 kA3 hL3 hb3 hal
    have hT5 := hT.below hb4
    have hM5 := (hb4.cell (p := ⟨0, 0, none⟩) hMz).trans hM
    have hMz5 := Nat.lt_of_lt_of_le hMz hb4.size
    have kX5 : (w4.alloc (.cells #[.slice A4 ls.length c4] 29)).cell? ⟨w4.heap.size, 0, none⟩ = some (.slice A4 ls.length c4) := by rw [bX4.cell]; rfl
    go_wp2_with fail
    generalize w4.alloc (.cells #[.slice A4 ls.length c4] 29) = w5 at *
    refine (implRopePlace_any A4 ls c4 line col m _ (by exact hM5) hMz5 hl2 hb.2 (by exact hT5) (by exact hD4)).mono ?_
    rintro e w6 ⟨y, rfl, hy, hb6⟩
    obtain rfl := hy.unique hx
    have bA6 := bA4.below hb6
    have bX6 := bX4.below hb6
    have hD6 := hD4.below hb6
    have hb6 := below_then hb4 hb6
    have hL6 := hL.below hb6
    have hsA := bA6.lt
    have hsX := bX6.lt
    have kA6 : w6.cell? ⟨w.heap.size, 0, none⟩ = some (.slice A ls.length c) := by rw [bA6.cell]; rfl
    have kX6 : w6.cell? ⟨w4.heap.size, 0, none⟩ = some (.slice A4 ls.length c4) := by rw [bX6.cell]; rfl
    have hqq : (y != y) = false := by simp
    clear hx hy bA4 bX4 hD4 hb4 hT5 hM5 kX5
    go_wp2
    go_region_held3 (fun V => V.cell? ⟨w.heap.size, 0, none⟩ = some (.slice A ls.length c) ∧ V.cell? ⟨w4.heap.size, 0, none⟩ = some (.slice A4 ls.length c4)) (exact ⟨(by first | exact kA6 | exact kA7 | exact kA8), (by first | exact kX6 | exact kX7 | exact kX8)⟩) (first
      | (go_at_call 17; refine (toRope_any A ls c _ hl (by exact hL6)).mono ?_; rintro e w7 ⟨v7, fp7, rfl, how7, hn7, hf7, hb7⟩; have hb7 : Below w6.heap.size w6 w7 := ⟨hb7.os, hb7.tape, hb7.output, hb7.size, hb7.block⟩; obtain ⟨A7, c7, rfl, _, _, hE7⟩ := Lay.chunks_rd (Lay.chunks.read how7); have kA7 := (hb7.cell (p := ⟨w.heap.size, 0, none⟩) hsA).trans kA6; have kX7 := (hb7.cell (p := ⟨w4.heap.size, 0, none⟩) hsX).trans kX6; have hE67 := hD6.below hb7; have hsA7 := Nat.lt_of_lt_of_le hsA hb7.size; have hsX7 := Nat.lt_of_lt_of_le hsX hb7.size; clear how7 hn7 hf7)
      | (go_at_call 19; refine (eqRope_any A4 _ ls ls c4 _ _ hn9 (by exact hE67) (by exact hE7)).mono ?_; rintro e w8 ⟨rfl, hb8⟩; have hb8 : Below w7.heap.size w7 w8 := ⟨hb8.os, hb8.tape, hb8.output, hb8.size, hb8.block⟩; rw [decide_eq_true (rfl : ls = ls)]; have kA8 := (hb8.cell (p := ⟨w.heap.size, 0, none⟩) hsA7).trans kA7; have kX8 := (hb8.cell (p := ⟨w4.heap.size, 0, none⟩) hsX7).trans kX7))
    have hb68 := below_then hb7 hb8
    have hb8 := below_then hb6 hb68
    go_wp2
    go_ret
    exact ⟨rfl, hb8⟩

end Go.Proofs.YtpipkmnmdipeeaaDoor.fnExactRopePlace
