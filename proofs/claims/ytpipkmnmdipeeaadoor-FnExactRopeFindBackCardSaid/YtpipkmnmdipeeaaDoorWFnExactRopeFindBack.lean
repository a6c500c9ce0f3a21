/-
  FnExactRopeFindBack, its walk. Own work.
-/
import Derived.Test.YtpipkmnmdipeeaaDoorLaw
import Derived.Test.YtpipkmnmdipeeaaDoorR04c
import Derived.Deep.RegionHeld3
namespace Go.Proofs.YtpipkmnmdipeeaaDoor.fnExactRopeFindBack
open Go.ChangeShapes Go.WideShapes Go.ChangeAt Go.RowKit P
set_option linter.unusedVariables false
set_option maxRecDepth 100000

set_option maxHeartbeats 2000000 in
theorem walk (A : Option Addr) (ls : List (List UInt8)) (c : Nat) (hc : ls.length ≤ c) (hm : c ≤ maxLen) (Ap : Option Addr) (p : List UInt8) (cp : Nat) (hcp : p.length ≤ cp) (hmp : cp ≤ maxLen) (a : Int) (ha : -9223372036854775808 ≤ a ∧ a ≤ 9223372036854775807) (w : World) (hL : Cs w A ls) (hP : Bs w Ap p) (hT : Tab w) :
    Calls Tryd.prog 12 #[.agg #[.slice A ls.length c], .slice Ap p.length cp, .int .i64 a] w fun e w' => e = .returned (.bool true) ∧ Below w.heap.size w w' := by
  have hn9 : ls.length ≤ 9223372036854775807 := by unfold maxLen at hm; omega
  have hp9' : p.length ≤ 9223372036854775807 := by unfold maxLen at hmp; omega
  clear hc hm hcp hmp
  have hb0 := (Below.refl w.heap.size w).alloc (Nat.le_refl _) (.cells #[.slice A ls.length c] 24)
  have bA0 := Blk.new w #[.slice A ls.length c] 24
  have hL0 := hL.below hb0
  by_cases hbig : 1048576 < (p.length : Int)
  · go_enter Tryd.func12, Tryd.ntmps12
    go_wp2
    go_ret
    exact ⟨rfl, hb0⟩
  have hp : p.length ≤ 1048576 := by omega
  go_enter Tryd.func12, Tryd.ntmps12
  go_wp2_with fail
  refine (szRope_any A ls c _ hn9 (by exact hL0)).mono ?_
  rintro e w1 ⟨⟨r, rfl, hr⟩, hb1⟩
  have bA1 := bA0.below hb1
  have hb1 := below_then hb0 hb1
  by_cases hneg : r < 0
  · go_wp2
    go_ret
    exact ⟨rfl, hb1⟩
  · have hl : ls.length + tot ls ≤ 1048576 := by omega
    have hl2 : ls.length ≤ 1048576 := by omega
    clear hr bA0 hb0 hL0
    have hL1 := hL.below hb1
    have hP1 := hP.below hb1
    have kA1 : w1.cell? ⟨w.heap.size, 0, none⟩ = some (.slice A ls.length c) := by rw [bA1.cell]; rfl
    go_wp2_with fail
    refine (toRope_any A ls c _ hl (by exact hL1)).mono ?_
    rintro e w2 ⟨v2, fp2, rfl, how2, hn2, hf2, hb2⟩
    have bA2 := bA1.below hb2
    have hP2 := hP1.below hb2
    have hb2 := below_then hb1 hb2
    obtain ⟨A2, c2, rfl, _, _, hD2⟩ := Lay.chunks_rd (Lay.chunks.read how2)
    clear how2 hn2 hf2 bA1 kA1 hL1 hb1 hP1
    go_wp2_with fail
    refine (toByteS_any Ap p cp _ hp (by exact hP2)).mono ?_
    rintro e w2b ⟨rfl, hrow2, hb2b⟩
    have hD2 := hD2.below hb2b
    have bA2 := bA2.below hb2b
    have hb2 := below_then hb2 hb2b
    go_wp2_with fail
    refine (specRopeFindBack_any A2 _ ls c2 p p.length a _ hn9 (Nat.le_refl _) hp9' (by omega) (by exact hD2) (by exact hrow2.bs)).mono ?_
    rintro e w3 ⟨x, rfl, hx, hb3⟩
    have bA3 := bA2.below hb3
    have hb3 := below_then hb2 hb3
    have hL3 := hL.below hb3
    have hP3 := hP.below hb3
    have kA3 : w3.cell? ⟨w.heap.size, 0, none⟩ = some (.slice A ls.length c) := by rw [bA3.cell]; rfl
    clear hD2 hb2 bA2 hb2b hrow2 hP2
    go_wp2_with fail
    refine (toRope_any A ls c _ hl (by exact hL3)).mono ?_
    rintro e w4 ⟨v4, fp4, rfl, how4, hn4, hf4, hb4⟩
    obtain ⟨A4, c4, rfl, _, _, hD4⟩ := Lay.chunks_rd (Lay.chunks.read how4)
    have hal := (Below.refl w4.heap.size w4).alloc (Nat.le_refl _) (.cells #[.slice A4 ls.length c4] 29)
    have bA4 := (bA3.below hb4).below hal
    have hP4 := (hP3.below hb4).below hal
    have hb4 := below_then (below_then hb3 hb4) hal
    have bX4 := Blk.new w4 #[.slice A4 ls.length c4] 29
    have hD4 := hD4.below hal
    clear how4 hn4 hf4 bA3 kA3 hL3 hb3 hal hP3
    go_wp2_with fail
    generalize w4.alloc (.cells #[.slice A4 ls.length c4] 29) = W4 at *
    refine (toByteS_any Ap p cp _ hp (by exact hP4)).mono ?_
    rintro e w5 ⟨rfl, hrow5, hb5⟩
    have hX5 := hrow5.bs
    have bA5 := bA4.below hb5
    have bX5 := bX4.below hb5
    have hD5 := hD4.below hb5
    have hb5 := below_then hb4 hb5
    have hT5 := hT.below hb5
    have kX5 : w5.cell? ⟨w4.heap.size, 0, none⟩ = some (.slice A4 ls.length c4) := by rw [bX5.cell]; rfl
    clear hD4 hb4 bA4 bX4 hP4 hrow5
    go_wp2_with fail
    refine (implRopeFindBack_any A4 _ ls c4 p p.length a _ hl2 (Nat.le_refl _) hp9' (by omega) (by exact hT5) (by exact hD5) (by exact hX5)).mono ?_
    rintro e w6 ⟨y, rfl, hy, hb6⟩
    obtain rfl := hy.unique hx
    have bA6 := bA5.below hb6
    have bX6 := bX5.below hb6
    have hD6 := hD5.below hb6
    have hX6 := hX5.below hb6
    have hb6 := below_then hb5 hb6
    have hL6 := hL.below hb6
    have hsA := bA6.lt
    have hsX := bX6.lt
    have kA6 : w6.cell? ⟨w.heap.size, 0, none⟩ = some (.slice A ls.length c) := by rw [bA6.cell]; rfl
    have kX6 : w6.cell? ⟨w4.heap.size, 0, none⟩ = some (.slice A4 ls.length c4) := by rw [bX6.cell]; rfl
    have hqq : (y != y) = false := by simp
    clear hx hy bA5 bX5 hD5 hX5 hb5 hT5 kX5
    go_wp2
    go_region_held3 (fun V => V.cell? ⟨w.heap.size, 0, none⟩ = some (.slice A ls.length c) ∧ V.cell? ⟨w4.heap.size, 0, none⟩ = some (.slice A4 ls.length c4)) (exact ⟨(by first | exact kA6 | exact kA7 | exact kA8), (by first | exact kX6 | exact kX7 | exact kX8)⟩) (first
      | (go_at_call 17; refine (toRope_any A ls c _ hl (by exact hL6)).mono ?_; rintro e w7 ⟨v7, fp7, rfl, how7, hn7, hf7, hb7⟩; have hb7 : Below w6.heap.size w6 w7 := ⟨hb7.os, hb7.tape, hb7.output, hb7.size, hb7.block⟩; obtain ⟨A7, c7, rfl, _, _, hE7⟩ := Lay.chunks_rd (Lay.chunks.read how7); have kA7 := (hb7.cell (p := ⟨w.heap.size, 0, none⟩) hsA).trans kA6; have kX7 := (hb7.cell (p := ⟨w4.heap.size, 0, none⟩) hsX).trans kX6; have hE67 := hD6.below hb7; have hsA7 := Nat.lt_of_lt_of_le hsA hb7.size; have hsX7 := Nat.lt_of_lt_of_le hsX hb7.size; clear how7 hn7 hf7)
      | (go_at_call 19; refine (eqRope_any A4 _ ls ls c4 _ _ hn9 (by exact hE67) (by exact hE7)).mono ?_; rintro e w8 ⟨rfl, hb8⟩; have hb8 : Below w7.heap.size w7 w8 := ⟨hb8.os, hb8.tape, hb8.output, hb8.size, hb8.block⟩; rw [decide_eq_true (rfl : ls = ls)]; have kA8 := (hb8.cell (p := ⟨w.heap.size, 0, none⟩) hsA7).trans kA7; have kX8 := (hb8.cell (p := ⟨w4.heap.size, 0, none⟩) hsX7).trans kX7))
    have hb68 := below_then hb7 hb8
    have hX8 := hX6.below hb68
    have hb8 := below_then hb6 hb68
    have hP8 := hP.below hb8
    clear hb6 hb68 hb7 hE67 hE7 kA6 kX6 kA7 kX7 kA8 kX8 hsA7 hsX7 hsA hsX hL6 hX6 hD6 bA6 bX6 hqq
    go_wp2_with fail
    refine (toByteS_any Ap p cp _ hp (by exact hP8)).mono ?_
    rintro e w9 ⟨rfl, hrow9, hb9⟩
    have hX9 := hX8.below hb9
    have hb9 := below_then hb8 hb9
    go_wp2_with fail
    refine (eqByteS_any _ _ p p _ _ _ (by omega) (by exact hX9) (by exact hrow9.bs)).mono ?_
    rintro e w10 ⟨rfl, n10, rfl⟩
    rw [decide_eq_true (rfl : p = p)]
    go_wp2
    go_ret
    exact ⟨rfl, below_drewN hb9 n10⟩

end Go.Proofs.YtpipkmnmdipeeaaDoor.fnExactRopeFindBack
