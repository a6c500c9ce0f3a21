/-
  FnExactRopeSlice, its walk. Own work.
-/
import Derived.Test.YtfgbipomdfceeaaDoorLaw
import Derived.Test.YtfgbipomdfceeaaDoorI06
import Derived.Deep.RegionHeld3
namespace Go.Proofs.YtfgbipomdfceeaaDoor.fnExactRopeSlice
open Go.ChangeShapes Go.WideShapes Go.ChangeAt Go.RowKit P
set_option linter.unusedVariables false
set_option maxRecDepth 100000

set_option maxHeartbeats 4000000 in
theorem walk (A : Option Addr) (ls : List (List UInt8)) (c : Nat) (hc : ls.length ≤ c) (hm : c ≤ maxLen) (i : Int) (hi : -9223372036854775808 ≤ i ∧ i ≤ 9223372036854775807) (j : Int) (hj : -9223372036854775808 ≤ j ∧ j ≤ 9223372036854775807) (w : World) (hL : Cs w A ls) (hT : Tab w) :
    Calls Tryd.prog 8 #[.agg #[.slice A ls.length c], .int .i64 i, .int .i64 j] w fun e w' => e = .returned (.bool true) ∧ Below w.heap.size w w' := by
  have hn9 : ls.length ≤ 9223372036854775807 := by unfold maxLen at hm; omega
  have hlenT := sliceV_len ls i j
  obtain ⟨T', hTe⟩ : ∃ T', sliceV ls i j = T' := ⟨_, rfl⟩
  obtain ⟨z, hze⟩ : ∃ z, sliceOk ls i j = z := ⟨_, rfl⟩
  rw [hTe] at hlenT
  have HTE := Lib.hid hTe
  have HZE := Lib.hid hze
  have hzz : (z != z) = false := by simp
  clear hc hm hTe hze
  have hb0 := (Below.refl w.heap.size w).alloc (Nat.le_refl _) (.cells #[.slice A ls.length c] 54)
  have bA0 := Blk.new w #[.slice A ls.length c] 54
  have hL0 := hL.below hb0
  go_enter Tryd.func8, Tryd.ntmps8
  go_wp2_with fail
  refine (szRope_any A ls c _ hn9 (by exact hL0)).mono ?_
  rintro e w1 ⟨⟨r, rfl, hr⟩, hb1⟩
  have bA1 := bA0.below hb1
  have hb1 := below_then hb0 hb1
  by_cases hneg : r < 0
  · go_wp2
    go_ret
    exact ⟨rfl, hb1⟩
  · have hl : ls.length + tot ls ≤ 1048576 := by omega
    have hl2 : ls.length ≤ 1048576 := by omega
    clear hr bA0 hb0 hL0
    have hL1 := hL.below hb1
    have kA1 : w1.cell? ⟨w.heap.size, 0, none⟩ = some (.slice A ls.length c) := by rw [bA1.cell]; rfl
    go_wp2_with fail
    refine (toRope_any A ls c _ hl (by exact hL1)).mono ?_
    rintro e w2 ⟨v2, fp2, rfl, how2, hn2, hf2, hb2⟩
    have bA2 := bA1.below hb2
    have hb2 := below_then hb1 hb2
    obtain ⟨A2, c2, rfl, _, _, hD2⟩ := Lay.chunks_rd (Lay.chunks.read how2)
    clear how2 hn2 hf2 bA1 kA1 hL1 hb1
    go_wp2_with fail
    refine (specRopeSlice_any A2 ls c2 i j _ hn9 (by exact hD2)).mono ?_
    rintro e w3 ⟨v0, rfl, hown0, hb3⟩
    rw [HTE.out] at hown0
    rw [HZE.out]
    have hs2 := hb2.size
    have hown0 := hown0.mono (base' := w.heap.size) hs2
    have bA3 := bA2.below hb3
    have hb3 := below_then hb2 hb3
    have hL3 := hL.below hb3
    have kA3 : w3.cell? ⟨w.heap.size, 0, none⟩ = some (.slice A ls.length c) := by rw [bA3.cell]; rfl
    have hr0 := hown0.range
    have hsA3 := bA3.lt
    clear hD2 hb2 bA2 hs2
    -- the copy of the argument, the program's answer
    go_wp2_with fail
    refine (toRope_any A ls c _ hl (by exact hL3)).mono ?_
    rintro e w4 ⟨v4, fp4, rfl, how4, hn4, hf4, hb4⟩
    obtain ⟨A4, c4, rfl, _, _, hD4⟩ := Lay.chunks_rd (Lay.chunks.read how4)
    have hal := (Below.refl w4.heap.size w4).alloc (Nat.le_refl _) (.cells #[.slice A4 ls.length c4] 26)
    have hlt4 := Lay.chunks.lt how4
    have hs34 := hb4.size
    have hs3 := hb3.size
    have bA4 := (bA3.below hb4).below hal
    have hown0 := (hown0.below hb4).below hal
    have how4 := Lay.chunks.owBelow how4 hal
    have hb4 := below_then (below_then hb3 hb4) hal
    have bX4 := Blk.new w4 #[.slice A4 ls.length c4] 26
    have hD4 := hD4.below hal
    have hT4 := hT.below hb4
    clear bA3 kA3 hL3 hb3 hal
    go_wp2_with fail
    have hw4 : w4.heap.size ≤ (w4.alloc (.cells #[.slice A4 ls.length c4] 26)).heap.size := by simp
    generalize w4.alloc (.cells #[.slice A4 ls.length c4] 26) = W4 at *
    refine (implRopeSlice_any A4 ls c4 i j _ hl2 (by exact hT4) (by exact hD4)).mono ?_
    rintro e w5 ⟨v1, rfl, hown1, hb5⟩
    rw [HTE.out] at hown1
    rw [HZE.out]
    have hown0 := hown0.below hb5
    have how5 := Lay.chunks.owBelow how4 hb5
    have bA5 := bA4.below hb5
    have bX5 := bX4.below hb5
    have hs45 := hb5.size
    have hsX4 := bX4.lt
    have hb5 := below_then hb4 hb5
    have hr1 := hown1.range
    obtain ⟨A0, c0, rfl, _, _, hB0⟩ := hown0.form
    obtain ⟨A1, c1, rfl, _, _, hB1⟩ := hown1.form
    clear how4 hD4 hb4 bA4 bX4 hT4
    go_wp2_with fail
    refine (eqByteS_any _ _ T' T' _ _ _ (by omega) (by exact hB1) (by exact hB0)).mono ?_
    rintro e w6 ⟨rfl, n6, rfl⟩
    rw [decide_eq_true (rfl : T' = T')]
    have hb56 := below_drewN (Below.refl w5.heap.size w5) n6
    have hown06 := hown0.below hb56
    have hown16 := hown1.below hb56
    have how6 := Lay.chunks.owBelow how5 hb56
    have bA6 := bA5.below hb56
    have bX6 := bX5.below hb56
    have hb6 := below_drewN hb5 n6
    have hs6 : (w5.drewN n6).heap.size = w5.heap.size := by simp
    clear hown0 hown1 how5 bA5 bX5 hb5 hb56 hB0 hB1
    generalize w5.drewN n6 = w6 at *
    -- the argument's copy is unchanged
    have hL6 := hL.below hb6
    have hsA := bA6.lt
    have hsX := bX6.lt
    have kA6 : w6.cell? ⟨w.heap.size, 0, none⟩ = some (.slice A ls.length c) := by rw [bA6.cell]; rfl
    have kX6 : w6.cell? ⟨w4.heap.size, 0, none⟩ = some (.slice A4 ls.length c4) := by rw [bX6.cell]; rfl
    have hE6 := (Lay.chunks_rd (Lay.chunks.read how6))
    obtain ⟨A4', c4', e4, _, _, hE6⟩ := hE6
    cases e4
    go_wp2
    go_region_held3 (fun V => V.cell? ⟨w.heap.size, 0, none⟩ = some (.slice A ls.length c) ∧ V.cell? ⟨w4.heap.size, 0, none⟩ = some (.slice A4 ls.length c4)) (exact ⟨(by first | exact kA6 | exact kA7 | exact kA8), (by first | exact kX6 | exact kX7 | exact kX8)⟩) (first
      | (go_at_call 35; refine (toRope_any A ls c _ hl (by exact hL6)).mono ?_; rintro e w7 ⟨v7, fp7, rfl, how7, hn7, hf7, hb7⟩; have hb7 : Below w6.heap.size w6 w7 := ⟨hb7.os, hb7.tape, hb7.output, hb7.size, hb7.block⟩; obtain ⟨A7, c7, rfl, _, _, hE7⟩ := Lay.chunks_rd (Lay.chunks.read how7); have kA7 := (hb7.cell (p := ⟨w.heap.size, 0, none⟩) hsA).trans kA6; have kX7 := (hb7.cell (p := ⟨w4.heap.size, 0, none⟩) hsX).trans kX6; have hE67 := hE6.below hb7; have hsA7 := Nat.lt_of_lt_of_le hsA hb7.size; have hsX7 := Nat.lt_of_lt_of_le hsX hb7.size; clear how7 hn7 hf7)
      | (go_at_call 37; refine (eqRope_any A4 _ ls ls c4 _ _ hn9 (by exact hE67) (by exact hE7)).mono ?_; rintro e w8 ⟨rfl, hb8⟩; have hb8 : Below w7.heap.size w7 w8 := ⟨hb8.os, hb8.tape, hb8.output, hb8.size, hb8.block⟩; rw [decide_eq_true (rfl : ls = ls)]; have kA8 := (hb8.cell (p := ⟨w.heap.size, 0, none⟩) hsA7).trans kA7; have kX8 := (hb8.cell (p := ⟨w4.heap.size, 0, none⟩) hsX7).trans kX7))
    have hb68 := below_then hb7 hb8
    have how8 := Lay.chunks.owBelow how6 hb68
    have hown08 := hown06.below hb68
    have hown18 := hown16.below hb68
    have bA8 := bA6.below hb68
    have bX8 := bX6.below hb68
    have hs68 := hb68.size
    have hb8 := below_then hb6 hb68
    clear how6 hown06 hown16 bA6 bX6 hb6 hb68 hb7 hE6 hE67 hE7 kA6 kX6 kA7 kX7 hsA7 hsX7 hsA hsX hL6
    -- marks in the argument's copy
    go_wp2_with fail
    refine (markRope_any _ ls fp4 1 _ (by omega) (by omega) hn4 (by exact how8)).mono ?_
    rintro e w9 ⟨rfl, how9, hke9⟩
    have hown09 := hown08.keeps hke9 (fun b hb hbf => by have := hr0 b hb; have := hf4 b hbf; omega)
    have hown19 := hown18.keeps hke9 (fun b hb hbf => by have := hr1 b hb; have := hlt4 b hbf; omega)
    have bA9 := bA8.of_block (hke9.block _ bA8.lt (fun h => by have := hf4 _ h; omega))
    have hb9 := hb8.trans (hke9.below (B := w.heap.size) hb8.size (fun k hk => by have := hf4 k hk; omega))
    have hs89 := hke9.size
    have kA9 : w9.cell? ⟨w.heap.size, 0, none⟩ = some (.slice A ls.length c) := by rw [bA9.cell]; rfl
    obtain ⟨A0', c0', e0, _, _, hB09⟩ := hown09.form
    cases e0
    obtain ⟨A1', c1', e1, _, _, hB19⟩ := hown19.form
    cases e1
    obtain ⟨K, hK, hK0⟩ : ∃ K : Int, ((1 + tot ls : Nat) : Int) = K ∧ ¬ K < 0 := ⟨_, rfl, by omega⟩
    have hKd : decide (K < 0) = false := decide_eq_false hK0
    rw [hK]
    clear how8 how9 hke9 hown08 hown18 hb8 hK hK0 bA8 bX8 kA8 kX8
    go_wp2_with fail
    refine (eqByteS_any _ _ T' T' _ _ _ (by omega) (by exact hB19) (by exact hB09)).mono ?_
    rintro e w10 ⟨rfl, n10, rfl⟩
    rw [decide_eq_true (rfl : T' = T')]
    -- marks in the answer
    go_wp2_with fail
    refine (markByteS_any _ T' W4.heap.size 1 _ (by omega) (by omega) (by exact hown19)).mono ?_
    rintro e w11 ⟨rfl, hown1b, hgr⟩
    have hke11 : Keeps _ w9 w11 := Keeps.of_grown (w := w9) ⟨hgr.os, hgr.tape, hgr.output, hgr.size, hgr.block⟩
    have hown0b := hown09.keeps hke11 (fun b hb hbf => by have := hr0 b hb; have := hr1 b hbf; omega)
    have bA11 := bA9.of_block (hke11.block _ bA9.lt (fun h => by have := hr1 _ h; omega))
    have hb11 := hb9.trans (hke11.below (B := w.heap.size) hb9.size (fun k hk => by have := hr1 k hk; omega))
    have kA11 : w11.cell? ⟨w.heap.size, 0, none⟩ = some (.slice A ls.length c) := by rw [bA11.cell]; rfl
    obtain ⟨A1', c1', e1, _, _, hB1b⟩ := hown1b.form
    rw [marks_length] at e1
    cases e1
    have hL11 := hL.below hb11
    clear hown09 hown19 hb9 hke11 hgr hB09 hB19 kA9 bA9
    go_wp2_with fail
    refine (heldByteS_any _ T'.length _ 1 _ (by omega) (by omega) (by exact hB1b)).mono ?_
    rintro e w12 ⟨rfl, rfl⟩
    -- once more
    go_wp2_with fail
    refine (toRope_any A ls c _ hl (by exact hL11)).mono ?_
    rintro e w13 ⟨v13, fp13, rfl, how13, _, _, hb13⟩
    have hB1c := hB1b.below hb13
    have hown0c := hown0b.below hb13
    have hb13 := below_then hb11 hb13
    obtain ⟨A13, c13, rfl, _, _, hD13⟩ := Lay.chunks_rd (Lay.chunks.read how13)
    have hT13 := hT.below hb13
    clear how13 hB1b hown0b hb11 hL11 kA11 bA11
    go_wp2_with fail
    refine (implRopeSlice_any A13 ls c13 i j _ hl2 (by exact hT13) (by exact hD13)).mono ?_
    rintro e w14 ⟨v14, rfl, hown14, hb14⟩
    rw [HTE.out] at hown14
    rw [HZE.out]
    have hB1d := hB1c.below hb14
    have hown0d := hown0c.below hb14
    have hb14 := below_then hb13 hb14
    obtain ⟨A0', c0', e0, _, _, hB0d⟩ := hown0d.form
    cases e0
    obtain ⟨A14, c14, rfl, _, _, hB14⟩ := hown14.form
    clear hown14 hown0c hB1c hb13 hD13 hown0d hT13
    go_wp2_with fail
    refine (eqByteS_any _ _ T' T' _ _ _ (by omega) (by exact hB14) (by exact hB0d)).mono ?_
    rintro e w15 ⟨rfl, n15, rfl⟩
    rw [decide_eq_true (rfl : T' = T')]
    go_wp2_with fail
    refine (heldByteS_any _ T'.length _ 1 _ (by omega) (by omega) (by exact hB1d)).mono ?_
    rintro e w16 ⟨rfl, rfl⟩
    go_wp2
    go_ret
    exact ⟨rfl, below_drewN hb14 n15⟩

end Go.Proofs.YtfgbipomdfceeaaDoor.fnExactRopeSlice
