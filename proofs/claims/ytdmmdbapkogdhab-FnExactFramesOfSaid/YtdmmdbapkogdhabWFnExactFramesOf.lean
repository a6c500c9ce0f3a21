/-
  FnExactFramesOf, its walk. Own work.
-/
import Derived.Test.YtdmmdbapkogdhabC12
import Derived.Test.YtdmmdbapkogdhabC05
import Derived.Test.YtdmmdbapkogdhabN16
import Derived.Deep.RegionHeld3
import Derived.Deep.DeepCutAuto
namespace Go.Proofs.Ytdmmdbapkogdhab.fnExactFramesOf
open Go.ChangeShapes Go.WideShapes Go.ChangeAt Go.RowKit P
set_option linter.unusedVariables false
set_option maxRecDepth 100000

theorem frOf_len (ls : List (List UInt8)) : (frOf ls).length ≤ 100200 := by
  unfold frOf
  split
  · rename_i h
    unfold frOk at h
    simp only [Bool.and_eq_true, decide_eq_true_eq, List.all_eq_true] at h
    have := frAll_len ls (fun t ht => h.2 t ht)
    omega
  · simp

set_option maxHeartbeats 4000000 in
theorem walk (A : Option Addr) (ls : List (List UInt8)) (c : Nat) (hc : ls.length ≤ c) (hm : c ≤ maxLen) (w : World) (hC : Cs w A ls) :
    Calls Try.prog 3 #[.slice A ls.length c] w fun e w' => e = .returned (.bool true) ∧ Below w.heap.size w w' := by
  have hn9 : ls.length ≤ 9223372036854775807 := by unfold maxLen at hm; omega
  clear hc hm
  go_enter Try.func3, Try.ntmps3
  go_wp2_with fail
  refine (szPieceS_any A ls c _ hn9 (by exact hC)).mono ?_
  rintro e w1 ⟨⟨r, rfl, hr⟩, hb1⟩
  by_cases hneg : r < 0
  · go_wp2
    go_ret
    exact ⟨rfl, hb1⟩
  · have hl : ls.length + tot ls ≤ 1048576 := by omega
    have hl2 : ls.length ≤ 1048576 := by omega
    have hl3 : ls.length + tot ls ≤ 1100000 := by omega
    clear hr
    -- the model's answer
    go_wp2_with fail
    refine (toPieceS_any A ls c _ hl (by exact hC.below hb1)).mono ?_
    rintro e w2 ⟨cs2, fp2, rfl, how2, _, _, hb2⟩
    have hb2 := below_then hb1 hb2
    obtain ⟨A2, c2, rfl, _, _, hD2⟩ := Lay.pieces.read how2
    unfold wSlice
    clear how2
    go_wp2_with fail
    refine (specFramesOf_any A2 ls c2 _ hl2 (by exact hD2)).mono ?_
    rintro e w3 ⟨v0, rfl, hown0, hb3⟩
    have hs2 := hb2.size
    have hown0 := hown0.mono (base' := w.heap.size) hs2
    have hb3 := below_then hb2 hb3
    have hlenT : (frOf ls).length ≤ 100200 := frOf_len ls
    obtain ⟨T', hTe⟩ : ∃ T', frOf ls = T' := ⟨_, rfl⟩
    rw [hTe] at hown0 hlenT
    have HTE := Lib.hid hTe
    have hr0 := hown0.range
    clear hTe hD2 hb1 hb2 hs2
    -- the copy of the argument, the program's answer
    go_wp2_with fail
    refine (toPieceS_any A ls c _ hl (by exact hC.below hb3)).mono ?_
    rintro e w4 ⟨cs4, fp4, rfl, how4, hn4, hf4, hb4⟩
    have hlt4 := Lay.pieces.lt how4
    have hown0 := hown0.below hb4
    have hs3 := hb3.size
    have hs34 := hb4.size
    have hb4 := below_then hb3 hb4
    obtain ⟨A4, c4, rfl, _, _, hD4⟩ := Lay.pieces.read how4
    unfold wSlice
    go_wp2_with fail
    refine (implFramesOf_any A4 ls c4 _ hl2 (by exact hD4)).mono ?_
    rintro e w5 ⟨v1, rfl, hown1, hb5⟩
    rw [HTE.out] at hown1
    have hown0 := hown0.below hb5
    have how5 := Lay.pieces.owBelow how4 hb5
    have hD5 := hD4.below hb5
    have hs45 := hb5.size
    have hb5 := below_then hb4 hb5
    have hr1 := hown1.range
    obtain ⟨A0, c0, rfl, _, _, hB0⟩ := hown0.form
    obtain ⟨A1, c1, rfl, _, _, hB1⟩ := hown1.form
    clear how4 hD4 hb3 hb4
    go_wp2_with fail
    refine (eqByteS_any _ _ T' T' _ _ _ (by omega) (by exact hB1) (by exact hB0)).mono ?_
    rintro e w6 ⟨rfl, n6, rfl⟩
    rw [decide_eq_true (rfl : T' = T')]
    -- the argument's copy is unchanged
    have hb6 := below_drewN hb5 n6
    go_wp2_with fail
    refine (toPieceS_any A ls c _ hl (by exact hC.below hb6)).mono ?_
    rintro e w7 ⟨cs7, fp7, rfl, how7, _, _, hb7⟩
    have hb57 : Below w5.heap.size w5 w7 := ⟨hb7.os, hb7.tape, hb7.output, hb7.size, hb7.block⟩
    have hD7 := hD5.below hb57
    obtain ⟨A7, c7, rfl, _, _, hE7⟩ := Lay.pieces.read how7
    unfold wSlice
    clear how7 hD5 hb7
    go_wp2_with fail
    refine (eqPieceS_any A4 A7 ls ls c4 c7 _ hn9 (by exact hD7) (by exact hE7)).mono ?_
    rintro e w8 ⟨rfl, hb8⟩
    rw [decide_eq_true (rfl : ls = ls)]
    have hb58 := below_then hb57 hb8
    have how8 := Lay.pieces.owBelow how5 hb58
    have hown08 := hown0.below hb58
    have hown18 := hown1.below hb58
    have hs58 := hb58.size
    have hb8 := below_then hb5 hb58
    clear hb57 hb58 how5 hown0 hown1 hD7 hE7 hb5 hb6 hB0 hB1
    -- marks in the argument's copy
    go_wp2_with fail
    refine (markPieceS_any _ ls fp4 1 _ (by omega) hl3 hn4 (by exact how8)).mono ?_
    rintro e w9 ⟨rfl, how9, hke9⟩
    have hown09 := hown08.keeps hke9 (fun b hb hbf => by have := hr0 b hb; have := hf4 b hbf; omega)
    have hown19 := hown18.keeps hke9 (fun b hb hbf => by have := hr1 b hb; have := hlt4 b hbf; omega)
    have hb9 := hb8.trans (hke9.below (B := w.heap.size) hb8.size (fun k hk => by have := hf4 k hk; omega))
    have hs89 := hke9.size
    obtain ⟨A0', c0', e0, _, _, hB09⟩ := hown09.form
    cases e0
    obtain ⟨A1', c1', e1, _, _, hB19⟩ := hown19.form
    cases e1
    obtain ⟨K, hK, hK0⟩ : ∃ K : Int, ((1 + tot ls : Nat) : Int) = K ∧ ¬ K < 0 := ⟨_, rfl, by omega⟩
    have hKd : decide (K < 0) = false := decide_eq_false hK0
    rw [hK]
    have HK := Lib.hid hK
    clear how8 how9 hke9 hown08 hown18 hb8 hK hK0
    go_wp2_with fail
    refine (eqByteS_any _ _ T' T' _ _ _ (by omega) (by exact hB19) (by exact hB09)).mono ?_
    rintro e w10 ⟨rfl, n10, rfl⟩
    rw [decide_eq_true (rfl : T' = T')]
    -- marks in the answer
    go_wp2_with fail
    refine (markByteS_any _ T' w4.heap.size 1 _ (by omega) (by omega) (by exact hown19)).mono ?_
    rintro e w11 ⟨rfl, hown1b, hgr⟩
    have hke11 : Keeps _ w9 w11 := Keeps.of_grown (w := w9) ⟨hgr.os, hgr.tape, hgr.output, hgr.size, hgr.block⟩
    have hown0b := hown09.keeps hke11 (fun b hb hbf => by have := hr0 b hb; have := hr1 b hbf; omega)
    have hb11 := hb9.trans (hke11.below (B := w.heap.size) hb9.size (fun k hk => by have := hr1 k hk; omega))
    have hs911 := hke11.size
    obtain ⟨A1', c1', e1, _, _, hB1b⟩ := hown1b.form
    rw [marks_length] at e1
    cases e1
    clear hown09 hown19 hb9 hke11 hgr hB09 hB19
    go_wp2_with fail
    refine (heldByteS_any _ T'.length _ 1 _ (by omega) (by omega) (by exact hB1b)).mono ?_
    rintro e w12 ⟨rfl, rfl⟩
    -- once more
    go_wp2_with fail
    refine (toPieceS_any A ls c _ hl (by exact hC.below hb11)).mono ?_
    rintro e w13 ⟨cs13, fp13, rfl, how13, _, _, hb13⟩
    have hB1c := hB1b.below hb13
    have hown0c := hown0b.below hb13
    have hb13 := below_then hb11 hb13
    obtain ⟨A13, c13, rfl, _, _, hD13⟩ := Lay.pieces.read how13
    unfold wSlice
    clear how13 hB1b hown0b hb11
    go_wp2_with fail
    refine (implFramesOf_any A13 ls c13 _ hl2 (by exact hD13)).mono ?_
    rintro e w14 ⟨v14, rfl, hown14, hb14⟩
    rw [HTE.out] at hown14
    have hB1d := hB1c.below hb14
    have hown0d := hown0c.below hb14
    have hb14 := below_then hb13 hb14
    obtain ⟨A0', c0', e0, _, _, hB0d⟩ := hown0d.form
    cases e0
    obtain ⟨A14, c14, rfl, _, _, hB14⟩ := hown14.form
    clear hown14 hown0c hB1c hb13 hD13 hown0d
    go_wp2_with fail
    refine (eqByteS_any _ _ T' T' _ _ _ (by omega) (by exact hB14) (by exact hB0d)).mono ?_
    rintro e w15 ⟨rfl, n15, rfl⟩
    rw [decide_eq_true (rfl : T' = T')]
    go_wp2_with fail
    refine (heldByteS_any _ T'.length _ 1 _ (by omega) (by omega) (by exact hB1d)).mono ?_
    rintro e w16 ⟨rfl, rfl⟩
    go_wp2
    go_ret
    exact ⟨rfl, below_drewN hb14 n15⟩

end Go.Proofs.Ytdmmdbapkogdhab.fnExactFramesOf
