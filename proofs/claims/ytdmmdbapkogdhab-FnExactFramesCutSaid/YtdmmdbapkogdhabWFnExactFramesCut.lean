/-
  FnExactFramesCut, its walk. Own work.
-/
import Derived.Test.YtdmmdbapkogdhabC12
import Derived.Test.YtdmmdbapkogdhabC05
import Derived.Test.YtdmmdbapkogdhabN17
import Derived.Deep.RegionHeld3
import Derived.Deep.DeepCutAuto
namespace Go.Proofs.Ytdmmdbapkogdhab.fnExactFramesCut
open Go.ChangeShapes Go.WideShapes Go.ChangeAt Go.RowKit P
set_option linter.unusedVariables false
set_option maxRecDepth 100000

theorem frCut_tot (f : Nat) (d : List UInt8) : (frCut f d).1.length + tot (frCut f d).1 ≤ 1001 * f := by
  induction f generalizing d with
  | zero => simp [frCut, tot]
  | succ f ih =>
    cases h : frHas d
    · rw [frCut_stop _ _ h]; simp [tot]
    · have h2 := frCut_small (f + 1) d
      rw [frCut_step _ _ h] at h2 ⊢
      have h3 := h2 _ List.mem_cons_self
      have h4 := ih (d.drop (2 + (wd d 0).toNat))
      simp only [tot, List.flatten_cons, List.length_append, List.length_cons] at h4 ⊢
      omega
theorem frCut_bd (l : List UInt8) : (frCut 100 l).1.length + tot (frCut 100 l).1 ≤ 100100 := frCut_tot 100 l

set_option maxHeartbeats 4000000 in
theorem walk (A : Option Addr) (l : List UInt8) (c : Nat) (hc : l.length ≤ c) (hm : c ≤ maxLen) (w : World) (hB : Bs w A l) :
    Calls Try.prog 4 #[.slice A l.length c] w fun e w' => e = .returned (.bool true) ∧ Below w.heap.size w w' := by
  by_cases hbig : 1048576 < (l.length : Int)
  · go_enter Try.func4, Try.ntmps4
    go_wp2
    go_ret
    exact ⟨rfl, Below.refl _ _⟩
  · have hl : l.length ≤ 1048576 := by omega
    have hbd := frCut_bd l
    obtain ⟨R, hR⟩ : ∃ R, (frCut 100 l).1 = R := ⟨_, rfl⟩
    obtain ⟨nn, hnn⟩ : ∃ n, (frCut 100 l).2 = n := ⟨_, rfl⟩
    have hne : ((nn : Int) != (nn : Int)) = false := by simp
    have HNN := Lib.hid hnn
    rw [hR] at hbd
    clear hnn
    have HR := Lib.hid hR
    have hR9 : R.length ≤ 9223372036854775807 := by omega
    have hR1 : R.length + tot R ≤ 1100000 := by omega
    clear hc hm hR
    go_enter Try.func4, Try.ntmps4
    go_wp2_with fail
    refine (toByteS_any A l c _ hl (by exact hB)).mono ?_
    rintro e w1 ⟨rfl, hrow1, hb1⟩
    go_wp2_with fail
    refine (specFramesCut_any _ l _ _ (by omega) (by omega) (fun h => by cases h) (fun a h => by cases h; exact ⟨_, _, rfl⟩) hl (by exact hrow1.bs)).mono ?_
    rintro e w2 ⟨A0, c0, fp0, rfl, how0, hn0, hf0, hb2⟩
    rw [HR.out, HNN.out]
    rw [HR.out] at how0
    have hs1 := hb1.size
    have hlt0 := Lay.pieces.lt how0
    have hb2 := below_then hb1 hb2
    have hs2 := hb2.size
    clear hrow1 hb1
    -- the copy of the argument, the program's answer
    go_wp2_with fail
    refine (toByteS_any A l c _ hl (by exact hB.below hb2)).mono ?_
    rintro e w3 ⟨rfl, hrow3, hb3⟩
    have hx3 := Row.own hrow3 w2.heap.size (Nat.le_refl _) (by unfold maxLen; omega)
    have how0 := Lay.pieces.owBelow how0 hb3
    have hs3 := hb3.size
    have hrx := hx3.range
    have hb3 := below_then hb2 hb3
    go_wp2_with fail
    refine (implFramesCut_any _ l _ _ (by omega) (by omega) (fun h => by cases h) (fun a h => by cases h; exact ⟨_, _, rfl⟩) hl (by exact hrow3.bs)).mono ?_
    rintro e w4 ⟨A1, c1, fp1, rfl, how1, hn1, hf1, hb4⟩
    rw [HR.out, HNN.out]
    rw [HR.out] at how1
    have hlt1 := Lay.pieces.lt how1
    have hx4 := hx3.below hb4
    have hxb4 := hrow3.bs.below hb4
    have how0 := Lay.pieces.owBelow how0 hb4
    have hs4 := hb4.size
    have hb4 := below_then hb3 hb4
    obtain ⟨_, _, e1, _, _, hD1⟩ := Lay.pieces.read how1
    cases e1
    obtain ⟨A0', c0', e0, _, _, hD0⟩ := Lay.pieces.read how0
    cases e0
    clear hrow3 hx3 hb2 hb3
    go_wp2_with fail
    refine (eqPieceS_any A1 A0 R R _ _ _ hR9 (by exact hD1) (by exact hD0)).mono ?_
    rintro e w5 ⟨rfl, hb5⟩
    rw [decide_eq_true (rfl : R = R)]
    have how0 := Lay.pieces.owBelow how0 hb5
    have how1 := Lay.pieces.owBelow how1 hb5
    have hx5 := hx4.below hb5
    have hxb5 := hxb4.below hb5
    have hs5 := hb5.size
    have hb5 := below_then hb4 hb5
    clear hx4 hxb4 hb4 hD0 hD1
    -- the argument's copy is unchanged
    go_wp2_with fail
    refine (toByteS_any A l c _ hl (by exact hB.below hb5)).mono ?_
    rintro e w6 ⟨rfl, hrow6, hb6⟩
    have how0 := Lay.pieces.owBelow how0 hb6
    have how1 := Lay.pieces.owBelow how1 hb6
    have hx6 := hx5.below hb6
    have hxb6 := hxb5.below hb6
    have hs6 := hb6.size
    have hb6 := below_then hb5 hb6
    clear hx5 hxb5 hb5
    go_wp2_with fail
    refine (eqByteS_any _ _ l l _ _ _ (by omega) (by exact hxb6) (by exact hrow6.bs)).mono ?_
    rintro e w7 ⟨rfl, n7, rfl⟩
    rw [decide_eq_true (rfl : l = l)]
    -- marks in the argument's copy
    go_wp2_with fail
    refine (markByteS_any _ l w2.heap.size 1 _ (by omega) (by omega) (by exact hx6)).mono ?_
    rintro e w8 ⟨rfl, _, hgr⟩
    have hke8 : Keeps _ w6 w8 := Keeps.of_grown (w := w6) ⟨hgr.os, hgr.tape, hgr.output, hgr.size, hgr.block⟩
    have how08 := Lay.pieces.keeps how0 hke8 (fun b hb hbf => by have := hlt0 b hb; have := hrx b hbf; omega)
    have how18 := Lay.pieces.keeps how1 hke8 (fun b hb hbf => by have := hf1 b hb; have := hrx b hbf; omega)
    have hb8 := hb6.trans (hke8.below (B := w.heap.size) hb6.size (fun k hk => by have := hrx k hk; omega))
    have hs8 := hke8.size
    obtain ⟨A0', c0', e0, _, _, hD0⟩ := Lay.pieces.read how08
    cases e0
    obtain ⟨A1', c1', e1, _, _, hD1⟩ := Lay.pieces.read how18
    cases e1
    obtain ⟨K, hK, hK0⟩ : ∃ K : Int, ((1 + l.length : Nat) : Int) = K ∧ ¬ K < 0 := ⟨_, rfl, by omega⟩
    have hKd : decide (K < 0) = false := decide_eq_false hK0
    rw [hK]
    clear how0 how1 hx6 hxb6 hrow6 hb6 hke8 hgr hK hK0
    go_wp2_with fail
    refine (eqPieceS_any A1 A0 R R _ _ _ hR9 (by exact hD1) (by exact hD0)).mono ?_
    rintro e w9 ⟨rfl, hb9⟩
    rw [decide_eq_true (rfl : R = R)]
    have how09 := Lay.pieces.owBelow how08 hb9
    have how19 := Lay.pieces.owBelow how18 hb9
    have hs9 := hb9.size
    have hb9 := below_then hb8 hb9
    clear how08 how18 hb8 hD0 hD1
    -- marks in the answer
    go_wp2_with fail
    refine (markPieceS_any _ R fp1 1 _ (by omega) hR1 hn1 (by exact how19)).mono ?_
    rintro e w10 ⟨rfl, how1b, hke10⟩
    have how0b := Lay.pieces.keeps how09 hke10 (fun b hb hbf => by have := hlt0 b hb; have := hf1 b hbf; omega)
    have hb10 := hb9.trans (hke10.below (B := w.heap.size) hb9.size (fun k hk => by have := hf1 k hk; omega))
    have hlenM : (marksC 1 R).length = R.length := marksC_length 1 R
    obtain ⟨A1', c1', e1, _, _, hM1⟩ := Lay.pieces.read how1b
    rw [hlenM] at e1
    cases e1
    clear how09 how19 hb9 hke10
    go_wp2_with fail
    refine (heldPieceS_any A1 R _ 1 _ (by omega) hR1 (by exact hM1)).mono ?_
    rintro e w11 ⟨rfl, rfl⟩
    -- once more
    go_wp2_with fail
    refine (toByteS_any A l c _ hl (by exact hB.below hb10)).mono ?_
    rintro e w12 ⟨rfl, hrow12, hb12⟩
    have hM12 := Cs.below hM1 hb12
    have how0c := Lay.pieces.owBelow how0b hb12
    have hb12 := below_then hb10 hb12
    clear hM1 how1b how0b hb10
    go_wp2_with fail
    refine (implFramesCut_any _ l _ _ (by omega) (by omega) (fun h => by cases h) (fun a h => by cases h; exact ⟨_, _, rfl⟩) hl (by exact hrow12.bs)).mono ?_
    rintro e w13 ⟨A13, c13, fp13, rfl, how13, _, _, hb13⟩
    rw [HR.out, HNN.out]
    rw [HR.out] at how13
    have hM13 := hM12.below hb13
    have how0d := Lay.pieces.owBelow how0c hb13
    have hb13 := below_then hb12 hb13
    obtain ⟨_, _, e13, _, _, hD13⟩ := Lay.pieces.read how13
    cases e13
    obtain ⟨A0', c0', e0, _, _, hD0⟩ := Lay.pieces.read how0d
    cases e0
    clear hrow12 hM12 how0c hb12 how13 how0d
    go_wp2_with fail
    refine (eqPieceS_any A13 A0 R R _ _ _ hR9 (by exact hD13) (by exact hD0)).mono ?_
    rintro e w14 ⟨rfl, hb14⟩
    rw [decide_eq_true (rfl : R = R)]
    have hM14 := hM13.below hb14
    have hb14 := below_then hb13 hb14
    go_wp2_with fail
    refine (heldPieceS_any A1 R _ 1 _ (by omega) hR1 (by exact hM14)).mono ?_
    rintro e w15 ⟨rfl, rfl⟩
    go_wp2
    go_ret
    exact ⟨rfl, hb14⟩

end Go.Proofs.Ytdmmdbapkogdhab.fnExactFramesCut
