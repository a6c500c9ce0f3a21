/-
  FnExactRopeOf, its walk. Own work.
-/
import Derived.Test.YtpipkmnmdipeeaaDoorLaw
import Derived.Test.YtpipkmnmdipeeaaDoorS04
import Derived.Test.YtpipkmnmdipeeaaDoorI04
import Derived.Test.YtpipkmnmdipeeaaDoorC04
namespace Go.Proofs.YtpipkmnmdipeeaaDoor.fnExactRopeOf
open Go.ChangeShapes Go.WideShapes Go.ChangeAt Go.RowKit P
set_option linter.unusedVariables false
set_option maxRecDepth 100000

theorem chunksOf_bd (l : List UInt8) : (chunksOf l).length + tot (chunksOf l) ≤ 800 := by
  have h1 := chunksOf_ok l
  have h2 := chunksOk_len h1
  have h3 := (chunksOk_all h1).2
  unfold tot
  omega

set_option maxHeartbeats 4000000 in
theorem walk (A : Option Addr) (l : List UInt8) (c : Nat) (hc : l.length ≤ c) (hm : c ≤ maxLen) (w : World) (hB : Bs w A l) (hT : Tab w) :
    Calls Tryd.prog 4 #[.slice A l.length c] w fun e w' => e = .returned (.bool true) ∧ Below w.heap.size w w' := by
  by_cases hbig : 1048576 < (l.length : Int)
  · go_enter Tryd.func4, Tryd.ntmps4
    go_wp2
    go_ret
    exact ⟨rfl, Below.refl _ _⟩
  · have hl : l.length ≤ 1048576 := by omega
    have hbd := chunksOf_bd l
    obtain ⟨R, hR⟩ : ∃ R, chunksOf l = R := ⟨_, rfl⟩
    rw [hR] at hbd
    have HR := Lib.hid hR
    obtain ⟨q, hq⟩ : ∃ q, isText l = q := ⟨_, rfl⟩
    have HQ := Lib.hid hq
    have hqq : (q != q) = false := by simp
    have hR9 : R.length ≤ 9223372036854775807 := by omega
    have hR1 : R.length + tot R ≤ 1100000 := by omega
    have hR2 : 1 + tot R ≤ 1900000 := by omega
    clear hc hm hR hq
    go_enter Tryd.func4, Tryd.ntmps4
    go_wp2_with fail
    refine (toByteS_any A l c _ hl (by exact hB)).mono ?_
    rintro e w1 ⟨rfl, hrow1, hb1⟩
    go_wp2_with fail
    refine (specRopeOf_any _ l _ _ (by omega) (by omega) (by exact hrow1.bs)).mono ?_
    rintro e w2 ⟨v0, fp0, rfl, how0, hn0, hf0, hb2⟩
    rw [HR.out] at how0
    rw [HQ.out]
    have hs1 := hb1.size
    obtain ⟨A0, c0, rfl, _, _, _⟩ := Lay.chunks_rd (Lay.chunks.read how0)
    have hal := (Below.refl w2.heap.size w2).alloc (Nat.le_refl _) (.cells #[.slice A0 R.length c0] 29)
    have b3 := Blk.new w2 #[.slice A0 R.length c0] 29
    have how0 := Lay.chunks.owBelow how0 hal
    have hb2 := below_then (below_then hb1 hb2) hal
    have hlt0 := Lay.chunks.lt how0
    have hs2 := hb2.size
    have hB2 := hB.below hb2
    clear hrow1 hb1 hal
    -- the copy of the argument, the program's answer
    go_wp2_with fail
    have hw2 : w2.heap.size < (w2.alloc (.cells #[.slice A0 R.length c0] 29)).heap.size := by simp
    generalize w2.alloc (.cells #[.slice A0 R.length c0] 29) = W2 at *
    refine (toByteS_any A l c _ hl (by exact hB2)).mono ?_
    rintro e w3 ⟨rfl, hrow3, hb3⟩
    have hx3 := Row.own hrow3 W2.heap.size (Nat.le_refl _) (by unfold maxLen; omega)
    have how0 := Lay.chunks.owBelow how0 hb3
    have b3 := b3.below hb3
    have hs3 := hb3.size
    have hrx := hx3.range
    have hb3 := below_then hb2 hb3
    have hT3 := hT.below hb3
    go_wp2_with fail
    refine (implRopeOf_any _ l _ _ (by omega) (by omega) (by exact hT3) (by exact hrow3.bs)).mono ?_
    rintro e w4 ⟨v1, fp1, rfl, how1, hn1, hf1, hb4⟩
    rw [HR.out] at how1
    rw [HQ.out]
    obtain ⟨A1, c1, rfl, _, _, _⟩ := Lay.chunks_rd (Lay.chunks.read how1)
    have hal := (Below.refl w4.heap.size w4).alloc (Nat.le_refl _) (.cells #[.slice A1 R.length c1] 29)
    have hlt1 := Lay.chunks.lt how1
    have hx4 := (hx3.below hb4).below hal
    have hxb4 := (hrow3.bs.below hb4).below hal
    have how0 := Lay.chunks.owBelow (Lay.chunks.owBelow how0 hb4) hal
    have how1 := Lay.chunks.owBelow how1 hal
    have b3 := (b3.below hb4).below hal
    have b6 := Blk.new w4 #[.slice A1 R.length c1] 29
    have hs4 := hb4.size
    have hb4 := below_then (below_then hb3 hb4) hal
    have hD0 := (Lay.chunks_rd (Lay.chunks.read how0))
    obtain ⟨A0', c0', e0, _, _, hD0⟩ := hD0
    cases e0
    obtain ⟨A1', c1', e1, _, _, hD1⟩ := Lay.chunks_rd (Lay.chunks.read how1)
    cases e1
    have k3 : (w4.alloc (.cells #[.slice A1 R.length c1] 29)).cell? ⟨w2.heap.size, 0, none⟩ = some (.slice A0 R.length c0) := by rw [b3.cell]; rfl
    have k6 : (w4.alloc (.cells #[.slice A1 R.length c1] 29)).cell? ⟨w4.heap.size, 0, none⟩ = some (.slice A1 R.length c1) := by rw [b6.cell]; rfl
    clear hrow3 hx3 hb2 hb3 hB2 hal hT3
    go_wp2_with fail
    have hw4 : (w4.alloc (.cells #[.slice A1 R.length c1] 29)).heap.size = w4.heap.size + 1 := by simp
    generalize w4.alloc (.cells #[.slice A1 R.length c1] 29) = W4 at *
    refine (eqRope_any A1 A0 R R _ _ _ hR9 (by exact hD1) (by exact hD0)).mono ?_
    rintro e w5 ⟨rfl, hb5⟩
    rw [decide_eq_true (rfl : R = R)]
    have how0 := Lay.chunks.owBelow how0 hb5
    have how1 := Lay.chunks.owBelow how1 hb5
    have hx5 := hx4.below hb5
    have hxb5 := hxb4.below hb5
    have b3 := b3.below hb5
    have b6 := b6.below hb5
    have hs5 := hb5.size
    have hb5 := below_then hb4 hb5
    have hB5 := hB.below hb5
    clear hx4 hxb4 hb4 hD0 hD1 k3 k6
    -- the argument's copy is unchanged
    go_wp2_with fail
    refine (toByteS_any A l c _ hl (by exact hB5)).mono ?_
    rintro e w6 ⟨rfl, hrow6, hb6⟩
    have how0 := Lay.chunks.owBelow how0 hb6
    have how1 := Lay.chunks.owBelow how1 hb6
    have hx6 := hx5.below hb6
    have hxb6 := hxb5.below hb6
    have b3 := b3.below hb6
    have b6 := b6.below hb6
    have hs6 := hb6.size
    have hb6 := below_then hb5 hb6
    clear hx5 hxb5 hb5 hB5
    go_wp2_with fail
    refine (eqByteS_any _ _ l l _ _ _ (by omega) (by exact hxb6) (by exact hrow6.bs)).mono ?_
    rintro e w7 ⟨rfl, n7, rfl⟩
    rw [decide_eq_true (rfl : l = l)]
    -- marks in the argument's copy
    go_wp2_with fail
    refine (markByteS_any _ l W2.heap.size 1 _ (by omega) (by omega) (by exact hx6)).mono ?_
    rintro e w8 ⟨rfl, _, hgr⟩
    have hke8 : Keeps _ w6 w8 := Keeps.of_grown (w := w6) ⟨hgr.os, hgr.tape, hgr.output, hgr.size, hgr.block⟩
    have how08 := Lay.chunks.keeps how0 hke8 (fun b hb hbf => by have := hlt0 b hb; have := hrx b hbf; omega)
    have how18 := Lay.chunks.keeps how1 hke8 (fun b hb hbf => by have := hf1 b hb; have := hrx b hbf; omega)
    have b38 := b3.of_block (hke8.block _ b3.lt (fun h => by have := hrx _ h; omega))
    have b68 := b6.of_block (hke8.block _ b6.lt (fun h => by have := hrx _ h; omega))
    have hb8 := hb6.trans (hke8.below (B := w.heap.size) hb6.size (fun k hk => by have := hrx k hk; omega))
    have hs8 := hke8.size
    obtain ⟨A0', c0', e0, _, _, hD0⟩ := Lay.chunks_rd (Lay.chunks.read how08)
    cases e0
    obtain ⟨A1', c1', e1, _, _, hD1⟩ := Lay.chunks_rd (Lay.chunks.read how18)
    cases e1
    have k3 : w8.cell? ⟨w2.heap.size, 0, none⟩ = some (.slice A0 R.length c0) := by rw [b38.cell]; rfl
    have k6 : w8.cell? ⟨w4.heap.size, 0, none⟩ = some (.slice A1 R.length c1) := by rw [b68.cell]; rfl
    obtain ⟨K, hK, hK0⟩ : ∃ K : Int, ((1 + l.length : Nat) : Int) = K ∧ ¬ K < 0 := ⟨_, rfl, by omega⟩
    have hKd : decide (K < 0) = false := decide_eq_false hK0
    rw [hK]
    clear how0 how1 hx6 hxb6 hrow6 hb6 hke8 hgr hK hK0 b3 b6
    go_wp2_with fail
    refine (eqRope_any A1 A0 R R _ _ _ hR9 (by exact hD1) (by exact hD0)).mono ?_
    rintro e w9 ⟨rfl, hb9⟩
    rw [decide_eq_true (rfl : R = R)]
    have how09 := Lay.chunks.owBelow how08 hb9
    have how19 := Lay.chunks.owBelow how18 hb9
    have b39 := b38.below hb9
    have b69 := b68.below hb9
    have hs9 := hb9.size
    have hb9 := below_then hb8 hb9
    have k6 : w9.cell? ⟨w4.heap.size, 0, none⟩ = some (.slice A1 R.length c1) := by rw [b69.cell]; rfl
    clear how08 how18 hb8 hD0 hD1 k3 b38 b68
    -- marks in the answer
    go_wp2_with fail
    refine (markRope_any _ R fp1 1 _ hR2 hR1 hn1 (by exact how19)).mono ?_
    rintro e w10 ⟨rfl, how1b, hke10⟩
    have how0b := Lay.chunks.keeps how09 hke10 (fun b hb hbf => by have := hlt0 b hb; have := hf1 b hbf; omega)
    have b310 := b39.of_block (hke10.block _ b39.lt (fun h => by have := hf1 _ h; omega))
    have b610 := b69.of_block (hke10.block _ b69.lt (fun h => by have := hlt1 _ h; omega))
    have hb10 := hb9.trans (hke10.below (B := w.heap.size) hb9.size (fun k hk => by have := hf1 k hk; omega))
    have hlenM : (marksC 1 R).length = R.length := marksC_length 1 R
    obtain ⟨A1', c1', e1, _, _, hM1⟩ := Lay.chunks_rd (Lay.chunks.read how1b)
    rw [hlenM] at e1
    cases e1
    have k6 : w10.cell? ⟨w4.heap.size, 0, none⟩ = some (.slice A1 R.length c1) := by rw [b610.cell]; rfl
    clear how09 how19 hb9 hke10 b39 b69
    go_wp2_with fail
    refine (heldRope_any A1 R _ 1 _ hR2 hR1 (by exact hM1)).mono ?_
    rintro e w11 ⟨rfl, hb11⟩
    have how0c := Lay.chunks.owBelow how0b hb11
    have hM11 := hM1.below hb11
    have b311 := b310.below hb11
    have b611 := b610.below hb11
    have hb11 := below_then hb10 hb11
    have hB11 := hB.below hb11
    clear k6 how0b hM1 b310 b610 hb10 how1b
    -- once more
    go_wp2_with fail
    refine (toByteS_any A l c _ hl (by exact hB11)).mono ?_
    rintro e w12 ⟨rfl, hrow12, hb12⟩
    have hM12 := Cs.below hM11 hb12
    have how0d := Lay.chunks.owBelow how0c hb12
    have b312 := b311.below hb12
    have b612 := b611.below hb12
    have hb12 := below_then hb11 hb12
    have hT12 := hT.below hb12
    clear hM11 how0c b311 b611 hb11 hB11
    go_wp2_with fail
    refine (implRopeOf_any _ l _ _ (by omega) (by omega) (by exact hT12) (by exact hrow12.bs)).mono ?_
    rintro e w13 ⟨v13, fp13, rfl, how13, _, _, hb13⟩
    rw [HR.out] at how13
    rw [HQ.out]
    obtain ⟨A13, c13, rfl, _, _, _⟩ := Lay.chunks_rd (Lay.chunks.read how13)
    have hal := (Below.refl w13.heap.size w13).alloc (Nat.le_refl _) (.cells #[.slice A13 R.length c13] 29)
    have how13 := Lay.chunks.owBelow how13 hal
    have hM13 := (hM12.below hb13).below hal
    have how0e := Lay.chunks.owBelow (Lay.chunks.owBelow how0d hb13) hal
    have b313 := (b312.below hb13).below hal
    have b613 := (b612.below hb13).below hal
    have b1113 := Blk.new w13 #[.slice A13 R.length c13] 29
    have hb13 := below_then (below_then hb12 hb13) hal
    obtain ⟨A13', c13', e13, _, _, hD13⟩ := Lay.chunks_rd (Lay.chunks.read how13)
    cases e13
    obtain ⟨A0', c0', e0, _, _, hD0⟩ := Lay.chunks_rd (Lay.chunks.read how0e)
    cases e0
    have k3 : (w13.alloc (.cells #[.slice A13 R.length c13] 29)).cell? ⟨w2.heap.size, 0, none⟩ = some (.slice A0 R.length c0) := by rw [b313.cell]; rfl
    have k11 : (w13.alloc (.cells #[.slice A13 R.length c13] 29)).cell? ⟨w13.heap.size, 0, none⟩ = some (.slice A13 R.length c13) := by rw [b1113.cell]; rfl
    clear hrow12 hM12 how0d hb12 how13 how0e b312 b612 hT12 hal b1113
    go_wp2_with fail
    generalize w13.alloc (.cells #[.slice A13 R.length c13] 29) = W13 at *
    refine (eqRope_any A13 A0 R R _ _ _ hR9 (by exact hD13) (by exact hD0)).mono ?_
    rintro e w14 ⟨rfl, hb14⟩
    rw [decide_eq_true (rfl : R = R)]
    have hM14 := hM13.below hb14
    have b614 := b613.below hb14
    have hb14 := below_then hb13 hb14
    have k6 : w14.cell? ⟨w4.heap.size, 0, none⟩ = some (.slice A1 R.length c1) := by rw [b614.cell]; rfl
    clear k3 k11 hM13 hb13 hD13 hD0 b313 b613
    go_wp2_with fail
    refine (heldRope_any A1 R _ 1 _ hR2 hR1 (by exact hM14)).mono ?_
    rintro e w15 ⟨rfl, hb15⟩
    have hb15 := below_then hb14 hb15
    go_wp2
    go_ret
    exact ⟨rfl, hb15⟩

end Go.Proofs.YtpipkmnmdipeeaaDoor.fnExactRopeOf
