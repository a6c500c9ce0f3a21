/-
  FnExactEditBack, its walk. Own work.
-/
import Derived.Test.YtkplfbhblbinaaaDoorLaw
import Derived.Test.YtkplfbhblbinaaaDoorC05
import Derived.Test.YtkplfbhblbinaaaDoorI08
import Derived.Deep.RegionHeld3
import Derived.Deep.DeepCutAuto
namespace Go.Proofs.YtkplfbhblbinaaaDoor.fnExactEditBack
open Go.ChangeShapes Go.WideShapes Go.ChangeAt Go.RowKit P
set_option linter.unusedVariables false
set_option maxRecDepth 100000

set_option maxHeartbeats 16000000 in
theorem walk (A0 : Option Addr) (l0 : List UInt8) (c0 : Nat) (hc0 : l0.length ≤ c0) (hm0 : c0 ≤ maxLen) (a1 m1 : Int) (ha1 : -9223372036854775808 ≤ a1 ∧ a1 ≤ 9223372036854775807) (hn1 : -9223372036854775808 ≤ m1 ∧ m1 ≤ 9223372036854775807) (A1 : Option Addr) (l1 : List UInt8) (c1 : Nat) (hc1 : l1.length ≤ c1) (hm1 : c1 ≤ maxLen) (w : World) (hL0 : Bs w A0 l0) (hL1 : Bs w A1 l1) (hT : Tab w) :
    Calls Tryd.prog 10 #[.slice A0 l0.length c0, .agg #[.int .i64 a1, .int .i64 m1, .slice A1 l1.length c1]] w fun e w' => e = .returned (.bool true) ∧ Below w.heap.size w w' := by
  have hn90 : l0.length ≤ 9223372036854775807 := by unfold maxLen at hm0; omega
  have hn91 : l1.length ≤ 9223372036854775807 := by unfold maxLen at hm1; omega
  clear hc0 hm0 hc1 hm1
  have BA1 := Blk.new w #[.int .i64 a1, .int .i64 m1, .slice A1 l1.length c1] 49
  have BA1 := Lib.hid BA1
  have hb0 := ((Below.refl w.heap.size w).alloc (Nat.le_refl _) (.cells #[.int .i64 a1, .int .i64 m1, .slice A1 l1.length c1] 49))
  obtain ⟨Ra, hRa⟩ : ∃ Ra, backA l0 a1 m1 l1 = Ra := ⟨_, rfl⟩
  have HRaE := Lib.hid hRa
  obtain ⟨Rm, hRm⟩ : ∃ Rm, backM l0 a1 m1 l1 = Rm := ⟨_, rfl⟩
  have HRmE := Lib.hid hRm
  obtain ⟨R, hR⟩ : ∃ R, backP l0 a1 m1 l1 = R := ⟨_, rfl⟩
  have HRE := Lib.hid hR
  have hRl : R.length ≤ 1000000 := by rw [← hR]; exact Nat.le_trans (backP_len l0 a1 m1 l1) (by decide)
  obtain ⟨z, hze⟩ : ∃ z, edOk l0 a1 m1 l1 = z := ⟨_, rfl⟩
  have HZE := Lib.hid hze
  have hzz : (z != z) = false := by simp
  clear hze hRa hRm hR
  by_cases hbig0 : 1048576 < (l0.length : Int)
  · go_enter Tryd.func10, Tryd.ntmps10
    go_wp2
    go_ret
    exact ⟨rfl, hb0⟩
  have hl0 : l0.length ≤ 1048576 := by omega
  clear hbig0
  go_enter Tryd.func10, Tryd.ntmps10
  go_wp2_with fail
  generalize w.alloc (.cells #[.int .i64 a1, .int .i64 m1, .slice A1 l1.length c1] 49) = W0 at *
  have HB := Lib.hid hb0
  clear hb0
  refine (szEdit_any a1 m1 A1 l1.length c1 1048576 _ hn91 (by omega) (by omega)).mono ?_
  rintro e s1 ⟨⟨r1, rfl, hr1⟩, hb1⟩
  have BA1 := Lib.hid (BA1.out.below hb1)
  have HB := Lib.hid (below_then HB.out hb1)
  clear hb1
  by_cases hneg1 : r1 < 0
  · go_wp2
    go_ret
    exact ⟨rfl, HB.out⟩
  have hl1 : l1.length ≤ 1048576 := by omega
  clear hr1
  have zA : w.heap.size + 0 < s1.heap.size := BA1.out.lt
  have mp1 : s1.cell? ⟨w.heap.size, 0, none⟩ = some (.int .i64 a1) := BA1.out.cell 0
  have mq1 : s1.cell? ⟨w.heap.size, 1, none⟩ = some (.int .i64 m1) := BA1.out.cell 1
  have mr1 : s1.cell? ⟨w.heap.size, 2, none⟩ = some (.slice A1 l1.length c1) := BA1.out.cell 2
  have mz1 := BA1.out.lt
  have mL0 := Lib.hid (hL0.below HB.out)
  have mL1 := Lib.hid (hL1.below HB.out)
  go_upto_region 7 with fail
  go_cut [6, 7] (fun p q wx => ∃ (b : Nat) (A5 : Option Addr) (c5 : Nat), p = .pointer (some ⟨b, 0, none⟩) ∧ q = .bool z ∧ Blk wx b #[.int .i64 Ra, .int .i64 Rm, .slice A5 R.length c5] 25 ∧ Own wx s1.heap.size (.slice A5 R.length c5) R ∧ s1.heap.size ≤ b ∧ Below s1.heap.size s1 wx)
  case first =>
    have mB1 := BA1
    have mKA0 : Hid (∀ o : Obj, ((s1.alloc o).cell? ⟨w.heap.size, 0, none⟩ = some (.int .i64 a1) ∧ (s1.alloc o).cell? ⟨w.heap.size, 1, none⟩ = some (.int .i64 m1) ∧ (s1.alloc o).cell? ⟨w.heap.size, 2, none⟩ = some (.slice A1 l1.length c1))) := Lib.hid (fun o => ⟨(mB1.out.alloc o).cell 0, (mB1.out.alloc o).cell 1, (mB1.out.alloc o).cell 2⟩)
    have mKD0 : Hid (∀ o : Obj, ((s1.drew.alloc o).cell? ⟨w.heap.size, 0, none⟩ = some (.int .i64 a1) ∧ (s1.drew.alloc o).cell? ⟨w.heap.size, 1, none⟩ = some (.int .i64 m1) ∧ (s1.drew.alloc o).cell? ⟨w.heap.size, 2, none⟩ = some (.slice A1 l1.length c1))) := Lib.hid (fun o => ⟨(mB1.out.below (bsk2 _ o)).cell 0, (mB1.out.below (bsk2 _ o)).cell 1, (mB1.out.below (bsk2 _ o)).cell 2⟩)
    have mKE0 : Hid (∀ o : Obj, (((s1.alloc o).drew).cell? ⟨w.heap.size, 0, none⟩ = some (.int .i64 a1) ∧ ((s1.alloc o).drew).cell? ⟨w.heap.size, 1, none⟩ = some (.int .i64 m1) ∧ ((s1.alloc o).drew).cell? ⟨w.heap.size, 2, none⟩ = some (.slice A1 l1.length c1))) := Lib.hid (fun o => ⟨(mB1.out.below (bsk3 _ o)).cell 0, (mB1.out.below (bsk3 _ o)).cell 1, (mB1.out.below (bsk3 _ o)).cell 2⟩)
    have mKR0 : Hid (∀ o : Obj, ((s1.drew).cell? ⟨w.heap.size, 0, none⟩ = some (.int .i64 a1) ∧ (s1.drew).cell? ⟨w.heap.size, 1, none⟩ = some (.int .i64 m1) ∧ (s1.drew).cell? ⟨w.heap.size, 2, none⟩ = some (.slice A1 l1.length c1))) := Lib.hid (fun o => ⟨(mB1.out.below (bsk4 _)).cell 0, (mB1.out.below (bsk4 _)).cell 1, (mB1.out.below (bsk4 _)).cell 2⟩)
    go_region_held3 (fun V => V.cell? ⟨w.heap.size, 0, none⟩ = some (.int .i64 a1) ∧ V.cell? ⟨w.heap.size, 1, none⟩ = some (.int .i64 m1) ∧ V.cell? ⟨w.heap.size, 2, none⟩ = some (.slice A1 l1.length c1)) (first | with_reducible exact ⟨mp1, mq1, mr1⟩ | with_reducible exact ⟨mp1_1, mq1_1, mr1_1⟩ | with_reducible exact ⟨mp1_2, mq1_2, mr1_2⟩ | with_reducible exact ⟨mp1_3, mq1_3, mr1_3⟩ | with_reducible exact mKA0.out _ | with_reducible exact mKD0.out _ | with_reducible exact mKE0.out _ | with_reducible exact mKR0.out (.cells #[] 0) | with_reducible exact mKA1.out _ | with_reducible exact mKA2.out _ | with_reducible exact mKA3.out _ | with_reducible exact mKS0.out _ _ _ | with_reducible exact mKS1.out _ _ _ | with_reducible exact mKS2.out _ _ _) (first
      | (go_at_call_of 39 (Value.slice A0 l0.length c0); refine (toByteS_e A0 l0 c0 _ hl0 (by first | with_reducible exact mL0.out | with_reducible exact mL0.out.below (bsk1 _ _) | with_reducible exact mL0.out.below (bsk2 _ _) | with_reducible exact mL0.out.below (bsk3 _ _) | with_reducible exact mL0.out.below (bsk4 _))).mono ?_; rintro e my1 ⟨mg0, rfl, hrow, hb⟩; have hb' : Below s1.heap.size s1 my1 := (by first | with_reducible exact hb | with_reducible exact below_skip hb | with_reducible exact below_skipd hb | with_reducible exact below_skipe hb | with_reducible exact below_undr hb); have mB1_1 := Lib.hid (mB1.out.below hb'); (try (have mQ0 : Hid (Blk my1 s1.heap.size #[.int .i64 0, .int .i64 0, .slice none 0 0] 25) := Lib.hid (by first | with_reducible exact blk_skip hb | with_reducible exact blk_skipd hb | with_reducible exact blk_skipe hb))); (try (have mzQ0 := mQ0.out.lt)); have hb := hb'; clear hb'; have mzS0 := hb.size; have mKA1 : Hid (∀ o, ((my1.alloc o).cell? ⟨w.heap.size, 0, none⟩ = some (.int .i64 a1) ∧ (my1.alloc o).cell? ⟨w.heap.size, 1, none⟩ = some (.int .i64 m1) ∧ (my1.alloc o).cell? ⟨w.heap.size, 2, none⟩ = some (.slice A1 l1.length c1))) := Lib.hid (fun o => ⟨(mB1_1.out.alloc o).cell 0, (mB1_1.out.alloc o).cell 1, (mB1_1.out.alloc o).cell 2⟩); have mp1_1 := (hb.cell (p := ⟨w.heap.size, 0, none⟩) mz1).trans mp1; have mq1_1 := (hb.cell (p := ⟨w.heap.size, 1, none⟩) mz1).trans mq1; have mr1_1 := (hb.cell (p := ⟨w.heap.size, 2, none⟩) mz1).trans mr1; have mz1_1 := Nat.lt_of_lt_of_le mz1 hb.size; have mL0 := Lib.hid (mL0.out.below hb); have mL1 := Lib.hid (mL1.out.below hb); have mX0 := Lib.hid hrow.bs; have mD0 := Lib.hid (Pl.some_ mg0 0 l0.length); have mHB1 := Lib.hid hb; clear hrow hb)
      | (go_at_call_of 40 (Value.agg #[Value.int IntKind.i64 a1, Value.int IntKind.i64 m1, Value.slice A1 l1.length c1]); refine (toEdit_any a1 m1 A1 l1 c1 _ hl1 (by first | with_reducible exact mL1.out | with_reducible exact mL1.out.below (bsk1 _ _) | with_reducible exact mL1.out.below (bsk2 _ _) | with_reducible exact mL1.out.below (bsk3 _ _) | with_reducible exact mL1.out.below (bsk4 _))).mono ?_; rintro e my2 ⟨v, rfl, hown, hb⟩; have hb' : Below my1.heap.size my1 my2 := (by first | with_reducible exact hb | with_reducible exact below_skip hb | with_reducible exact below_skipd hb | with_reducible exact below_skipe hb | with_reducible exact below_undr hb); have mB1_2 := Lib.hid (mB1_1.out.below hb'); (try (have mQ1 : Hid (Blk my2 my1.heap.size #[.int .i64 0, .int .i64 0, .slice none 0 0] 25) := Lib.hid (by first | with_reducible exact blk_skip hb | with_reducible exact blk_skipd hb | with_reducible exact blk_skipe hb))); (try (have mQ0 := Lib.hid (mQ0.out.below hb'))); (try (have mzQ1 := mQ1.out.lt)); have hb := hb'; clear hb'; have mzS1 := hb.size; have mKA2 : Hid (∀ o, ((my2.alloc o).cell? ⟨w.heap.size, 0, none⟩ = some (.int .i64 a1) ∧ (my2.alloc o).cell? ⟨w.heap.size, 1, none⟩ = some (.int .i64 m1) ∧ (my2.alloc o).cell? ⟨w.heap.size, 2, none⟩ = some (.slice A1 l1.length c1))) := Lib.hid (fun o => ⟨(mB1_2.out.alloc o).cell 0, (mB1_2.out.alloc o).cell 1, (mB1_2.out.alloc o).cell 2⟩); have mp1_2 := (hb.cell (p := ⟨w.heap.size, 0, none⟩) mz1_1).trans mp1_1; have mq1_2 := (hb.cell (p := ⟨w.heap.size, 1, none⟩) mz1_1).trans mq1_1; have mr1_2 := (hb.cell (p := ⟨w.heap.size, 2, none⟩) mz1_1).trans mr1_1; have mz1_2 := Nat.lt_of_lt_of_le mz1_1 hb.size; have mX0 := Lib.hid (mX0.out.below hb); have mL0 := Lib.hid (mL0.out.below hb); have mL1 := Lib.hid (mL1.out.below hb); obtain ⟨mA1, mc1, rfl, mhc1, mhk1, hB, hp1, hp2⟩ := own_plain9 hown; have mX1 := Lib.hid hB; have mD1 : Hid (Pl mA1 mc1) := Lib.hid (by unfold Pl; exact ⟨hp1, hp2⟩); have mHB2 := Lib.hid (below_then mHB1.out hb); clear hown hb hB hp1 hp2)
      | (go_at_call 14; refine (specEditBack_any _ l0 l0.length a1 m1 mA1 l1 mc1 _ (Nat.le_refl _) hn90 mhc1 mhk1 mD0.out (by first | with_reducible exact mX0.out | with_reducible exact mX0.out.below (bsk1 _ _) | with_reducible exact mX0.out.below (bsk2 _ _) | with_reducible exact mX0.out.below (bsk3 _ _) | with_reducible exact mX0.out.below (bsk4 _)) (by first | with_reducible exact mX1.out | with_reducible exact mX1.out.below (bsk1 _ _) | with_reducible exact mX1.out.below (bsk2 _ _) | with_reducible exact mX1.out.below (bsk3 _ _) | with_reducible exact mX1.out.below (bsk4 _))).mono ?_; rintro e my3 ⟨v, rfl, hown, hb⟩; rw [HRE.out] at hown; rw [HZE.out, HRaE.out, HRmE.out]; have hb' : Below my2.heap.size my2 my3 := (by first | with_reducible exact hb | with_reducible exact below_skip hb | with_reducible exact below_skipd hb | with_reducible exact below_skipe hb | with_reducible exact below_undr hb); have mB1_3 := Lib.hid (mB1_2.out.below hb'); (try (have mQ2 : Hid (Blk my3 my2.heap.size #[.int .i64 0, .int .i64 0, .slice none 0 0] 25) := Lib.hid (by first | with_reducible exact blk_skip hb | with_reducible exact blk_skipd hb | with_reducible exact blk_skipe hb))); (try (have mQ0 := Lib.hid (mQ0.out.below hb'))); (try (have mQ1 := Lib.hid (mQ1.out.below hb'))); (try (have mzQ2 := mQ2.out.lt)); (try (have u0 := mQ0.out.cell 0; have u1 := mQ0.out.cell 1; have u2 := mQ0.out.cell 2; have v0 := mQ0.out.frozen 0; have v1 := mQ0.out.frozen 1; have v2 := mQ0.out.frozen 2)); (try (have u0 := mQ1.out.cell 0; have u1 := mQ1.out.cell 1; have u2 := mQ1.out.cell 2; have v0 := mQ1.out.frozen 0; have v1 := mQ1.out.frozen 1; have v2 := mQ1.out.frozen 2)); (try (have u0 := mQ2.out.cell 0; have u1 := mQ2.out.cell 1; have u2 := mQ2.out.cell 2; have v0 := mQ2.out.frozen 0; have v1 := mQ2.out.frozen 1; have v2 := mQ2.out.frozen 2)); have hb := hb'; clear hb'; have mzS2 := hb.size; have mKA3 : Hid (∀ o, ((my3.alloc o).cell? ⟨w.heap.size, 0, none⟩ = some (.int .i64 a1) ∧ (my3.alloc o).cell? ⟨w.heap.size, 1, none⟩ = some (.int .i64 m1) ∧ (my3.alloc o).cell? ⟨w.heap.size, 2, none⟩ = some (.slice A1 l1.length c1))) := Lib.hid (fun o => ⟨(mB1_3.out.alloc o).cell 0, (mB1_3.out.alloc o).cell 1, (mB1_3.out.alloc o).cell 2⟩); have mKS0 : Hid (∀ x y z, ((((my3.setCell ⟨s1.heap.size, 0, none⟩ x).setCell ⟨s1.heap.size, 1, none⟩ y).setCell ⟨s1.heap.size, 2, none⟩ z).cell? ⟨w.heap.size, 0, none⟩ = some (.int .i64 a1) ∧ (((my3.setCell ⟨s1.heap.size, 0, none⟩ x).setCell ⟨s1.heap.size, 1, none⟩ y).setCell ⟨s1.heap.size, 2, none⟩ z).cell? ⟨w.heap.size, 1, none⟩ = some (.int .i64 m1) ∧ (((my3.setCell ⟨s1.heap.size, 0, none⟩ x).setCell ⟨s1.heap.size, 1, none⟩ y).setCell ⟨s1.heap.size, 2, none⟩ z).cell? ⟨w.heap.size, 2, none⟩ = some (.slice A1 l1.length c1))) := Lib.hid (fun x y z => ⟨(((mB1_3.out.setFar9 (by omega) 0 x).setFar9 (by omega) 1 y).setFar9 (by omega) 2 z).cell 0, (((mB1_3.out.setFar9 (by omega) 0 x).setFar9 (by omega) 1 y).setFar9 (by omega) 2 z).cell 1, (((mB1_3.out.setFar9 (by omega) 0 x).setFar9 (by omega) 1 y).setFar9 (by omega) 2 z).cell 2⟩); have mKS1 : Hid (∀ x y z, ((((my3.setCell ⟨my1.heap.size, 0, none⟩ x).setCell ⟨my1.heap.size, 1, none⟩ y).setCell ⟨my1.heap.size, 2, none⟩ z).cell? ⟨w.heap.size, 0, none⟩ = some (.int .i64 a1) ∧ (((my3.setCell ⟨my1.heap.size, 0, none⟩ x).setCell ⟨my1.heap.size, 1, none⟩ y).setCell ⟨my1.heap.size, 2, none⟩ z).cell? ⟨w.heap.size, 1, none⟩ = some (.int .i64 m1) ∧ (((my3.setCell ⟨my1.heap.size, 0, none⟩ x).setCell ⟨my1.heap.size, 1, none⟩ y).setCell ⟨my1.heap.size, 2, none⟩ z).cell? ⟨w.heap.size, 2, none⟩ = some (.slice A1 l1.length c1))) := Lib.hid (fun x y z => ⟨(((mB1_3.out.setFar9 (by omega) 0 x).setFar9 (by omega) 1 y).setFar9 (by omega) 2 z).cell 0, (((mB1_3.out.setFar9 (by omega) 0 x).setFar9 (by omega) 1 y).setFar9 (by omega) 2 z).cell 1, (((mB1_3.out.setFar9 (by omega) 0 x).setFar9 (by omega) 1 y).setFar9 (by omega) 2 z).cell 2⟩); have mKS2 : Hid (∀ x y z, ((((my3.setCell ⟨my2.heap.size, 0, none⟩ x).setCell ⟨my2.heap.size, 1, none⟩ y).setCell ⟨my2.heap.size, 2, none⟩ z).cell? ⟨w.heap.size, 0, none⟩ = some (.int .i64 a1) ∧ (((my3.setCell ⟨my2.heap.size, 0, none⟩ x).setCell ⟨my2.heap.size, 1, none⟩ y).setCell ⟨my2.heap.size, 2, none⟩ z).cell? ⟨w.heap.size, 1, none⟩ = some (.int .i64 m1) ∧ (((my3.setCell ⟨my2.heap.size, 0, none⟩ x).setCell ⟨my2.heap.size, 1, none⟩ y).setCell ⟨my2.heap.size, 2, none⟩ z).cell? ⟨w.heap.size, 2, none⟩ = some (.slice A1 l1.length c1))) := Lib.hid (fun x y z => ⟨(((mB1_3.out.setFar9 (by omega) 0 x).setFar9 (by omega) 1 y).setFar9 (by omega) 2 z).cell 0, (((mB1_3.out.setFar9 (by omega) 0 x).setFar9 (by omega) 1 y).setFar9 (by omega) 2 z).cell 1, (((mB1_3.out.setFar9 (by omega) 0 x).setFar9 (by omega) 1 y).setFar9 (by omega) 2 z).cell 2⟩); have mp1_3 := (hb.cell (p := ⟨w.heap.size, 0, none⟩) mz1_2).trans mp1_2; have mq1_3 := (hb.cell (p := ⟨w.heap.size, 1, none⟩) mz1_2).trans mq1_2; have mr1_3 := (hb.cell (p := ⟨w.heap.size, 2, none⟩) mz1_2).trans mr1_2; have mz1_3 := Nat.lt_of_lt_of_le mz1_2 hb.size; have mHB3 := Lib.hid (below_then mHB2.out hb); obtain ⟨oA, oc, rfl, ohc, ohk, _⟩ := hown.form; have oO := Lib.hid hown; clear hown hb))
    all_goals
      go_wp2_with fail
      go_meet
      first
        | exact ⟨s1.heap.size, oA, oc, rfl, rfl, by simpa using (((mQ0.out.set 0 (.int .i64 Ra)).set 1 (.int .i64 Rm)).set 2 (.slice oA R.length oc)), (((oO.out.setBelow (a := ⟨s1.heap.size, 0, none⟩) (by first | omega | (simp; done) | (simp; omega)) (.int .i64 Ra)).setBelow (a := ⟨s1.heap.size, 1, none⟩) (by first | omega | (simp; done) | (simp; omega)) (.int .i64 Rm)).setBelow (a := ⟨s1.heap.size, 2, none⟩) (by first | omega | (simp; done) | (simp; omega)) (.slice oA R.length oc)).mono (by first | omega | (simp; omega)), by omega, (((mHB3.out.setCell (p := ⟨s1.heap.size, 0, none⟩) (by first | omega | (simp; done) | (simp; omega)) _).setCell (p := ⟨s1.heap.size, 1, none⟩) (by first | omega | (simp; done) | (simp; omega)) _).setCell (p := ⟨s1.heap.size, 2, none⟩) (by first | omega | (simp; done) | (simp; omega)) _)⟩
        | exact ⟨my1.heap.size, oA, oc, rfl, rfl, by simpa using (((mQ1.out.set 0 (.int .i64 Ra)).set 1 (.int .i64 Rm)).set 2 (.slice oA R.length oc)), (((oO.out.setBelow (a := ⟨my1.heap.size, 0, none⟩) (by first | omega | (simp; done) | (simp; omega)) (.int .i64 Ra)).setBelow (a := ⟨my1.heap.size, 1, none⟩) (by first | omega | (simp; done) | (simp; omega)) (.int .i64 Rm)).setBelow (a := ⟨my1.heap.size, 2, none⟩) (by first | omega | (simp; done) | (simp; omega)) (.slice oA R.length oc)).mono (by first | omega | (simp; omega)), by omega, (((mHB3.out.setCell (p := ⟨my1.heap.size, 0, none⟩) (by first | omega | (simp; done) | (simp; omega)) _).setCell (p := ⟨my1.heap.size, 1, none⟩) (by first | omega | (simp; done) | (simp; omega)) _).setCell (p := ⟨my1.heap.size, 2, none⟩) (by first | omega | (simp; done) | (simp; omega)) _)⟩
        | exact ⟨my2.heap.size, oA, oc, rfl, rfl, by simpa using (((mQ2.out.set 0 (.int .i64 Ra)).set 1 (.int .i64 Rm)).set 2 (.slice oA R.length oc)), (((oO.out.setBelow (a := ⟨my2.heap.size, 0, none⟩) (by first | omega | (simp; done) | (simp; omega)) (.int .i64 Ra)).setBelow (a := ⟨my2.heap.size, 1, none⟩) (by first | omega | (simp; done) | (simp; omega)) (.int .i64 Rm)).setBelow (a := ⟨my2.heap.size, 2, none⟩) (by first | omega | (simp; done) | (simp; omega)) (.slice oA R.length oc)).mono (by first | omega | (simp; omega)), by omega, (((mHB3.out.setCell (p := ⟨my2.heap.size, 0, none⟩) (by first | omega | (simp; done) | (simp; omega)) _).setCell (p := ⟨my2.heap.size, 1, none⟩) (by first | omega | (simp; done) | (simp; omega)) _).setCell (p := ⟨my2.heap.size, 2, none⟩) (by first | omega | (simp; done) | (simp; omega)) _)⟩
        | exact ⟨my3.heap.size, oA, oc, rfl, rfl, Blk.new _ _ _, (oO.out.below ((Below.refl _ _).alloc (Nat.le_refl _) _)).mono (by first | omega | (simp; omega)), by omega, mHB3.out.alloc (by omega) _⟩
  case rest =>
    obtain ⟨ob, oA, oc, rfl, rfl, hOB, hO, ozb, hb⟩ := hcut
    have BA1 := Lib.hid (BA1.out.below hb)
    have HB := Lib.hid (below_then HB.out hb)
    have oO := Lib.hid hO
    have OB := Lib.hid hOB
    have zob := hOB.lt
    have zw : s1.heap.size ≤ wc.heap.size := hb.size
    have RW := Lib.hid hO.range
    clear hOB hO hb
    clear mp1 mq1 mr1 mz1 mL0 mL1
    have HL0 := Lib.hid (hL0.below HB.out)
    go_wp2_with fail
    refine (toByteS_any A0 l0 c0 _ hl0 (by exact HL0.out)).mono ?_
    rintro e x0 ⟨rfl, hrow, hb⟩
    have hx0 := hrow.own wc.heap.size (Nat.le_refl _) (by unfold maxLen; omega)
    have z0 := hb.size
    have BA1 := Lib.hid (BA1.out.below hb)
    have oO := Lib.hid (oO.out.below hb)
    have OB := Lib.hid (OB.out.below hb)
    have HB := Lib.hid (below_then HB.out hb)
    have X0 := Lib.hid hx0
    have RX0 := Lib.hid hx0.range
    have DX0 := Pl.some_ wc.heap.size 0 l0.length
    clear hrow hb hx0 HL0
    have q10 := BA1.out.cell 0
    have q11 := BA1.out.cell 1
    have q12 := BA1.out.cell 2
    have HL1 := Lib.hid (hL1.below HB.out)
    go_wp2_with fail
    refine (toEdit_any a1 m1 A1 l1 c1 _ hl1 (by exact HL1.out)).mono ?_
    rintro e x1 ⟨v, rfl, hown, hb⟩
    obtain ⟨xA1, xc1, rfl, xh1, xk1, _, xp1, xq1⟩ := own_plain9 hown
    have hal := (Below.refl x1.heap.size x1).alloc (Nat.le_refl _) (.cells #[.int .i64 a1, .int .i64 m1, .slice xA1 l1.length xc1] 25)
    have z1 := hb.size
    have RX1 := Lib.hid hown.range
    have hb2 := below_then hb hal
    have BA1 := Lib.hid (BA1.out.below hb2)
    have oO := Lib.hid (oO.out.below hb2)
    have OB := Lib.hid (OB.out.below hb2)
    have X0 := Lib.hid (X0.out.below hb2)
    have HB := Lib.hid (below_then HB.out hb2)
    have X1 := Lib.hid (hown.below hal)
    have XB1 := Lib.hid (Blk.new x1 #[.int .i64 a1, .int .i64 m1, .slice xA1 l1.length xc1] 25)
    have zz1 := World.size_alloc x1 (.cells #[.int .i64 a1, .int .i64 m1, .slice xA1 l1.length xc1] 25)
    clear hown hb hb2 hal HL1 q10 q11 q12
    go_wp2_with fail
    generalize x1.alloc (.cells #[.int .i64 a1, .int .i64 m1, .slice xA1 l1.length xc1] 25) = xw1 at *
    have pT := Lib.hid (hT.below HB.out)
    have q10 := XB1.out.cell 0
    have q11 := XB1.out.cell 1
    have q12 := XB1.out.cell 2
    have pX0 := Lib.hid (own_bs9 X0.out)
    have pX1 := Lib.hid (own_bs9 X1.out)
    go_wp2_with fail
    refine (implEditBack_any _ l0 l0.length a1 m1 xA1 l1 xc1 _ (Nat.le_refl _) hn90 xh1 xk1 hn1.2 DX0 (by exact pT.out) (by exact pX0.out) (by exact pX1.out)).mono ?_
    rintro e g ⟨v, rfl, hown, hb⟩
    rw [HRE.out] at hown
    rw [HZE.out, HRaE.out, HRmE.out]
    obtain ⟨gA, gc, rfl, _, _, _⟩ := hown.form
    have zg := hb.size
    have RG := Lib.hid hown.range
    have hal := (Below.refl g.heap.size g).alloc (Nat.le_refl _) (.cells #[.int .i64 Ra, .int .i64 Rm, .slice gA R.length gc] 25)
    have hb2 := below_then hb hal
    have BA1 := Lib.hid (BA1.out.below hb2)
    have oO := Lib.hid (oO.out.below hb2)
    have OB := Lib.hid (OB.out.below hb2)
    have X0 := Lib.hid (X0.out.below hb2)
    have X1 := Lib.hid (X1.out.below hb2)
    have XB1 := Lib.hid (XB1.out.below hb2)
    have HB := Lib.hid (below_then HB.out hb2)
    have G := Lib.hid (hown.below hal)
    have GB := Lib.hid (Blk.new g #[.int .i64 Ra, .int .i64 Rm, .slice gA R.length gc] 25)
    have zzg := World.size_alloc g (.cells #[.int .i64 Ra, .int .i64 Rm, .slice gA R.length gc] 25)
    clear hown hal hb2
    clear hb pT q10 q11 q12 pX0 pX1
    have q0 := GB.out.cell 0
    have q3 := OB.out.cell 0
    have q1 := GB.out.cell 1
    have q4 := OB.out.cell 1
    have q2 := GB.out.cell 2
    have q5 := OB.out.cell 2
    go_wp2_with fail
    generalize g.alloc (.cells #[.int .i64 Ra, .int .i64 Rm, .slice gA R.length gc] 25) = gw at *
    have E1 := Lib.hid (own_bs9 G.out)
    have E2 := Lib.hid (own_bs9 oO.out)
    refine (eqEdit_any Ra Rm Ra Rm gA oA R R gc oc _ (by omega) (by exact E1.out) (by exact E2.out)).mono ?_
    rintro e h1 ⟨rfl, hb⟩
    rw [decide_eq_true (⟨rfl, rfl, rfl⟩ : Ra = Ra ∧ Rm = Rm ∧ R = R)]
    clear E1 E2 q0 q1 q2 q3 q4 q5
    have BA1 := Lib.hid (BA1.out.below hb)
    have oO := Lib.hid (oO.out.below hb)
    have OB := Lib.hid (OB.out.below hb)
    have X0 := Lib.hid (X0.out.below hb)
    have X1 := Lib.hid (X1.out.below hb)
    have XB1 := Lib.hid (XB1.out.below hb)
    have G := Lib.hid (G.out.below hb)
    have GB := Lib.hid (GB.out.below hb)
    have HB := Lib.hid (below_then HB.out hb)
    clear hb
    have HL0 := Lib.hid (hL0.below HB.out)
    go_wp2_with fail
    refine (toByteS_any A0 l0 c0 _ hl0 (by exact HL0.out)).mono ?_
    rintro e u0 ⟨rfl, hrow, hb⟩
    have BA1 := Lib.hid (BA1.out.below hb)
    have oO := Lib.hid (oO.out.below hb)
    have OB := Lib.hid (OB.out.below hb)
    have X0 := Lib.hid (X0.out.below hb)
    have X1 := Lib.hid (X1.out.below hb)
    have XB1 := Lib.hid (XB1.out.below hb)
    have G := Lib.hid (G.out.below hb)
    have GB := Lib.hid (GB.out.below hb)
    have HB := Lib.hid (below_then HB.out hb)
    have HU := Lib.hid hrow.bs
    have HV := Lib.hid (own_bs9 X0.out)
    clear hrow hb HL0
    go_wp2_with fail
    refine (eqByteS_any _ _ l0 l0 _ _ _ hn90 (by exact HV.out) (by exact HU.out)).mono ?_
    rintro e v0 ⟨rfl, nn, rfl⟩
    rw [decide_eq_true (rfl : l0 = l0)]
    have hb := below_drewN (Below.refl u0.heap.size u0) nn
    clear HU HV
    have BA1 := Lib.hid (BA1.out.below hb)
    have oO := Lib.hid (oO.out.below hb)
    have OB := Lib.hid (OB.out.below hb)
    have X0 := Lib.hid (X0.out.below hb)
    have X1 := Lib.hid (X1.out.below hb)
    have XB1 := Lib.hid (XB1.out.below hb)
    have G := Lib.hid (G.out.below hb)
    have GB := Lib.hid (GB.out.below hb)
    have HB := Lib.hid (below_then HB.out hb)
    generalize u0.drewN nn = v0 at *
    clear hb
    have Ka0 := BA1.out.cell 0
    have Kb0 := BA1.out.cell 1
    have Kc0 := BA1.out.cell 2
    have Kd0 := XB1.out.cell 0
    have Ke0 := XB1.out.cell 1
    have Kf0 := XB1.out.cell 2
    have sA := BA1.out.lt
    have sX := XB1.out.lt
    have HL1 := Lib.hid (hL1.below HB.out)
    have HV := Lib.hid (own_bs9 X1.out)
    go_wp2_with fail
    go_region_held3 (fun V => V.cell? ⟨w.heap.size, 0, none⟩ = some (.int .i64 a1) ∧ V.cell? ⟨w.heap.size, 1, none⟩ = some (.int .i64 m1) ∧ V.cell? ⟨w.heap.size, 2, none⟩ = some (.slice A1 l1.length c1) ∧ V.cell? ⟨x1.heap.size, 0, none⟩ = some (.int .i64 a1) ∧ V.cell? ⟨x1.heap.size, 1, none⟩ = some (.int .i64 m1) ∧ V.cell? ⟨x1.heap.size, 2, none⟩ = some (.slice xA1 l1.length xc1)) (exact ⟨(by first | exact Ka0 | exact Ka1 | exact Ka2), (by first | exact Kb0 | exact Kb1 | exact Kb2), (by first | exact Kc0 | exact Kc1 | exact Kc2), (by first | exact Kd0 | exact Kd1 | exact Kd2), (by first | exact Ke0 | exact Ke1 | exact Ke2), (by first | exact Kf0 | exact Kf1 | exact Kf2)⟩) (first
      | (go_at_call 40; refine (toEdit_any a1 m1 A1 l1 c1 _ hl1 (by exact HL1.out)).mono ?_; rintro e u1 ⟨v, rfl, hown, hb⟩; have hb : Below v0.heap.size v0 u1 := ⟨hb.os, hb.tape, hb.output, hb.size, hb.block⟩; obtain ⟨uA, uc, rfl, _, _, hB⟩ := hown.form; have Ka1 := (hb.cell (p := ⟨w.heap.size, 0, none⟩) sA).trans Ka0; have Kb1 := (hb.cell (p := ⟨w.heap.size, 1, none⟩) sA).trans Kb0; have Kc1 := (hb.cell (p := ⟨w.heap.size, 2, none⟩) sA).trans Kc0; have Kd1 := (hb.cell (p := ⟨x1.heap.size, 0, none⟩) sX).trans Kd0; have Ke1 := (hb.cell (p := ⟨x1.heap.size, 1, none⟩) sX).trans Ke0; have Kf1 := (hb.cell (p := ⟨x1.heap.size, 2, none⟩) sX).trans Kf0; have sA1 := Nat.lt_of_lt_of_le sA hb.size; have sX1 := Nat.lt_of_lt_of_le sX hb.size; have HU := Lib.hid hB; have HV1 := Lib.hid (HV.out.below hb); have HB1 := Lib.hid hb; clear hown hb hB)
      | (go_at_call 42; refine (eqEdit_any a1 m1 a1 m1 xA1 uA l1 l1 xc1 uc _ hn91 (by exact HV1.out) (by exact HU.out)).mono ?_; rintro e v1 ⟨rfl, hb⟩; have hb : Below u1.heap.size u1 v1 := ⟨hb.os, hb.tape, hb.output, hb.size, hb.block⟩; rw [decide_eq_true (⟨rfl, rfl, rfl⟩ : a1 = a1 ∧ m1 = m1 ∧ l1 = l1)]; have Ka2 := (hb.cell (p := ⟨w.heap.size, 0, none⟩) sA1).trans Ka1; have Kb2 := (hb.cell (p := ⟨w.heap.size, 1, none⟩) sA1).trans Kb1; have Kc2 := (hb.cell (p := ⟨w.heap.size, 2, none⟩) sA1).trans Kc1; have Kd2 := (hb.cell (p := ⟨x1.heap.size, 0, none⟩) sX1).trans Kd1; have Ke2 := (hb.cell (p := ⟨x1.heap.size, 1, none⟩) sX1).trans Ke1; have Kf2 := (hb.cell (p := ⟨x1.heap.size, 2, none⟩) sX1).trans Kf1; have HB2 := Lib.hid (below_then HB1.out hb); clear hb))
    have hb := HB2.out
    have BA1 := Lib.hid (BA1.out.below hb)
    have oO := Lib.hid (oO.out.below hb)
    have OB := Lib.hid (OB.out.below hb)
    have X0 := Lib.hid (X0.out.below hb)
    have X1 := Lib.hid (X1.out.below hb)
    have XB1 := Lib.hid (XB1.out.below hb)
    have G := Lib.hid (G.out.below hb)
    have GB := Lib.hid (GB.out.below hb)
    have HB := Lib.hid (below_then HB.out hb)
    clear hb HB2 HB1 HV1 HU HV HL1 Ka0 Ka1 Ka2 Kb0 Kb1 Kb2 Kc0 Kc1 Kc2 Kd0 Kd1 Kd2 Ke0 Ke1 Ke2 Kf0 Kf1 Kf2 sA sX sA1 sX1
    go_wp2_with fail
    refine (markByteS_any _ l0 _ (1) _ (by omega) (by omega) (by exact X0.out)).mono ?_
    rintro e k0 ⟨rfl, _, hgr⟩
    have hke := Keeps.of_grown hgr
    have BA1 := Lib.hid (BA1.out.of_block (hke.block _ BA1.out.lt (fun h => by have h1 := RX0.out _ h; omega)))
    have oO := Lib.hid (oO.out.keeps hke (fun b hb h => by have h1 := RX0.out b h; have h2 := RW.out b hb; omega))
    have OB := Lib.hid (OB.out.of_block (hke.block _ OB.out.lt (fun h => by have h1 := RX0.out _ h; omega)))
    have X1 := Lib.hid (X1.out.keeps hke (fun b hb h => by have h1 := RX0.out b h; have h2 := RX1.out b hb; omega))
    have XB1 := Lib.hid (XB1.out.of_block (hke.block _ XB1.out.lt (fun h => by have h1 := RX0.out _ h; omega)))
    have G := Lib.hid (G.out.keeps hke (fun b hb h => by have h1 := RX0.out b h; have h2 := RG.out b hb; omega))
    have GB := Lib.hid (GB.out.of_block (hke.block _ GB.out.lt (fun h => by have h1 := RX0.out _ h; omega)))
    have HB := Lib.hid (HB.out.trans (hke.below (B := w.heap.size) HB.out.size (fun k hk => by have h1 := RX0.out k hk; omega)))
    have zk0 := hke.size
    clear hke hgr X0
    have q0 := XB1.out.cell 0
    have q1 := XB1.out.cell 1
    have q2 := XB1.out.cell 2
    go_wp2_with fail
    refine (markEdit_any a1 m1 _ l1 _ (1 + l0.length) _ (by omega) (by omega) (by exact X1.out)).mono ?_
    rintro e k1 ⟨rfl, _, hke⟩
    have BA1 := Lib.hid (BA1.out.of_block (hke.block _ BA1.out.lt (fun h => by have h1 := RX1.out _ h; omega)))
    have oO := Lib.hid (oO.out.keeps hke (fun b hb h => by have h1 := RX1.out b h; have h2 := RW.out b hb; omega))
    have OB := Lib.hid (OB.out.of_block (hke.block _ OB.out.lt (fun h => by have h1 := RX1.out _ h; omega)))
    have G := Lib.hid (G.out.keeps hke (fun b hb h => by have h1 := RX1.out b h; have h2 := RG.out b hb; omega))
    have GB := Lib.hid (GB.out.of_block (hke.block _ GB.out.lt (fun h => by have h1 := RX1.out _ h; omega)))
    have HB := Lib.hid (HB.out.trans (hke.below (B := w.heap.size) HB.out.size (fun k hk => by have h1 := RX1.out k hk; omega)))
    have zk1 := hke.size
    clear hke X1 XB1 q0 q1 q2
    obtain ⟨K, hK, hK0⟩ : ∃ K : Int, ((1 + l0.length + l1.length : Nat) : Int) = K ∧ ¬ K < 0 := ⟨_, rfl, by omega⟩
    have hKd : decide (K < 0) = false := decide_eq_false hK0
    rw [hK]
    clear hK hK0
    have q0 := GB.out.cell 0
    have q1 := GB.out.cell 1
    have q2 := GB.out.cell 2
    have q3 := OB.out.cell 0
    have q4 := OB.out.cell 1
    have q5 := OB.out.cell 2
    have E1 := Lib.hid (own_bs9 G.out)
    have E2 := Lib.hid (own_bs9 oO.out)
    go_wp2_with fail
    refine (eqEdit_any Ra Rm Ra Rm gA oA R R gc oc _ (by omega) (by exact E1.out) (by exact E2.out)).mono ?_
    rintro e h2 ⟨rfl, hb⟩
    rw [decide_eq_true (⟨rfl, rfl, rfl⟩ : Ra = Ra ∧ Rm = Rm ∧ R = R)]
    clear E1 E2 q0 q1 q2 q3 q4 q5
    have BA1 := Lib.hid (BA1.out.below hb)
    have oO := Lib.hid (oO.out.below hb)
    have OB := Lib.hid (OB.out.below hb)
    have G := Lib.hid (G.out.below hb)
    have GB := Lib.hid (GB.out.below hb)
    have HB := Lib.hid (below_then HB.out hb)
    clear hb
    clear hKd
    have q0 := GB.out.cell 0
    have q1 := GB.out.cell 1
    have q2 := GB.out.cell 2
    go_wp2_with fail
    refine (markEdit_any Ra Rm _ R _ 1 _ (by omega) (by omega) (by exact G.out)).mono ?_
    rintro e kg ⟨rfl, hG, hke⟩
    have BA1 := Lib.hid (BA1.out.of_block (hke.block _ BA1.out.lt (fun h => by have h1 := RG.out _ h; omega)))
    have oO := Lib.hid (oO.out.keeps hke (fun b hb h => by have h1 := RG.out b h; have h2 := RW.out b hb; omega))
    have OB := Lib.hid (OB.out.of_block (hke.block _ OB.out.lt (fun h => by have h1 := RG.out _ h; omega)))
    have GB := Lib.hid (GB.out.of_block (hke.block _ GB.out.lt (fun h => by have h1 := RG.out _ h; omega)))
    have HB := Lib.hid (HB.out.trans (hke.below (B := w.heap.size) HB.out.size (fun k hk => by have h1 := RG.out k hk; omega)))
    have zkg := hke.size
    have hM := own_bs9 hG
    have HM := Lib.hid hM
    clear hM hG hke q0 q1 q2 G
    have q0 := GB.out.cell 0
    have q1 := GB.out.cell 1
    have q2 := GB.out.cell 2
    go_wp2_with fail
    refine (heldEdit_any Ra Rm gA R.length gc 1 _ (by omega) (by omega) (by exact HM.out)).mono ?_
    rintro e h3 ⟨rfl, hb⟩
    have BA1 := Lib.hid (BA1.out.below hb)
    have oO := Lib.hid (oO.out.below hb)
    have OB := Lib.hid (OB.out.below hb)
    have GB := Lib.hid (GB.out.below hb)
    have HM := Lib.hid (HM.out.below hb)
    have HB := Lib.hid (below_then HB.out hb)
    clear hb q0 q1 q2
    have np1 : h3.cell? ⟨w.heap.size, 0, none⟩ = some (.int .i64 a1) := BA1.out.cell 0
    have nq1 : h3.cell? ⟨w.heap.size, 1, none⟩ = some (.int .i64 m1) := BA1.out.cell 1
    have nr1 : h3.cell? ⟨w.heap.size, 2, none⟩ = some (.slice A1 l1.length c1) := BA1.out.cell 2
    have nz1 := BA1.out.lt
    have nL0 := Lib.hid (hL0.below HB.out)
    have nL1 := Lib.hid (hL1.below HB.out)
    have nT := Lib.hid (hT.below HB.out)
    go_upto_region 30 with fail
    go_cut [15, 16] (fun p q wx => ∃ (b : Nat) (A5 : Option Addr) (c5 : Nat), p = .pointer (some ⟨b, 0, none⟩) ∧ q = .bool z ∧ Blk wx b #[.int .i64 Ra, .int .i64 Rm, .slice A5 R.length c5] 25 ∧ Own wx h3.heap.size (.slice A5 R.length c5) R ∧ h3.heap.size ≤ b ∧ Below h3.heap.size h3 wx)
    case first =>
      have nB1 := BA1
      have nKA0 : Hid (∀ o : Obj, ((h3.alloc o).cell? ⟨w.heap.size, 0, none⟩ = some (.int .i64 a1) ∧ (h3.alloc o).cell? ⟨w.heap.size, 1, none⟩ = some (.int .i64 m1) ∧ (h3.alloc o).cell? ⟨w.heap.size, 2, none⟩ = some (.slice A1 l1.length c1))) := Lib.hid (fun o => ⟨(nB1.out.alloc o).cell 0, (nB1.out.alloc o).cell 1, (nB1.out.alloc o).cell 2⟩)
      have nKD0 : Hid (∀ o : Obj, ((h3.drew.alloc o).cell? ⟨w.heap.size, 0, none⟩ = some (.int .i64 a1) ∧ (h3.drew.alloc o).cell? ⟨w.heap.size, 1, none⟩ = some (.int .i64 m1) ∧ (h3.drew.alloc o).cell? ⟨w.heap.size, 2, none⟩ = some (.slice A1 l1.length c1))) := Lib.hid (fun o => ⟨(nB1.out.below (bsk2 _ o)).cell 0, (nB1.out.below (bsk2 _ o)).cell 1, (nB1.out.below (bsk2 _ o)).cell 2⟩)
      have nKE0 : Hid (∀ o : Obj, (((h3.alloc o).drew).cell? ⟨w.heap.size, 0, none⟩ = some (.int .i64 a1) ∧ ((h3.alloc o).drew).cell? ⟨w.heap.size, 1, none⟩ = some (.int .i64 m1) ∧ ((h3.alloc o).drew).cell? ⟨w.heap.size, 2, none⟩ = some (.slice A1 l1.length c1))) := Lib.hid (fun o => ⟨(nB1.out.below (bsk3 _ o)).cell 0, (nB1.out.below (bsk3 _ o)).cell 1, (nB1.out.below (bsk3 _ o)).cell 2⟩)
      have nKR0 : Hid (∀ o : Obj, ((h3.drew).cell? ⟨w.heap.size, 0, none⟩ = some (.int .i64 a1) ∧ (h3.drew).cell? ⟨w.heap.size, 1, none⟩ = some (.int .i64 m1) ∧ (h3.drew).cell? ⟨w.heap.size, 2, none⟩ = some (.slice A1 l1.length c1))) := Lib.hid (fun o => ⟨(nB1.out.below (bsk4 _)).cell 0, (nB1.out.below (bsk4 _)).cell 1, (nB1.out.below (bsk4 _)).cell 2⟩)
      go_region_held3 (fun V => V.cell? ⟨w.heap.size, 0, none⟩ = some (.int .i64 a1) ∧ V.cell? ⟨w.heap.size, 1, none⟩ = some (.int .i64 m1) ∧ V.cell? ⟨w.heap.size, 2, none⟩ = some (.slice A1 l1.length c1)) (first | with_reducible exact ⟨np1, nq1, nr1⟩ | with_reducible exact ⟨np1_1, nq1_1, nr1_1⟩ | with_reducible exact ⟨np1_2, nq1_2, nr1_2⟩ | with_reducible exact ⟨np1_3, nq1_3, nr1_3⟩ | with_reducible exact nKA0.out _ | with_reducible exact nKD0.out _ | with_reducible exact nKE0.out _ | with_reducible exact nKR0.out (.cells #[] 0) | with_reducible exact nKA1.out _ | with_reducible exact nKA2.out _ | with_reducible exact nKA3.out _ | with_reducible exact nKS0.out _ _ _ | with_reducible exact nKS1.out _ _ _ | with_reducible exact nKS2.out _ _ _) (first
        | (go_at_call_of 39 (Value.slice A0 l0.length c0); refine (toByteS_e A0 l0 c0 _ hl0 (by first | with_reducible exact nL0.out | with_reducible exact nL0.out.below (bsk1 _ _) | with_reducible exact nL0.out.below (bsk2 _ _) | with_reducible exact nL0.out.below (bsk3 _ _) | with_reducible exact nL0.out.below (bsk4 _))).mono ?_; rintro e ny1 ⟨ng0, rfl, hrow, hb⟩; have hb' : Below h3.heap.size h3 ny1 := (by first | with_reducible exact hb | with_reducible exact below_skip hb | with_reducible exact below_skipd hb | with_reducible exact below_skipe hb | with_reducible exact below_undr hb); have nB1_1 := Lib.hid (nB1.out.below hb'); (try (have nQ0 : Hid (Blk ny1 h3.heap.size #[.int .i64 0, .int .i64 0, .slice none 0 0] 25) := Lib.hid (by first | with_reducible exact blk_skip hb | with_reducible exact blk_skipd hb | with_reducible exact blk_skipe hb))); (try (have nzQ0 := nQ0.out.lt)); have hb := hb'; clear hb'; have nzS0 := hb.size; have nKA1 : Hid (∀ o, ((ny1.alloc o).cell? ⟨w.heap.size, 0, none⟩ = some (.int .i64 a1) ∧ (ny1.alloc o).cell? ⟨w.heap.size, 1, none⟩ = some (.int .i64 m1) ∧ (ny1.alloc o).cell? ⟨w.heap.size, 2, none⟩ = some (.slice A1 l1.length c1))) := Lib.hid (fun o => ⟨(nB1_1.out.alloc o).cell 0, (nB1_1.out.alloc o).cell 1, (nB1_1.out.alloc o).cell 2⟩); have np1_1 := (hb.cell (p := ⟨w.heap.size, 0, none⟩) nz1).trans np1; have nq1_1 := (hb.cell (p := ⟨w.heap.size, 1, none⟩) nz1).trans nq1; have nr1_1 := (hb.cell (p := ⟨w.heap.size, 2, none⟩) nz1).trans nr1; have nz1_1 := Nat.lt_of_lt_of_le nz1 hb.size; have nL0 := Lib.hid (nL0.out.below hb); have nL1 := Lib.hid (nL1.out.below hb); have nT := Lib.hid (nT.out.below hb); have nX0 := Lib.hid hrow.bs; have nD0 := Lib.hid (Pl.some_ ng0 0 l0.length); have nHB1 := Lib.hid hb; clear hrow hb)
        | (go_at_call_of 40 (Value.agg #[Value.int IntKind.i64 a1, Value.int IntKind.i64 m1, Value.slice A1 l1.length c1]); refine (toEdit_any a1 m1 A1 l1 c1 _ hl1 (by first | with_reducible exact nL1.out | with_reducible exact nL1.out.below (bsk1 _ _) | with_reducible exact nL1.out.below (bsk2 _ _) | with_reducible exact nL1.out.below (bsk3 _ _) | with_reducible exact nL1.out.below (bsk4 _))).mono ?_; rintro e ny2 ⟨v, rfl, hown, hb⟩; have hb' : Below ny1.heap.size ny1 ny2 := (by first | with_reducible exact hb | with_reducible exact below_skip hb | with_reducible exact below_skipd hb | with_reducible exact below_skipe hb | with_reducible exact below_undr hb); have nB1_2 := Lib.hid (nB1_1.out.below hb'); (try (have nQ1 : Hid (Blk ny2 ny1.heap.size #[.int .i64 0, .int .i64 0, .slice none 0 0] 25) := Lib.hid (by first | with_reducible exact blk_skip hb | with_reducible exact blk_skipd hb | with_reducible exact blk_skipe hb))); (try (have nQ0 := Lib.hid (nQ0.out.below hb'))); (try (have nzQ1 := nQ1.out.lt)); have hb := hb'; clear hb'; have nzS1 := hb.size; have nKA2 : Hid (∀ o, ((ny2.alloc o).cell? ⟨w.heap.size, 0, none⟩ = some (.int .i64 a1) ∧ (ny2.alloc o).cell? ⟨w.heap.size, 1, none⟩ = some (.int .i64 m1) ∧ (ny2.alloc o).cell? ⟨w.heap.size, 2, none⟩ = some (.slice A1 l1.length c1))) := Lib.hid (fun o => ⟨(nB1_2.out.alloc o).cell 0, (nB1_2.out.alloc o).cell 1, (nB1_2.out.alloc o).cell 2⟩); have np1_2 := (hb.cell (p := ⟨w.heap.size, 0, none⟩) nz1_1).trans np1_1; have nq1_2 := (hb.cell (p := ⟨w.heap.size, 1, none⟩) nz1_1).trans nq1_1; have nr1_2 := (hb.cell (p := ⟨w.heap.size, 2, none⟩) nz1_1).trans nr1_1; have nz1_2 := Nat.lt_of_lt_of_le nz1_1 hb.size; have nX0 := Lib.hid (nX0.out.below hb); have nL0 := Lib.hid (nL0.out.below hb); have nL1 := Lib.hid (nL1.out.below hb); have nT := Lib.hid (nT.out.below hb); obtain ⟨nA1, nc1, rfl, nhc1, nhk1, hB, hp1, hp2⟩ := own_plain9 hown; have nX1 := Lib.hid hB; have nD1 : Hid (Pl nA1 nc1) := Lib.hid (by unfold Pl; exact ⟨hp1, hp2⟩); have nHB2 := Lib.hid (below_then nHB1.out hb); clear hown hb hB hp1 hp2)
        | (go_at_call 15; refine (implEditBack_any _ l0 l0.length a1 m1 nA1 l1 nc1 _ (Nat.le_refl _) hn90 nhc1 nhk1 hn1.2 nD0.out (by first | with_reducible exact nT.out | with_reducible exact nT.out.below (bsk1 _ _) | with_reducible exact nT.out.below (bsk2 _ _) | with_reducible exact nT.out.below (bsk3 _ _) | with_reducible exact nT.out.below (bsk4 _)) (by first | with_reducible exact nX0.out | with_reducible exact nX0.out.below (bsk1 _ _) | with_reducible exact nX0.out.below (bsk2 _ _) | with_reducible exact nX0.out.below (bsk3 _ _) | with_reducible exact nX0.out.below (bsk4 _)) (by first | with_reducible exact nX1.out | with_reducible exact nX1.out.below (bsk1 _ _) | with_reducible exact nX1.out.below (bsk2 _ _) | with_reducible exact nX1.out.below (bsk3 _ _) | with_reducible exact nX1.out.below (bsk4 _))).mono ?_; rintro e ny3 ⟨v, rfl, hown, hb⟩; rw [HRE.out] at hown; rw [HZE.out, HRaE.out, HRmE.out]; have hb' : Below ny2.heap.size ny2 ny3 := (by first | with_reducible exact hb | with_reducible exact below_skip hb | with_reducible exact below_skipd hb | with_reducible exact below_skipe hb | with_reducible exact below_undr hb); have nB1_3 := Lib.hid (nB1_2.out.below hb'); (try (have nQ2 : Hid (Blk ny3 ny2.heap.size #[.int .i64 0, .int .i64 0, .slice none 0 0] 25) := Lib.hid (by first | with_reducible exact blk_skip hb | with_reducible exact blk_skipd hb | with_reducible exact blk_skipe hb))); (try (have nQ0 := Lib.hid (nQ0.out.below hb'))); (try (have nQ1 := Lib.hid (nQ1.out.below hb'))); (try (have nzQ2 := nQ2.out.lt)); (try (have u0 := nQ0.out.cell 0; have u1 := nQ0.out.cell 1; have u2 := nQ0.out.cell 2; have v0 := nQ0.out.frozen 0; have v1 := nQ0.out.frozen 1; have v2 := nQ0.out.frozen 2)); (try (have u0 := nQ1.out.cell 0; have u1 := nQ1.out.cell 1; have u2 := nQ1.out.cell 2; have v0 := nQ1.out.frozen 0; have v1 := nQ1.out.frozen 1; have v2 := nQ1.out.frozen 2)); (try (have u0 := nQ2.out.cell 0; have u1 := nQ2.out.cell 1; have u2 := nQ2.out.cell 2; have v0 := nQ2.out.frozen 0; have v1 := nQ2.out.frozen 1; have v2 := nQ2.out.frozen 2)); have hb := hb'; clear hb'; have nzS2 := hb.size; have nKA3 : Hid (∀ o, ((ny3.alloc o).cell? ⟨w.heap.size, 0, none⟩ = some (.int .i64 a1) ∧ (ny3.alloc o).cell? ⟨w.heap.size, 1, none⟩ = some (.int .i64 m1) ∧ (ny3.alloc o).cell? ⟨w.heap.size, 2, none⟩ = some (.slice A1 l1.length c1))) := Lib.hid (fun o => ⟨(nB1_3.out.alloc o).cell 0, (nB1_3.out.alloc o).cell 1, (nB1_3.out.alloc o).cell 2⟩); have nKS0 : Hid (∀ x y z, ((((ny3.setCell ⟨h3.heap.size, 0, none⟩ x).setCell ⟨h3.heap.size, 1, none⟩ y).setCell ⟨h3.heap.size, 2, none⟩ z).cell? ⟨w.heap.size, 0, none⟩ = some (.int .i64 a1) ∧ (((ny3.setCell ⟨h3.heap.size, 0, none⟩ x).setCell ⟨h3.heap.size, 1, none⟩ y).setCell ⟨h3.heap.size, 2, none⟩ z).cell? ⟨w.heap.size, 1, none⟩ = some (.int .i64 m1) ∧ (((ny3.setCell ⟨h3.heap.size, 0, none⟩ x).setCell ⟨h3.heap.size, 1, none⟩ y).setCell ⟨h3.heap.size, 2, none⟩ z).cell? ⟨w.heap.size, 2, none⟩ = some (.slice A1 l1.length c1))) := Lib.hid (fun x y z => ⟨(((nB1_3.out.setFar9 (by omega) 0 x).setFar9 (by omega) 1 y).setFar9 (by omega) 2 z).cell 0, (((nB1_3.out.setFar9 (by omega) 0 x).setFar9 (by omega) 1 y).setFar9 (by omega) 2 z).cell 1, (((nB1_3.out.setFar9 (by omega) 0 x).setFar9 (by omega) 1 y).setFar9 (by omega) 2 z).cell 2⟩); have nKS1 : Hid (∀ x y z, ((((ny3.setCell ⟨ny1.heap.size, 0, none⟩ x).setCell ⟨ny1.heap.size, 1, none⟩ y).setCell ⟨ny1.heap.size, 2, none⟩ z).cell? ⟨w.heap.size, 0, none⟩ = some (.int .i64 a1) ∧ (((ny3.setCell ⟨ny1.heap.size, 0, none⟩ x).setCell ⟨ny1.heap.size, 1, none⟩ y).setCell ⟨ny1.heap.size, 2, none⟩ z).cell? ⟨w.heap.size, 1, none⟩ = some (.int .i64 m1) ∧ (((ny3.setCell ⟨ny1.heap.size, 0, none⟩ x).setCell ⟨ny1.heap.size, 1, none⟩ y).setCell ⟨ny1.heap.size, 2, none⟩ z).cell? ⟨w.heap.size, 2, none⟩ = some (.slice A1 l1.length c1))) := Lib.hid (fun x y z => ⟨(((nB1_3.out.setFar9 (by omega) 0 x).setFar9 (by omega) 1 y).setFar9 (by omega) 2 z).cell 0, (((nB1_3.out.setFar9 (by omega) 0 x).setFar9 (by omega) 1 y).setFar9 (by omega) 2 z).cell 1, (((nB1_3.out.setFar9 (by omega) 0 x).setFar9 (by omega) 1 y).setFar9 (by omega) 2 z).cell 2⟩); have nKS2 : Hid (∀ x y z, ((((ny3.setCell ⟨ny2.heap.size, 0, none⟩ x).setCell ⟨ny2.heap.size, 1, none⟩ y).setCell ⟨ny2.heap.size, 2, none⟩ z).cell? ⟨w.heap.size, 0, none⟩ = some (.int .i64 a1) ∧ (((ny3.setCell ⟨ny2.heap.size, 0, none⟩ x).setCell ⟨ny2.heap.size, 1, none⟩ y).setCell ⟨ny2.heap.size, 2, none⟩ z).cell? ⟨w.heap.size, 1, none⟩ = some (.int .i64 m1) ∧ (((ny3.setCell ⟨ny2.heap.size, 0, none⟩ x).setCell ⟨ny2.heap.size, 1, none⟩ y).setCell ⟨ny2.heap.size, 2, none⟩ z).cell? ⟨w.heap.size, 2, none⟩ = some (.slice A1 l1.length c1))) := Lib.hid (fun x y z => ⟨(((nB1_3.out.setFar9 (by omega) 0 x).setFar9 (by omega) 1 y).setFar9 (by omega) 2 z).cell 0, (((nB1_3.out.setFar9 (by omega) 0 x).setFar9 (by omega) 1 y).setFar9 (by omega) 2 z).cell 1, (((nB1_3.out.setFar9 (by omega) 0 x).setFar9 (by omega) 1 y).setFar9 (by omega) 2 z).cell 2⟩); have np1_3 := (hb.cell (p := ⟨w.heap.size, 0, none⟩) nz1_2).trans np1_2; have nq1_3 := (hb.cell (p := ⟨w.heap.size, 1, none⟩) nz1_2).trans nq1_2; have nr1_3 := (hb.cell (p := ⟨w.heap.size, 2, none⟩) nz1_2).trans nr1_2; have nz1_3 := Nat.lt_of_lt_of_le nz1_2 hb.size; have nHB3 := Lib.hid (below_then nHB2.out hb); obtain ⟨tA, tc, rfl, thc, thk, _⟩ := hown.form; have tO := Lib.hid hown; clear hown hb))
      all_goals
        go_wp2_with fail
        go_meet
        first
          | exact ⟨h3.heap.size, tA, tc, rfl, rfl, by simpa using (((nQ0.out.set 0 (.int .i64 Ra)).set 1 (.int .i64 Rm)).set 2 (.slice tA R.length tc)), (((tO.out.setBelow (a := ⟨h3.heap.size, 0, none⟩) (by first | omega | (simp; done) | (simp; omega)) (.int .i64 Ra)).setBelow (a := ⟨h3.heap.size, 1, none⟩) (by first | omega | (simp; done) | (simp; omega)) (.int .i64 Rm)).setBelow (a := ⟨h3.heap.size, 2, none⟩) (by first | omega | (simp; done) | (simp; omega)) (.slice tA R.length tc)).mono (by first | omega | (simp; omega)), by omega, (((nHB3.out.setCell (p := ⟨h3.heap.size, 0, none⟩) (by first | omega | (simp; done) | (simp; omega)) _).setCell (p := ⟨h3.heap.size, 1, none⟩) (by first | omega | (simp; done) | (simp; omega)) _).setCell (p := ⟨h3.heap.size, 2, none⟩) (by first | omega | (simp; done) | (simp; omega)) _)⟩
          | exact ⟨ny1.heap.size, tA, tc, rfl, rfl, by simpa using (((nQ1.out.set 0 (.int .i64 Ra)).set 1 (.int .i64 Rm)).set 2 (.slice tA R.length tc)), (((tO.out.setBelow (a := ⟨ny1.heap.size, 0, none⟩) (by first | omega | (simp; done) | (simp; omega)) (.int .i64 Ra)).setBelow (a := ⟨ny1.heap.size, 1, none⟩) (by first | omega | (simp; done) | (simp; omega)) (.int .i64 Rm)).setBelow (a := ⟨ny1.heap.size, 2, none⟩) (by first | omega | (simp; done) | (simp; omega)) (.slice tA R.length tc)).mono (by first | omega | (simp; omega)), by omega, (((nHB3.out.setCell (p := ⟨ny1.heap.size, 0, none⟩) (by first | omega | (simp; done) | (simp; omega)) _).setCell (p := ⟨ny1.heap.size, 1, none⟩) (by first | omega | (simp; done) | (simp; omega)) _).setCell (p := ⟨ny1.heap.size, 2, none⟩) (by first | omega | (simp; done) | (simp; omega)) _)⟩
          | exact ⟨ny2.heap.size, tA, tc, rfl, rfl, by simpa using (((nQ2.out.set 0 (.int .i64 Ra)).set 1 (.int .i64 Rm)).set 2 (.slice tA R.length tc)), (((tO.out.setBelow (a := ⟨ny2.heap.size, 0, none⟩) (by first | omega | (simp; done) | (simp; omega)) (.int .i64 Ra)).setBelow (a := ⟨ny2.heap.size, 1, none⟩) (by first | omega | (simp; done) | (simp; omega)) (.int .i64 Rm)).setBelow (a := ⟨ny2.heap.size, 2, none⟩) (by first | omega | (simp; done) | (simp; omega)) (.slice tA R.length tc)).mono (by first | omega | (simp; omega)), by omega, (((nHB3.out.setCell (p := ⟨ny2.heap.size, 0, none⟩) (by first | omega | (simp; done) | (simp; omega)) _).setCell (p := ⟨ny2.heap.size, 1, none⟩) (by first | omega | (simp; done) | (simp; omega)) _).setCell (p := ⟨ny2.heap.size, 2, none⟩) (by first | omega | (simp; done) | (simp; omega)) _)⟩
          | exact ⟨ny3.heap.size, tA, tc, rfl, rfl, Blk.new _ _ _, (tO.out.below ((Below.refl _ _).alloc (Nat.le_refl _) _)).mono (by first | omega | (simp; omega)), by omega, nHB3.out.alloc (by omega) _⟩
    case rest =>
      obtain ⟨tb, tA, tc, rfl, rfl, hTB, hT9, _, hb⟩ := hcut
      have BA1 := Lib.hid (BA1.out.below hb)
      have oO := Lib.hid (oO.out.below hb)
      have OB := Lib.hid (OB.out.below hb)
      have GB := Lib.hid (GB.out.below hb)
      have HM := Lib.hid (HM.out.below hb)
      have HB := Lib.hid (below_then HB.out hb)
      have tO := Lib.hid hT9
      have TB := Lib.hid hTB
      clear hTB hT9 hb np1 nq1 nr1 nz1 nL0 nL1 nT
      have q0 := TB.out.cell 0
      have q1 := TB.out.cell 1
      have q2 := TB.out.cell 2
      have q3 := OB.out.cell 0
      have q4 := OB.out.cell 1
      have q5 := OB.out.cell 2
      have E1 := Lib.hid (own_bs9 tO.out)
      have E2 := Lib.hid (own_bs9 oO.out)
      go_wp2_with fail
      refine (eqEdit_any Ra Rm Ra Rm tA oA R R tc oc _ (by omega) (by exact E1.out) (by exact E2.out)).mono ?_
      rintro e h4 ⟨rfl, hb⟩
      rw [decide_eq_true (⟨rfl, rfl, rfl⟩ : Ra = Ra ∧ Rm = Rm ∧ R = R)]
      clear E1 E2 q0 q1 q2 q3 q4 q5
      have BA1 := Lib.hid (BA1.out.below hb)
      have oO := Lib.hid (oO.out.below hb)
      have OB := Lib.hid (OB.out.below hb)
      have GB := Lib.hid (GB.out.below hb)
      have HM := Lib.hid (HM.out.below hb)
      have tO := Lib.hid (tO.out.below hb)
      have TB := Lib.hid (TB.out.below hb)
      have HB := Lib.hid (below_then HB.out hb)
      clear hb
      have q0 := GB.out.cell 0
      have q1 := GB.out.cell 1
      have q2 := GB.out.cell 2
      go_wp2_with fail
      refine (heldEdit_any Ra Rm gA R.length gc 1 _ (by omega) (by omega) (by exact HM.out)).mono ?_
      rintro e h5 ⟨rfl, hb⟩
      have BA1 := Lib.hid (BA1.out.below hb)
      have GB := Lib.hid (GB.out.below hb)
      have HM := Lib.hid (HM.out.below hb)
      have HB := Lib.hid (below_then HB.out hb)
      clear hb q0 q1 q2
      go_wp2
      go_ret
      exact ⟨rfl, HB.out⟩

end Go.Proofs.YtkplfbhblbinaaaDoor.fnExactEditBack
