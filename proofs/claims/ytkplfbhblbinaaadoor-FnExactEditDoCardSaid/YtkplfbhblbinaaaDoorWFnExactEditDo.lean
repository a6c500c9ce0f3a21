/-
  FnExactEditDo, its walk. Own work.
-/
import Derived.Test.YtkplfbhblbinaaaDoorLaw
import Derived.Test.YtkplfbhblbinaaaDoorC05
import Derived.Test.YtkplfbhblbinaaaDoorI08
import Derived.Deep.RegionHeld3
namespace Go.Proofs.YtkplfbhblbinaaaDoor.fnExactEditDo
open Go.ChangeShapes Go.WideShapes Go.ChangeAt Go.RowKit P
set_option linter.unusedVariables false
set_option maxRecDepth 100000

set_option maxHeartbeats 16000000 in
theorem walk (A0 : Option Addr) (l0 : List UInt8) (c0 : Nat) (hc0 : l0.length ≤ c0) (hm0 : c0 ≤ maxLen) (a1 m1 : Int) (ha1 : -9223372036854775808 ≤ a1 ∧ a1 ≤ 9223372036854775807) (hn1 : -9223372036854775808 ≤ m1 ∧ m1 ≤ 9223372036854775807) (A1 : Option Addr) (l1 : List UInt8) (c1 : Nat) (hc1 : l1.length ≤ c1) (hm1 : c1 ≤ maxLen) (w : World) (hL0 : Bs w A0 l0) (hL1 : Bs w A1 l1) (hT : Tab w) :
    Calls Tryd.prog 9 #[.slice A0 l0.length c0, .agg #[.int .i64 a1, .int .i64 m1, .slice A1 l1.length c1]] w fun e w' => e = .returned (.bool true) ∧ Below w.heap.size w w' := by
  have hn90 : l0.length ≤ 9223372036854775807 := by unfold maxLen at hm0; omega
  have hn91 : l1.length ≤ 9223372036854775807 := by unfold maxLen at hm1; omega
  clear hc0 hm0 hc1 hm1
  have BA1 := Blk.new w #[.int .i64 a1, .int .i64 m1, .slice A1 l1.length c1] 49
  have BA1 := Lib.hid BA1
  have hb0 := ((Below.refl w.heap.size w).alloc (Nat.le_refl _) (.cells #[.int .i64 a1, .int .i64 m1, .slice A1 l1.length c1] 49))
  obtain ⟨R, hRe⟩ : ∃ R, edDo l0 a1 m1 l1 = R := ⟨_, rfl⟩
  have hRl : R.length ≤ 1000000 := by rw [← hRe]; exact Nat.le_trans (edDo_len l0 a1 m1 l1) (by decide)
  have HRE := Lib.hid hRe
  obtain ⟨z, hze⟩ : ∃ z, edOk l0 a1 m1 l1 = z := ⟨_, rfl⟩
  have HZE := Lib.hid hze
  have hzz : (z != z) = false := by simp
  clear hze hRe
  by_cases hbig0 : 1048576 < (l0.length : Int)
  · go_enter Tryd.func9, Tryd.ntmps9
    go_wp2
    go_ret
    exact ⟨rfl, hb0⟩
  have hl0 : l0.length ≤ 1048576 := by omega
  clear hbig0
  go_enter Tryd.func9, Tryd.ntmps9
  go_wp2_with fail
  generalize w.alloc (.cells #[.int .i64 a1, .int .i64 m1, .slice A1 l1.length c1] 49) = W0 at *
  have HB := Lib.hid hb0
  clear hb0
  refine (szEdit_any a1 m1 A1 l1.length c1 1048576 _ hn91 (by omega) (by omega)).mono ?_
  rintro e s1 ⟨⟨r1, rfl, hr1⟩, hb1⟩
  have BA1 := Lib.hid (BA1.out.below hb1)
  have HB := Lib.hid (below_then HB.out hb1)
  clear hb1
  by_cases hneg1 : r1 < 0
  · go_wp2
    go_ret
    exact ⟨rfl, HB.out⟩
  have hl1 : l1.length ≤ 1048576 := by omega
  clear hr1
  have zA : w.heap.size + 0 < s1.heap.size := BA1.out.lt
  have mp1 : s1.cell? ⟨w.heap.size, 0, none⟩ = some (.int .i64 a1) := BA1.out.cell 0
  have mq1 : s1.cell? ⟨w.heap.size, 1, none⟩ = some (.int .i64 m1) := BA1.out.cell 1
  have mr1 : s1.cell? ⟨w.heap.size, 2, none⟩ = some (.slice A1 l1.length c1) := BA1.out.cell 2
  have mz1 := BA1.out.lt
  have mL0 := Lib.hid (hL0.below HB.out)
  have mL1 := Lib.hid (hL1.below HB.out)
  go_wp2_with fail
  go_region_held3 (fun V => V.cell? ⟨w.heap.size, 0, none⟩ = some (.int .i64 a1) ∧ V.cell? ⟨w.heap.size, 1, none⟩ = some (.int .i64 m1) ∧ V.cell? ⟨w.heap.size, 2, none⟩ = some (.slice A1 l1.length c1)) (exact ⟨(by first | exact mp1 | exact mp1_1 | exact mp1_2 | exact mp1_3), (by first | exact mq1 | exact mq1_1 | exact mq1_2 | exact mq1_3), (by first | exact mr1 | exact mr1_1 | exact mr1_2 | exact mr1_3)⟩) (first
    | (go_at_call_of 39 (Value.slice A0 l0.length c0); refine (toByteS_any A0 l0 c0 _ hl0 (by exact mL0.out)).mono ?_; rintro e my1 ⟨rfl, hrow, hb⟩; have hb : Below s1.heap.size s1 my1 := ⟨hb.os, hb.tape, hb.output, hb.size, hb.block⟩; have mp1_1 := (hb.cell (p := ⟨w.heap.size, 0, none⟩) mz1).trans mp1; have mq1_1 := (hb.cell (p := ⟨w.heap.size, 1, none⟩) mz1).trans mq1; have mr1_1 := (hb.cell (p := ⟨w.heap.size, 2, none⟩) mz1).trans mr1; have mz1_1 := Nat.lt_of_lt_of_le mz1 hb.size; have mL0 := Lib.hid (mL0.out.below hb); have mL1 := Lib.hid (mL1.out.below hb); have mX0 := Lib.hid hrow.bs; have mD0 := Lib.hid (Pl.some_ s1.heap.size 0 l0.length); have mHB1 := Lib.hid hb; clear hrow hb)
    | (go_at_call_of 40 (Value.agg #[Value.int IntKind.i64 a1, Value.int IntKind.i64 m1, Value.slice A1 l1.length c1]); refine (toEdit_any a1 m1 A1 l1 c1 _ hl1 (by exact mL1.out)).mono ?_; rintro e my2 ⟨v, rfl, hown, hb⟩; have hb : Below my1.heap.size my1 my2 := ⟨hb.os, hb.tape, hb.output, hb.size, hb.block⟩; have mp1_2 := (hb.cell (p := ⟨w.heap.size, 0, none⟩) mz1_1).trans mp1_1; have mq1_2 := (hb.cell (p := ⟨w.heap.size, 1, none⟩) mz1_1).trans mq1_1; have mr1_2 := (hb.cell (p := ⟨w.heap.size, 2, none⟩) mz1_1).trans mr1_1; have mz1_2 := Nat.lt_of_lt_of_le mz1_1 hb.size; have mX0 := Lib.hid (mX0.out.below hb); have mL0 := Lib.hid (mL0.out.below hb); have mL1 := Lib.hid (mL1.out.below hb); obtain ⟨mA1, mc1, rfl, mhc1, mhk1, hB, hp1, hp2⟩ := own_plain9 hown; have mX1 := Lib.hid hB; have mD1 : Hid (Pl mA1 mc1) := Lib.hid (by unfold Pl; exact ⟨hp1, hp2⟩); have mHB2 := Lib.hid (below_then mHB1.out hb); clear hown hb hB hp1 hp2)
    | (go_at_call 29; refine (specEditDo_any _ l0 l0.length a1 m1 mA1 l1 mc1 _ (Nat.le_refl _) hn90 mhc1 mhk1 mD0.out (by exact mX0.out) (by exact mX1.out)).mono ?_; rintro e my3 ⟨v, rfl, hown, hb⟩; rw [HRE.out] at hown; rw [HZE.out]; have hb : Below my2.heap.size my2 my3 := ⟨hb.os, hb.tape, hb.output, hb.size, hb.block⟩; have mp1_3 := (hb.cell (p := ⟨w.heap.size, 0, none⟩) mz1_2).trans mp1_2; have mq1_3 := (hb.cell (p := ⟨w.heap.size, 1, none⟩) mz1_2).trans mq1_2; have mr1_3 := (hb.cell (p := ⟨w.heap.size, 2, none⟩) mz1_2).trans mr1_2; have mz1_3 := Nat.lt_of_lt_of_le mz1_2 hb.size; have mHB3 := Lib.hid (below_then mHB2.out hb); obtain ⟨oA, oc, rfl, ohc, ohk, _⟩ := hown.form; have oO := Lib.hid hown; clear hown hb))
  have hb := mHB3.out
  have BA1 := Lib.hid (BA1.out.below hb)
  have HB := Lib.hid (below_then HB.out hb)
  have zw0 := mHB2.out.size
  have zw : s1.heap.size ≤ my3.heap.size := mHB3.out.size
  have RW := Lib.hid oO.out.range
  clear hb mHB1 mHB2 mHB3 mL0 mX0 mD0 mL1 mX1 mD1 mp1 mp1_1 mp1_2 mp1_3 mq1 mq1_1 mq1_2 mq1_3 mr1 mr1_1 mr1_2 mr1_3 mz1 mz1_1 mz1_2 mz1_3 mhc1 mhk1
  have HL0 := Lib.hid (hL0.below HB.out)
  go_wp2_with fail
  refine (toByteS_any A0 l0 c0 _ hl0 (by exact HL0.out)).mono ?_
  rintro e x0 ⟨rfl, hrow, hb⟩
  have hx0 := hrow.own my3.heap.size (Nat.le_refl _) (by unfold maxLen; omega)
  have z0 := hb.size
  have BA1 := Lib.hid (BA1.out.below hb)
  have oO := Lib.hid (oO.out.below hb)
  have HB := Lib.hid (below_then HB.out hb)
  have X0 := Lib.hid hx0
  have RX0 := Lib.hid hx0.range
  have DX0 := Pl.some_ my3.heap.size 0 l0.length
  clear hrow hb hx0 HL0
  have q10 := BA1.out.cell 0
  have q11 := BA1.out.cell 1
  have q12 := BA1.out.cell 2
  have HL1 := Lib.hid (hL1.below HB.out)
  go_wp2_with fail
  refine (toEdit_any a1 m1 A1 l1 c1 _ hl1 (by exact HL1.out)).mono ?_
  rintro e x1 ⟨v, rfl, hown, hb⟩
  obtain ⟨xA1, xc1, rfl, xh1, xk1, _, xp1, xq1⟩ := own_plain9 hown
  have hal := (Below.refl x1.heap.size x1).alloc (Nat.le_refl _) (.cells #[.int .i64 a1, .int .i64 m1, .slice xA1 l1.length xc1] 25)
  have z1 := hb.size
  have RX1 := Lib.hid hown.range
  have hb2 := below_then hb hal
  have BA1 := Lib.hid (BA1.out.below hb2)
  have oO := Lib.hid (oO.out.below hb2)
  have X0 := Lib.hid (X0.out.below hb2)
  have HB := Lib.hid (below_then HB.out hb2)
  have X1 := Lib.hid (hown.below hal)
  have XB1 := Lib.hid (Blk.new x1 #[.int .i64 a1, .int .i64 m1, .slice xA1 l1.length xc1] 25)
  have zz1 := World.size_alloc x1 (.cells #[.int .i64 a1, .int .i64 m1, .slice xA1 l1.length xc1] 25)
  clear hown hb hb2 hal HL1 q10 q11 q12
  go_wp2_with fail
  generalize x1.alloc (.cells #[.int .i64 a1, .int .i64 m1, .slice xA1 l1.length xc1] 25) = xw1 at *
  have pT := Lib.hid (hT.below HB.out)
  have q10 := XB1.out.cell 0
  have q11 := XB1.out.cell 1
  have q12 := XB1.out.cell 2
  have pX0 := Lib.hid (own_bs9 X0.out)
  have pX1 := Lib.hid (own_bs9 X1.out)
  go_wp2_with fail
  refine (implEditDo_any _ l0 l0.length a1 m1 xA1 l1 xc1 _ (Nat.le_refl _) hn90 xh1 xk1 hn1.2 DX0 (by exact pT.out) (by exact pX0.out) (by exact pX1.out)).mono ?_
  rintro e g ⟨v, rfl, hown, hb⟩
  rw [HRE.out] at hown
  rw [HZE.out]
  obtain ⟨gA, gc, rfl, _, _, _⟩ := hown.form
  have zg := hb.size
  have RG := Lib.hid hown.range
  have BA1 := Lib.hid (BA1.out.below hb)
  have oO := Lib.hid (oO.out.below hb)
  have X0 := Lib.hid (X0.out.below hb)
  have X1 := Lib.hid (X1.out.below hb)
  have XB1 := Lib.hid (XB1.out.below hb)
  have HB := Lib.hid (below_then HB.out hb)
  have G := Lib.hid hown
  clear hown
  clear hb pT q10 q11 q12 pX0 pX1
  have E1 := Lib.hid (own_bs9 G.out)
  have E2 := Lib.hid (own_bs9 oO.out)
  go_wp2_with fail
  refine (eqByteS_any _ _ R R _ _ _ (by omega) (by exact E1.out) (by exact E2.out)).mono ?_
  rintro e h1 ⟨rfl, nn, rfl⟩
  rw [decide_eq_true (rfl : R = R)]
  have hb := below_drewN (Below.refl g.heap.size g) nn
  clear E1 E2
  have BA1 := Lib.hid (BA1.out.below hb)
  have oO := Lib.hid (oO.out.below hb)
  have X0 := Lib.hid (X0.out.below hb)
  have X1 := Lib.hid (X1.out.below hb)
  have XB1 := Lib.hid (XB1.out.below hb)
  have G := Lib.hid (G.out.below hb)
  have HB := Lib.hid (below_then HB.out hb)
  generalize g.drewN nn = h1 at *
  clear hb
  have HL0 := Lib.hid (hL0.below HB.out)
  go_wp2_with fail
  refine (toByteS_any A0 l0 c0 _ hl0 (by exact HL0.out)).mono ?_
  rintro e u0 ⟨rfl, hrow, hb⟩
  have BA1 := Lib.hid (BA1.out.below hb)
  have oO := Lib.hid (oO.out.below hb)
  have X0 := Lib.hid (X0.out.below hb)
  have X1 := Lib.hid (X1.out.below hb)
  have XB1 := Lib.hid (XB1.out.below hb)
  have G := Lib.hid (G.out.below hb)
  have HB := Lib.hid (below_then HB.out hb)
  have HU := Lib.hid hrow.bs
  have HV := Lib.hid (own_bs9 X0.out)
  clear hrow hb HL0
  go_wp2_with fail
  refine (eqByteS_any _ _ l0 l0 _ _ _ hn90 (by exact HV.out) (by exact HU.out)).mono ?_
  rintro e v0 ⟨rfl, nn, rfl⟩
  rw [decide_eq_true (rfl : l0 = l0)]
  have hb := below_drewN (Below.refl u0.heap.size u0) nn
  clear HU HV
  have BA1 := Lib.hid (BA1.out.below hb)
  have oO := Lib.hid (oO.out.below hb)
  have X0 := Lib.hid (X0.out.below hb)
  have X1 := Lib.hid (X1.out.below hb)
  have XB1 := Lib.hid (XB1.out.below hb)
  have G := Lib.hid (G.out.below hb)
  have HB := Lib.hid (below_then HB.out hb)
  generalize u0.drewN nn = v0 at *
  clear hb
  have Ka0 := BA1.out.cell 0
  have Kb0 := BA1.out.cell 1
  have Kc0 := BA1.out.cell 2
  have Kd0 := XB1.out.cell 0
  have Ke0 := XB1.out.cell 1
  have Kf0 := XB1.out.cell 2
  have sA := BA1.out.lt
  have sX := XB1.out.lt
  have HL1 := Lib.hid (hL1.below HB.out)
  have HV := Lib.hid (own_bs9 X1.out)
  go_wp2_with fail
  go_region_held3 (fun V => V.cell? ⟨w.heap.size, 0, none⟩ = some (.int .i64 a1) ∧ V.cell? ⟨w.heap.size, 1, none⟩ = some (.int .i64 m1) ∧ V.cell? ⟨w.heap.size, 2, none⟩ = some (.slice A1 l1.length c1) ∧ V.cell? ⟨x1.heap.size, 0, none⟩ = some (.int .i64 a1) ∧ V.cell? ⟨x1.heap.size, 1, none⟩ = some (.int .i64 m1) ∧ V.cell? ⟨x1.heap.size, 2, none⟩ = some (.slice xA1 l1.length xc1)) (exact ⟨(by first | exact Ka0 | exact Ka1 | exact Ka2), (by first | exact Kb0 | exact Kb1 | exact Kb2), (by first | exact Kc0 | exact Kc1 | exact Kc2), (by first | exact Kd0 | exact Kd1 | exact Kd2), (by first | exact Ke0 | exact Ke1 | exact Ke2), (by first | exact Kf0 | exact Kf1 | exact Kf2)⟩) (first
    | (go_at_call 40; refine (toEdit_any a1 m1 A1 l1 c1 _ hl1 (by exact HL1.out)).mono ?_; rintro e u1 ⟨v, rfl, hown, hb⟩; have hb : Below v0.heap.size v0 u1 := ⟨hb.os, hb.tape, hb.output, hb.size, hb.block⟩; obtain ⟨uA, uc, rfl, _, _, hB⟩ := hown.form; have Ka1 := (hb.cell (p := ⟨w.heap.size, 0, none⟩) sA).trans Ka0; have Kb1 := (hb.cell (p := ⟨w.heap.size, 1, none⟩) sA).trans Kb0; have Kc1 := (hb.cell (p := ⟨w.heap.size, 2, none⟩) sA).trans Kc0; have Kd1 := (hb.cell (p := ⟨x1.heap.size, 0, none⟩) sX).trans Kd0; have Ke1 := (hb.cell (p := ⟨x1.heap.size, 1, none⟩) sX).trans Ke0; have Kf1 := (hb.cell (p := ⟨x1.heap.size, 2, none⟩) sX).trans Kf0; have sA1 := Nat.lt_of_lt_of_le sA hb.size; have sX1 := Nat.lt_of_lt_of_le sX hb.size; have HU := Lib.hid hB; have HV1 := Lib.hid (HV.out.below hb); have HB1 := Lib.hid hb; clear hown hb hB)
    | (go_at_call 42; refine (eqEdit_any a1 m1 a1 m1 xA1 uA l1 l1 xc1 uc _ hn91 (by exact HV1.out) (by exact HU.out)).mono ?_; rintro e v1 ⟨rfl, hb⟩; have hb : Below u1.heap.size u1 v1 := ⟨hb.os, hb.tape, hb.output, hb.size, hb.block⟩; rw [decide_eq_true (⟨rfl, rfl, rfl⟩ : a1 = a1 ∧ m1 = m1 ∧ l1 = l1)]; have Ka2 := (hb.cell (p := ⟨w.heap.size, 0, none⟩) sA1).trans Ka1; have Kb2 := (hb.cell (p := ⟨w.heap.size, 1, none⟩) sA1).trans Kb1; have Kc2 := (hb.cell (p := ⟨w.heap.size, 2, none⟩) sA1).trans Kc1; have Kd2 := (hb.cell (p := ⟨x1.heap.size, 0, none⟩) sX1).trans Kd1; have Ke2 := (hb.cell (p := ⟨x1.heap.size, 1, none⟩) sX1).trans Ke1; have Kf2 := (hb.cell (p := ⟨x1.heap.size, 2, none⟩) sX1).trans Kf1; have HB2 := Lib.hid (below_then HB1.out hb); clear hb))
  have hb := HB2.out
  have BA1 := Lib.hid (BA1.out.below hb)
  have oO := Lib.hid (oO.out.below hb)
  have X0 := Lib.hid (X0.out.below hb)
  have X1 := Lib.hid (X1.out.below hb)
  have XB1 := Lib.hid (XB1.out.below hb)
  have G := Lib.hid (G.out.below hb)
  have HB := Lib.hid (below_then HB.out hb)
  clear hb HB2 HB1 HV1 HU HV HL1 Ka0 Ka1 Ka2 Kb0 Kb1 Kb2 Kc0 Kc1 Kc2 Kd0 Kd1 Kd2 Ke0 Ke1 Ke2 Kf0 Kf1 Kf2 sA sX sA1 sX1
  go_wp2_with fail
  refine (markByteS_any _ l0 _ (1) _ (by omega) (by omega) (by exact X0.out)).mono ?_
  rintro e k0 ⟨rfl, _, hgr⟩
  have hke := Keeps.of_grown hgr
  have BA1 := Lib.hid (BA1.out.of_block (hke.block _ BA1.out.lt (fun h => by have h1 := RX0.out _ h; omega)))
  have oO := Lib.hid (oO.out.keeps hke (fun b hb h => by have h1 := RX0.out b h; have h2 := RW.out b hb; omega))
  have X1 := Lib.hid (X1.out.keeps hke (fun b hb h => by have h1 := RX0.out b h; have h2 := RX1.out b hb; omega))
  have XB1 := Lib.hid (XB1.out.of_block (hke.block _ XB1.out.lt (fun h => by have h1 := RX0.out _ h; omega)))
  have G := Lib.hid (G.out.keeps hke (fun b hb h => by have h1 := RX0.out b h; have h2 := RG.out b hb; omega))
  have HB := Lib.hid (HB.out.trans (hke.below (B := w.heap.size) HB.out.size (fun k hk => by have h1 := RX0.out k hk; omega)))
  have zk0 := hke.size
  clear hke hgr X0
  have q0 := XB1.out.cell 0
  have q1 := XB1.out.cell 1
  have q2 := XB1.out.cell 2
  go_wp2_with fail
  refine (markEdit_any a1 m1 _ l1 _ (1 + l0.length) _ (by omega) (by omega) (by exact X1.out)).mono ?_
  rintro e k1 ⟨rfl, _, hke⟩
  have BA1 := Lib.hid (BA1.out.of_block (hke.block _ BA1.out.lt (fun h => by have h1 := RX1.out _ h; omega)))
  have oO := Lib.hid (oO.out.keeps hke (fun b hb h => by have h1 := RX1.out b h; have h2 := RW.out b hb; omega))
  have G := Lib.hid (G.out.keeps hke (fun b hb h => by have h1 := RX1.out b h; have h2 := RG.out b hb; omega))
  have HB := Lib.hid (HB.out.trans (hke.below (B := w.heap.size) HB.out.size (fun k hk => by have h1 := RX1.out k hk; omega)))
  have zk1 := hke.size
  clear hke X1 XB1 q0 q1 q2
  obtain ⟨K, hK, hK0⟩ : ∃ K : Int, ((1 + l0.length + l1.length : Nat) : Int) = K ∧ ¬ K < 0 := ⟨_, rfl, by omega⟩
  have hKd : decide (K < 0) = false := decide_eq_false hK0
  rw [hK]
  clear hK hK0
  have E1 := Lib.hid (own_bs9 G.out)
  have E2 := Lib.hid (own_bs9 oO.out)
  go_wp2_with fail
  refine (eqByteS_any _ _ R R _ _ _ (by omega) (by exact E1.out) (by exact E2.out)).mono ?_
  rintro e h2 ⟨rfl, nn, rfl⟩
  rw [decide_eq_true (rfl : R = R)]
  have hb := below_drewN (Below.refl k1.heap.size k1) nn
  clear E1 E2
  have BA1 := Lib.hid (BA1.out.below hb)
  have oO := Lib.hid (oO.out.below hb)
  have G := Lib.hid (G.out.below hb)
  have HB := Lib.hid (below_then HB.out hb)
  generalize k1.drewN nn = h2 at *
  clear hb
  clear hKd
  go_wp2_with fail
  refine (markByteS_any _ R _ 1 _ (by omega) (by omega) (by exact G.out)).mono ?_
  rintro e kg ⟨rfl, hG, hgr⟩
  have hke := Keeps.of_grown hgr
  have BA1 := Lib.hid (BA1.out.of_block (hke.block _ BA1.out.lt (fun h => by have h1 := RG.out _ h; omega)))
  have oO := Lib.hid (oO.out.keeps hke (fun b hb h => by have h1 := RG.out b h; have h2 := RW.out b hb; omega))
  have HB := Lib.hid (HB.out.trans (hke.below (B := w.heap.size) HB.out.size (fun k hk => by have h1 := RG.out k hk; omega)))
  have zkg := hke.size
  have hM := own_bs9 hG
  have HM := Lib.hid hM
  clear hM hG hke hgr G
  go_wp2_with fail
  refine (heldByteS_any gA R.length gc 1 _ (by omega) (by omega) (by exact HM.out)).mono ?_
  rintro e h3 ⟨rfl, rfl⟩
  have np1 : h3.cell? ⟨w.heap.size, 0, none⟩ = some (.int .i64 a1) := BA1.out.cell 0
  have nq1 : h3.cell? ⟨w.heap.size, 1, none⟩ = some (.int .i64 m1) := BA1.out.cell 1
  have nr1 : h3.cell? ⟨w.heap.size, 2, none⟩ = some (.slice A1 l1.length c1) := BA1.out.cell 2
  have nz1 := BA1.out.lt
  have nL0 := Lib.hid (hL0.below HB.out)
  have nL1 := Lib.hid (hL1.below HB.out)
  have nT := Lib.hid (hT.below HB.out)
  go_wp2_with fail
  go_region_held3 (fun V => V.cell? ⟨w.heap.size, 0, none⟩ = some (.int .i64 a1) ∧ V.cell? ⟨w.heap.size, 1, none⟩ = some (.int .i64 m1) ∧ V.cell? ⟨w.heap.size, 2, none⟩ = some (.slice A1 l1.length c1)) (exact ⟨(by first | exact np1 | exact np1_1 | exact np1_2 | exact np1_3), (by first | exact nq1 | exact nq1_1 | exact nq1_2 | exact nq1_3), (by first | exact nr1 | exact nr1_1 | exact nr1_2 | exact nr1_3)⟩) (first
    | (go_at_call_of 39 (Value.slice A0 l0.length c0); refine (toByteS_any A0 l0 c0 _ hl0 (by exact nL0.out)).mono ?_; rintro e ny1 ⟨rfl, hrow, hb⟩; have hb : Below h3.heap.size h3 ny1 := ⟨hb.os, hb.tape, hb.output, hb.size, hb.block⟩; have np1_1 := (hb.cell (p := ⟨w.heap.size, 0, none⟩) nz1).trans np1; have nq1_1 := (hb.cell (p := ⟨w.heap.size, 1, none⟩) nz1).trans nq1; have nr1_1 := (hb.cell (p := ⟨w.heap.size, 2, none⟩) nz1).trans nr1; have nz1_1 := Nat.lt_of_lt_of_le nz1 hb.size; have nL0 := Lib.hid (nL0.out.below hb); have nL1 := Lib.hid (nL1.out.below hb); have nT := Lib.hid (nT.out.below hb); have nX0 := Lib.hid hrow.bs; have nD0 := Lib.hid (Pl.some_ h3.heap.size 0 l0.length); have nHB1 := Lib.hid hb; clear hrow hb)
    | (go_at_call_of 40 (Value.agg #[Value.int IntKind.i64 a1, Value.int IntKind.i64 m1, Value.slice A1 l1.length c1]); refine (toEdit_any a1 m1 A1 l1 c1 _ hl1 (by exact nL1.out)).mono ?_; rintro e ny2 ⟨v, rfl, hown, hb⟩; have hb : Below ny1.heap.size ny1 ny2 := ⟨hb.os, hb.tape, hb.output, hb.size, hb.block⟩; have np1_2 := (hb.cell (p := ⟨w.heap.size, 0, none⟩) nz1_1).trans np1_1; have nq1_2 := (hb.cell (p := ⟨w.heap.size, 1, none⟩) nz1_1).trans nq1_1; have nr1_2 := (hb.cell (p := ⟨w.heap.size, 2, none⟩) nz1_1).trans nr1_1; have nz1_2 := Nat.lt_of_lt_of_le nz1_1 hb.size; have nX0 := Lib.hid (nX0.out.below hb); have nL0 := Lib.hid (nL0.out.below hb); have nL1 := Lib.hid (nL1.out.below hb); have nT := Lib.hid (nT.out.below hb); obtain ⟨nA1, nc1, rfl, nhc1, nhk1, hB, hp1, hp2⟩ := own_plain9 hown; have nX1 := Lib.hid hB; have nD1 : Hid (Pl nA1 nc1) := Lib.hid (by unfold Pl; exact ⟨hp1, hp2⟩); have nHB2 := Lib.hid (below_then nHB1.out hb); clear hown hb hB hp1 hp2)
    | (go_at_call 18; refine (implEditDo_any _ l0 l0.length a1 m1 nA1 l1 nc1 _ (Nat.le_refl _) hn90 nhc1 nhk1 hn1.2 nD0.out (by exact nT.out) (by exact nX0.out) (by exact nX1.out)).mono ?_; rintro e ny3 ⟨v, rfl, hown, hb⟩; rw [HRE.out] at hown; rw [HZE.out]; have hb : Below ny2.heap.size ny2 ny3 := ⟨hb.os, hb.tape, hb.output, hb.size, hb.block⟩; have np1_3 := (hb.cell (p := ⟨w.heap.size, 0, none⟩) nz1_2).trans np1_2; have nq1_3 := (hb.cell (p := ⟨w.heap.size, 1, none⟩) nz1_2).trans nq1_2; have nr1_3 := (hb.cell (p := ⟨w.heap.size, 2, none⟩) nz1_2).trans nr1_2; have nz1_3 := Nat.lt_of_lt_of_le nz1_2 hb.size; have nHB3 := Lib.hid (below_then nHB2.out hb); obtain ⟨tA, tc, rfl, thc, thk, _⟩ := hown.form; have tO := Lib.hid hown; clear hown hb))
  have hb := nHB3.out
  have BA1 := Lib.hid (BA1.out.below hb)
  have oO := Lib.hid (oO.out.below hb)
  have HM := Lib.hid (HM.out.below hb)
  have HB := Lib.hid (below_then HB.out hb)
  have TO := tO
  clear hb nHB1 nHB2 nHB3 nL0 nX0 nD0 nL1 nX1 nD1 np1 np1_1 np1_2 np1_3 nq1 nq1_1 nq1_2 nq1_3 nr1 nr1_1 nr1_2 nr1_3 nz1 nz1_1 nz1_2 nz1_3 nhc1 nhk1
  have E1 := Lib.hid (own_bs9 tO.out)
  have E2 := Lib.hid (own_bs9 oO.out)
  go_wp2_with fail
  refine (eqByteS_any _ _ R R _ _ _ (by omega) (by exact E1.out) (by exact E2.out)).mono ?_
  rintro e h4 ⟨rfl, nn, rfl⟩
  rw [decide_eq_true (rfl : R = R)]
  have hb := below_drewN (Below.refl ny3.heap.size ny3) nn
  clear E1 E2
  have BA1 := Lib.hid (BA1.out.below hb)
  have oO := Lib.hid (oO.out.below hb)
  have HM := Lib.hid (HM.out.below hb)
  have tO := Lib.hid (tO.out.below hb)
  have HB := Lib.hid (below_then HB.out hb)
  generalize ny3.drewN nn = h4 at *
  clear hb
  go_wp2_with fail
  refine (heldByteS_any gA R.length gc 1 _ (by omega) (by omega) (by exact HM.out)).mono ?_
  rintro e h5 ⟨rfl, rfl⟩
  go_wp2
  go_ret
  exact ⟨rfl, HB.out⟩

end Go.Proofs.YtkplfbhblbinaaaDoor.fnExactEditDo
