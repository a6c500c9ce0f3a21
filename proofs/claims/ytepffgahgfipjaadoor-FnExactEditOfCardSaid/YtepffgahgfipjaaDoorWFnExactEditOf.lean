/-
  FnExactEditOf, its walk. Own work.
-/
import Derived.Test.YtepffgahgfipjaaDoorLaw
import Derived.Test.YtepffgahgfipjaaDoorC05
import Derived.Test.YtepffgahgfipjaaDoorI10
import Derived.Test.YtepffgahgfipjaaDoorS10
import Derived.Deep.RegionHeld3
import Derived.Deep.DeepCutAuto
namespace Go.Proofs.YtepffgahgfipjaaDoor.fnExactEditOf
open Go.ChangeShapes Go.WideShapes Go.ChangeAt Go.RowKit P
set_option linter.unusedVariables false
set_option maxRecDepth 100000

set_option maxHeartbeats 16000000 in
theorem walk (A0 : Option Addr) (l0 : List UInt8) (c0 : Nat) (hc0 : l0.length ≤ c0) (hm0 : c0 ≤ maxLen) (A1 : Option Addr) (l1 : List UInt8) (c1 : Nat) (hc1 : l1.length ≤ c1) (hm1 : c1 ≤ maxLen) (w : World) (hL0 : Bs w A0 l0) (hL1 : Bs w A1 l1) (hT : Tab w) :
    Calls Tryd.prog 11 #[.slice A0 l0.length c0, .slice A1 l1.length c1] w fun e w' => e = .returned (.bool true) ∧ Below w.heap.size w w' := by
  have hn90 : l0.length ≤ 9223372036854775807 := by unfold maxLen at hm0; omega
  have hn91 : l1.length ≤ 9223372036854775807 := by unfold maxLen at hm1; omega
  clear hc0 hm0 hc1 hm1
  have hb0 := (Below.refl w.heap.size w)
  obtain ⟨Ra, hRa⟩ : ∃ Ra, ofA l0 l1 = Ra := ⟨_, rfl⟩
  have HRaE := Lib.hid hRa
  obtain ⟨Rm, hRm⟩ : ∃ Rm, ofM l0 l1 = Rm := ⟨_, rfl⟩
  have HRmE := Lib.hid hRm
  obtain ⟨R, hR⟩ : ∃ R, ofP l0 l1 = R := ⟨_, rfl⟩
  have HRE := Lib.hid hR
  have hRl : R.length ≤ 1000000 := by rw [← hR]; exact (by unfold ofP; split; (rename_i h; unfold ofOk at h; rw [Bool.and_eq_true] at h; have h9 := isText_len h.2; rw [List.length_take, List.length_drop]; omega); simp)
  obtain ⟨z, hze⟩ : ∃ z, ofOk l0 l1 = z := ⟨_, rfl⟩
  have HZE := Lib.hid hze
  have hzz : (z != z) = false := by simp
  clear hze hRa hRm hR
  by_cases hbig0 : 1048576 < (l0.length : Int)
  · go_enter Tryd.func11, Tryd.ntmps11
    go_wp2
    go_ret
    exact ⟨rfl, hb0⟩
  have hl0 : l0.length ≤ 1048576 := by omega
  clear hbig0
  by_cases hbig1 : 1048576 < (l1.length : Int)
  · go_enter Tryd.func11, Tryd.ntmps11
    go_wp2
    go_ret
    exact ⟨rfl, hb0⟩
  have hl1 : l1.length ≤ 1048576 := by omega
  clear hbig1
  go_enter Tryd.func11, Tryd.ntmps11
  have HB := Lib.hid hb0
  clear hb0
  have zA : w.heap.size ≤ w.heap.size := HB.out.size
  have mL0 := Lib.hid (hL0.below HB.out)
  have mL1 := Lib.hid (hL1.below HB.out)
  go_wp2_with fail
  refine (toByteS_e A0 l0 c0 _ hl0 (by exact mL0.out)).mono ?_; rintro e my1 ⟨mg0, rfl, hrow, hb⟩; have hb : Below w.heap.size w my1 := ⟨hb.os, hb.tape, hb.output, hb.size, hb.block⟩; have mL0 := Lib.hid (mL0.out.below hb); have mL1 := Lib.hid (mL1.out.below hb); have mX0 := Lib.hid hrow.bs; have mD0 := Lib.hid (Pl.some_ mg0 0 l0.length); have mHB1 := Lib.hid hb; clear hrow hb
  go_wp2_with fail
  refine (toByteS_e A1 l1 c1 _ hl1 (by exact mL1.out)).mono ?_; rintro e my2 ⟨mg1, rfl, hrow, hb⟩; have hb : Below my1.heap.size my1 my2 := ⟨hb.os, hb.tape, hb.output, hb.size, hb.block⟩; have mX0 := Lib.hid (mX0.out.below hb); have mL0 := Lib.hid (mL0.out.below hb); have mL1 := Lib.hid (mL1.out.below hb); have mX1 := Lib.hid hrow.bs; have mD1 := Lib.hid (Pl.some_ mg1 0 l1.length); have mHB2 := Lib.hid (below_then mHB1.out hb); clear hrow hb
  go_wp2_with fail
  refine (specEditOf_any _ _ l0 l1 l0.length l1.length _ (Nat.le_refl _) hn90 (Nat.le_refl _) hn91 mD0.out mD1.out (by exact mX0.out) (by exact mX1.out)).mono ?_; rintro e my3 ⟨v, rfl, hown, hb⟩; rw [HRE.out] at hown; rw [HZE.out, HRaE.out, HRmE.out]; have hb : Below my2.heap.size my2 my3 := ⟨hb.os, hb.tape, hb.output, hb.size, hb.block⟩; have mHB3 := Lib.hid (below_then mHB2.out hb); obtain ⟨oA, oc, rfl, ohc, ohk, _⟩ := hown.form; have oO := Lib.hid hown; clear hown hb
  have hb := mHB3.out
  have HB := Lib.hid (below_then HB.out hb)
  have zw : w.heap.size ≤ my3.heap.size := mHB3.out.size
  have RW := Lib.hid oO.out.range
  clear hb mHB1 mHB2 mHB3 mL0 mX0 mD0 mL1 mX1 mD1
  have hal := (Below.refl my3.heap.size my3).alloc (Nat.le_refl _) (.cells #[.int .i64 Ra, .int .i64 Rm, .slice oA R.length oc] 25)
  have oO := Lib.hid (oO.out.below hal)
  have HB := Lib.hid (below_then HB.out hal)
  have OB := Lib.hid (Blk.new my3 #[.int .i64 Ra, .int .i64 Rm, .slice oA R.length oc] 25)
  have zob : my3.heap.size < (my3.alloc (.cells #[.int .i64 Ra, .int .i64 Rm, .slice oA R.length oc] 25)).heap.size := by simp
  clear hal
  have HL0 := Lib.hid (hL0.below HB.out)
  go_wp2_with fail
  generalize my3.alloc (.cells #[.int .i64 Ra, .int .i64 Rm, .slice oA R.length oc] 25) = ow at *
  refine (toByteS_any A0 l0 c0 _ hl0 (by exact HL0.out)).mono ?_
  rintro e x0 ⟨rfl, hrow, hb⟩
  have hx0 := hrow.own ow.heap.size (Nat.le_refl _) (by unfold maxLen; omega)
  have z0 := hb.size
  have oO := Lib.hid (oO.out.below hb)
  have OB := Lib.hid (OB.out.below hb)
  have HB := Lib.hid (below_then HB.out hb)
  have X0 := Lib.hid hx0
  have RX0 := Lib.hid hx0.range
  have DX0 := Pl.some_ ow.heap.size 0 l0.length
  clear hrow hb hx0 HL0
  have HL1 := Lib.hid (hL1.below HB.out)
  go_wp2_with fail
  refine (toByteS_any A1 l1 c1 _ hl1 (by exact HL1.out)).mono ?_
  rintro e x1 ⟨rfl, hrow, hb⟩
  have hx1 := hrow.own x0.heap.size (Nat.le_refl _) (by unfold maxLen; omega)
  have z1 := hb.size
  have oO := Lib.hid (oO.out.below hb)
  have OB := Lib.hid (OB.out.below hb)
  have X0 := Lib.hid (X0.out.below hb)
  have HB := Lib.hid (below_then HB.out hb)
  have X1 := Lib.hid hx1
  have RX1 := Lib.hid hx1.range
  have DX1 := Pl.some_ x0.heap.size 0 l1.length
  clear hrow hb hx1 HL1
  have pT := Lib.hid (hT.below HB.out)
  have pX0 := Lib.hid (own_bs9 X0.out)
  have pX1 := Lib.hid (own_bs9 X1.out)
  go_wp2_with fail
  refine (implEditOf_any _ _ l0 l1 l0.length l1.length _ (Nat.le_refl _) hn90 (Nat.le_refl _) hn91 DX0 DX1 (by exact pT.out) (by exact pX0.out) (by exact pX1.out)).mono ?_
  rintro e g ⟨v, rfl, hown, hb⟩
  rw [HRE.out] at hown
  rw [HZE.out, HRaE.out, HRmE.out]
  obtain ⟨gA, gc, rfl, _, _, _⟩ := hown.form
  have zg := hb.size
  have RG := Lib.hid hown.range
  have hal := (Below.refl g.heap.size g).alloc (Nat.le_refl _) (.cells #[.int .i64 Ra, .int .i64 Rm, .slice gA R.length gc] 25)
  have hb2 := below_then hb hal
  have oO := Lib.hid (oO.out.below hb2)
  have OB := Lib.hid (OB.out.below hb2)
  have X0 := Lib.hid (X0.out.below hb2)
  have X1 := Lib.hid (X1.out.below hb2)
  have HB := Lib.hid (below_then HB.out hb2)
  have G := Lib.hid (hown.below hal)
  have GB := Lib.hid (Blk.new g #[.int .i64 Ra, .int .i64 Rm, .slice gA R.length gc] 25)
  have zzg : g.heap.size < (g.alloc (.cells #[.int .i64 Ra, .int .i64 Rm, .slice gA R.length gc] 25)).heap.size := by simp
  clear hown hal hb2
  clear hb pT  pX0 pX1
  have q0 := GB.out.cell 0
  have q3 := OB.out.cell 0
  have q1 := GB.out.cell 1
  have q4 := OB.out.cell 1
  have q2 := GB.out.cell 2
  have q5 := OB.out.cell 2
  go_wp2_with fail
  generalize g.alloc (.cells #[.int .i64 Ra, .int .i64 Rm, .slice gA R.length gc] 25) = gw at *
  have E1 := Lib.hid (own_bs9 G.out)
  have E2 := Lib.hid (own_bs9 oO.out)
  refine (eqEdit_any Ra Rm Ra Rm gA oA R R gc oc _ (by omega) (by exact E1.out) (by exact E2.out)).mono ?_
  rintro e h1 ⟨rfl, hb⟩
  rw [decide_eq_true (⟨rfl, rfl, rfl⟩ : Ra = Ra ∧ Rm = Rm ∧ R = R)]
  clear E1 E2 q0 q1 q2 q3 q4 q5
  have oO := Lib.hid (oO.out.below hb)
  have OB := Lib.hid (OB.out.below hb)
  have X0 := Lib.hid (X0.out.below hb)
  have X1 := Lib.hid (X1.out.below hb)
  have G := Lib.hid (G.out.below hb)
  have GB := Lib.hid (GB.out.below hb)
  have HB := Lib.hid (below_then HB.out hb)
  clear hb
  have HL0 := Lib.hid (hL0.below HB.out)
  go_wp2_with fail
  refine (toByteS_any A0 l0 c0 _ hl0 (by exact HL0.out)).mono ?_
  rintro e u0 ⟨rfl, hrow, hb⟩
  have oO := Lib.hid (oO.out.below hb)
  have OB := Lib.hid (OB.out.below hb)
  have X0 := Lib.hid (X0.out.below hb)
  have X1 := Lib.hid (X1.out.below hb)
  have G := Lib.hid (G.out.below hb)
  have GB := Lib.hid (GB.out.below hb)
  have HB := Lib.hid (below_then HB.out hb)
  have HU := Lib.hid hrow.bs
  have HV := Lib.hid (own_bs9 X0.out)
  clear hrow hb HL0
  go_wp2_with fail
  refine (eqByteS_any _ _ l0 l0 _ _ _ hn90 (by exact HV.out) (by exact HU.out)).mono ?_
  rintro e v0 ⟨rfl, nn, rfl⟩
  rw [decide_eq_true (rfl : l0 = l0)]
  have hb := below_drewN (Below.refl u0.heap.size u0) nn
  clear HU HV
  have oO := Lib.hid (oO.out.below hb)
  have OB := Lib.hid (OB.out.below hb)
  have X0 := Lib.hid (X0.out.below hb)
  have X1 := Lib.hid (X1.out.below hb)
  have G := Lib.hid (G.out.below hb)
  have GB := Lib.hid (GB.out.below hb)
  have HB := Lib.hid (below_then HB.out hb)
  generalize u0.drewN nn = v0 at *
  clear hb
  have HL1 := Lib.hid (hL1.below HB.out)
  go_wp2_with fail
  refine (toByteS_any A1 l1 c1 _ hl1 (by exact HL1.out)).mono ?_
  rintro e u1 ⟨rfl, hrow, hb⟩
  have oO := Lib.hid (oO.out.below hb)
  have OB := Lib.hid (OB.out.below hb)
  have X0 := Lib.hid (X0.out.below hb)
  have X1 := Lib.hid (X1.out.below hb)
  have G := Lib.hid (G.out.below hb)
  have GB := Lib.hid (GB.out.below hb)
  have HB := Lib.hid (below_then HB.out hb)
  have HU := Lib.hid hrow.bs
  have HV := Lib.hid (own_bs9 X1.out)
  clear hrow hb HL1
  go_wp2_with fail
  refine (eqByteS_any _ _ l1 l1 _ _ _ hn91 (by exact HV.out) (by exact HU.out)).mono ?_
  rintro e v1 ⟨rfl, nn, rfl⟩
  rw [decide_eq_true (rfl : l1 = l1)]
  have hb := below_drewN (Below.refl u1.heap.size u1) nn
  clear HU HV
  have oO := Lib.hid (oO.out.below hb)
  have OB := Lib.hid (OB.out.below hb)
  have X0 := Lib.hid (X0.out.below hb)
  have X1 := Lib.hid (X1.out.below hb)
  have G := Lib.hid (G.out.below hb)
  have GB := Lib.hid (GB.out.below hb)
  have HB := Lib.hid (below_then HB.out hb)
  generalize u1.drewN nn = v1 at *
  clear hb
  go_wp2_with fail
  refine (markByteS_any _ l0 _ (1) _ (by omega) (by omega) (by exact X0.out)).mono ?_
  rintro e k0 ⟨rfl, _, hgr⟩
  have hke := Keeps.of_grown hgr
  have oO := Lib.hid (oO.out.keeps hke (fun b hb h => by have h1 := RX0.out b h; have h2 := RW.out b hb; omega))
  have OB := Lib.hid (OB.out.of_block (hke.block _ OB.out.lt (fun h => by have h1 := RX0.out _ h; omega)))
  have X1 := Lib.hid (X1.out.keeps hke (fun b hb h => by have h1 := RX0.out b h; have h2 := RX1.out b hb; omega))
  have G := Lib.hid (G.out.keeps hke (fun b hb h => by have h1 := RX0.out b h; have h2 := RG.out b hb; omega))
  have GB := Lib.hid (GB.out.of_block (hke.block _ GB.out.lt (fun h => by have h1 := RX0.out _ h; omega)))
  have HB := Lib.hid (HB.out.trans (hke.below (B := w.heap.size) HB.out.size (fun k hk => by have h1 := RX0.out k hk; omega)))
  have zk0 := hke.size
  clear hke hgr X0
  go_wp2_with fail
  refine (markByteS_any _ l1 _ (1 + l0.length) _ (by omega) (by omega) (by exact X1.out)).mono ?_
  rintro e k1 ⟨rfl, _, hgr⟩
  have hke := Keeps.of_grown hgr
  have oO := Lib.hid (oO.out.keeps hke (fun b hb h => by have h1 := RX1.out b h; have h2 := RW.out b hb; omega))
  have OB := Lib.hid (OB.out.of_block (hke.block _ OB.out.lt (fun h => by have h1 := RX1.out _ h; omega)))
  have G := Lib.hid (G.out.keeps hke (fun b hb h => by have h1 := RX1.out b h; have h2 := RG.out b hb; omega))
  have GB := Lib.hid (GB.out.of_block (hke.block _ GB.out.lt (fun h => by have h1 := RX1.out _ h; omega)))
  have HB := Lib.hid (HB.out.trans (hke.below (B := w.heap.size) HB.out.size (fun k hk => by have h1 := RX1.out k hk; omega)))
  have zk1 := hke.size
  clear hke hgr X1
  obtain ⟨K, hK, hK0⟩ : ∃ K : Int, ((1 + l0.length + l1.length : Nat) : Int) = K ∧ ¬ K < 0 := ⟨_, rfl, by omega⟩
  have hKd : decide (K < 0) = false := decide_eq_false hK0
  rw [hK]
  clear hK hK0
  have q0 := GB.out.cell 0
  have q1 := GB.out.cell 1
  have q2 := GB.out.cell 2
  have q3 := OB.out.cell 0
  have q4 := OB.out.cell 1
  have q5 := OB.out.cell 2
  have E1 := Lib.hid (own_bs9 G.out)
  have E2 := Lib.hid (own_bs9 oO.out)
  go_wp2_with fail
  refine (eqEdit_any Ra Rm Ra Rm gA oA R R gc oc _ (by omega) (by exact E1.out) (by exact E2.out)).mono ?_
  rintro e h2 ⟨rfl, hb⟩
  rw [decide_eq_true (⟨rfl, rfl, rfl⟩ : Ra = Ra ∧ Rm = Rm ∧ R = R)]
  clear E1 E2 q0 q1 q2 q3 q4 q5
  have oO := Lib.hid (oO.out.below hb)
  have OB := Lib.hid (OB.out.below hb)
  have G := Lib.hid (G.out.below hb)
  have GB := Lib.hid (GB.out.below hb)
  have HB := Lib.hid (below_then HB.out hb)
  clear hb
  clear hKd
  have q0 := GB.out.cell 0
  have q1 := GB.out.cell 1
  have q2 := GB.out.cell 2
  go_wp2_with fail
  refine (markEdit_any Ra Rm _ R _ 1 _ (by omega) (by omega) (by exact G.out)).mono ?_
  rintro e kg ⟨rfl, hG, hke⟩
  have oO := Lib.hid (oO.out.keeps hke (fun b hb h => by have h1 := RG.out b h; have h2 := RW.out b hb; omega))
  have OB := Lib.hid (OB.out.of_block (hke.block _ OB.out.lt (fun h => by have h1 := RG.out _ h; omega)))
  have GB := Lib.hid (GB.out.of_block (hke.block _ GB.out.lt (fun h => by have h1 := RG.out _ h; omega)))
  have HB := Lib.hid (HB.out.trans (hke.below (B := w.heap.size) HB.out.size (fun k hk => by have h1 := RG.out k hk; omega)))
  have zkg := hke.size
  have hM := own_bs9 hG
  have HM := Lib.hid hM
  clear hM hG hke q0 q1 q2 G
  have q0 := GB.out.cell 0
  have q1 := GB.out.cell 1
  have q2 := GB.out.cell 2
  go_wp2_with fail
  refine (heldEdit_any Ra Rm gA R.length gc 1 _ (by omega) (by omega) (by exact HM.out)).mono ?_
  rintro e h3 ⟨rfl, hb⟩
  have oO := Lib.hid (oO.out.below hb)
  have OB := Lib.hid (OB.out.below hb)
  have GB := Lib.hid (GB.out.below hb)
  have HM := Lib.hid (HM.out.below hb)
  have HB := Lib.hid (below_then HB.out hb)
  clear hb q0 q1 q2
  have nL0 := Lib.hid (hL0.below HB.out)
  have nL1 := Lib.hid (hL1.below HB.out)
  have nT := Lib.hid (hT.below HB.out)
  go_wp2_with fail
  refine (toByteS_e A0 l0 c0 _ hl0 (by exact nL0.out)).mono ?_; rintro e ny1 ⟨ng0, rfl, hrow, hb⟩; have hb : Below h3.heap.size h3 ny1 := ⟨hb.os, hb.tape, hb.output, hb.size, hb.block⟩; have nL0 := Lib.hid (nL0.out.below hb); have nL1 := Lib.hid (nL1.out.below hb); have nT := Lib.hid (nT.out.below hb); have nX0 := Lib.hid hrow.bs; have nD0 := Lib.hid (Pl.some_ ng0 0 l0.length); have nHB1 := Lib.hid hb; clear hrow hb
  go_wp2_with fail
  refine (toByteS_e A1 l1 c1 _ hl1 (by exact nL1.out)).mono ?_; rintro e ny2 ⟨ng1, rfl, hrow, hb⟩; have hb : Below ny1.heap.size ny1 ny2 := ⟨hb.os, hb.tape, hb.output, hb.size, hb.block⟩; have nX0 := Lib.hid (nX0.out.below hb); have nL0 := Lib.hid (nL0.out.below hb); have nL1 := Lib.hid (nL1.out.below hb); have nT := Lib.hid (nT.out.below hb); have nX1 := Lib.hid hrow.bs; have nD1 := Lib.hid (Pl.some_ ng1 0 l1.length); have nHB2 := Lib.hid (below_then nHB1.out hb); clear hrow hb
  go_wp2_with fail
  refine (implEditOf_any _ _ l0 l1 l0.length l1.length _ (Nat.le_refl _) hn90 (Nat.le_refl _) hn91 nD0.out nD1.out (by exact nT.out) (by exact nX0.out) (by exact nX1.out)).mono ?_; rintro e ny3 ⟨v, rfl, hown, hb⟩; rw [HRE.out] at hown; rw [HZE.out, HRaE.out, HRmE.out]; have hb : Below ny2.heap.size ny2 ny3 := ⟨hb.os, hb.tape, hb.output, hb.size, hb.block⟩; have nHB3 := Lib.hid (below_then nHB2.out hb); obtain ⟨tA, tc, rfl, thc, thk, _⟩ := hown.form; have tO := Lib.hid hown; clear hown hb
  have hb := nHB3.out
  have oO := Lib.hid (oO.out.below hb)
  have OB := Lib.hid (OB.out.below hb)
  have GB := Lib.hid (GB.out.below hb)
  have HM := Lib.hid (HM.out.below hb)
  have HB := Lib.hid (below_then HB.out hb)
  clear hb nHB1 nHB2 nHB3 nL0 nX0 nD0 nL1 nX1 nD1 nT
  have hal := (Below.refl ny3.heap.size ny3).alloc (Nat.le_refl _) (.cells #[.int .i64 Ra, .int .i64 Rm, .slice tA R.length tc] 25)
  have oO := Lib.hid (oO.out.below hal)
  have OB := Lib.hid (OB.out.below hal)
  have GB := Lib.hid (GB.out.below hal)
  have HM := Lib.hid (HM.out.below hal)
  have tO := Lib.hid (tO.out.below hal)
  have HB := Lib.hid (below_then HB.out hal)
  have TB := Lib.hid (Blk.new ny3 #[.int .i64 Ra, .int .i64 Rm, .slice tA R.length tc] 25)
  clear hal
  have q0 := TB.out.cell 0
  have q1 := TB.out.cell 1
  have q2 := TB.out.cell 2
  have q3 := OB.out.cell 0
  have q4 := OB.out.cell 1
  have q5 := OB.out.cell 2
  have E1 := Lib.hid (own_bs9 tO.out)
  have E2 := Lib.hid (own_bs9 oO.out)
  go_wp2_with fail
  refine (eqEdit_any Ra Rm Ra Rm tA oA R R tc oc _ (by omega) (by exact E1.out) (by exact E2.out)).mono ?_
  rintro e h4 ⟨rfl, hb⟩
  rw [decide_eq_true (⟨rfl, rfl, rfl⟩ : Ra = Ra ∧ Rm = Rm ∧ R = R)]
  clear E1 E2 q0 q1 q2 q3 q4 q5
  have oO := Lib.hid (oO.out.below hb)
  have OB := Lib.hid (OB.out.below hb)
  have GB := Lib.hid (GB.out.below hb)
  have HM := Lib.hid (HM.out.below hb)
  have tO := Lib.hid (tO.out.below hb)
  have TB := Lib.hid (TB.out.below hb)
  have HB := Lib.hid (below_then HB.out hb)
  clear hb
  have q0 := GB.out.cell 0
  have q1 := GB.out.cell 1
  have q2 := GB.out.cell 2
  go_wp2_with fail
  refine (heldEdit_any Ra Rm gA R.length gc 1 _ (by omega) (by omega) (by exact HM.out)).mono ?_
  rintro e h5 ⟨rfl, hb⟩
  have GB := Lib.hid (GB.out.below hb)
  have HM := Lib.hid (HM.out.below hb)
  have HB := Lib.hid (below_then HB.out hb)
  clear hb q0 q1 q2
  go_wp2
  go_ret
  exact ⟨rfl, HB.out⟩

end Go.Proofs.YtepffgahgfipjaaDoor.fnExactEditOf
