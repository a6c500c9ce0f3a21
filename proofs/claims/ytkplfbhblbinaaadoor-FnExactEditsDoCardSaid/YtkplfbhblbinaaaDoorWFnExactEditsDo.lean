/-
  FnExactEditsDo, its walk. Own work.
-/
import Derived.Test.YtkplfbhblbinaaaDoorLaw
import Derived.Test.YtkplfbhblbinaaaDoorC07
import Derived.Test.YtkplfbhblbinaaaDoorCur11
import Derived.Deep.RegionHeld3
import Derived.Deep.DeepCutAuto
namespace Go.Proofs.YtkplfbhblbinaaaDoor.fnExactEditsDo
open Go.ChangeShapes Go.WideShapes Go.ChangeAt Go.RowKit P
set_option linter.unusedVariables false
set_option maxRecDepth 100000

set_option maxHeartbeats 16000000 in
theorem walk (A0 : Option Addr) (l0 : List UInt8) (c0 : Nat) (hc0 : l0.length ≤ c0) (hm0 : c0 ≤ maxLen) (A1 : Option Addr) (l1 : List Ed) (c1 : Nat) (hc1 : l1.length ≤ c1) (hm1 : c1 ≤ maxLen) (w : World) (hL0 : Bs w A0 l0) (hL1 : Es w A1 l1) (hT : Tab w) :
    Calls Tryd.prog 11 #[.slice A0 l0.length c0, .slice A1 l1.length c1] w fun e w' => e = .returned (.bool true) ∧ Below w.heap.size w w' := by
  have hn90 : l0.length ≤ 9223372036854775807 := by unfold maxLen at hm0; omega
  have hn91 : l1.length ≤ 9223372036854775807 := by unfold maxLen at hm1; omega
  clear hc0 hm0 hc1 hm1
  have hb0 := (Below.refl w.heap.size w)
  obtain ⟨R, hRe⟩ : ∃ R, edsText l0 l1 = R := ⟨_, rfl⟩
  have hRl : R.length ≤ 1000000 := by rw [← hRe]; exact Nat.le_trans (edsText_len l0 l1) (by decide)
  have HRE := Lib.hid hRe
  obtain ⟨z, hze⟩ : ∃ z, edsN l0 l1 = z := ⟨_, rfl⟩
  have HZE := Lib.hid hze
  have hzz : (z != z) = false := by simp
  clear hze hRe
  by_cases hbig0 : 1048576 < (l0.length : Int)
  · go_enter Tryd.func11, Tryd.ntmps11
    go_wp2
    go_ret
    exact ⟨rfl, hb0⟩
  have hl0 : l0.length ≤ 1048576 := by omega
  clear hbig0
  go_enter Tryd.func11, Tryd.ntmps11
  have HB := Lib.hid hb0
  clear hb0
  have HL1 := Lib.hid (hL1.below HB.out)
  go_wp2_with fail
  refine (szEditS_any A1 l1 c1 1048576 _ hn91 (by omega) (by omega) (by exact HL1.out)).mono ?_
  rintro e s1 ⟨⟨r1, rfl, hr1⟩, hb1⟩
  have HB := Lib.hid (below_then HB.out hb1)
  clear hb1 HL1
  by_cases hneg1 : r1 < 0
  · go_wp2
    go_ret
    exact ⟨rfl, HB.out⟩
  have hl1 : l1.length + tot (puts l1) ≤ 1048576 := by omega
  clear hr1
  have zA : w.heap.size ≤ s1.heap.size := HB.out.size
  have mL0 := Lib.hid (hL0.below HB.out)
  have mL1 := Lib.hid (hL1.below HB.out)
  go_wp2_with fail
  refine (toByteS_e A0 l0 c0 _ hl0 (by exact mL0.out)).mono ?_; rintro e my1 ⟨mg0, rfl, hrow, hb⟩; have hb : Below s1.heap.size s1 my1 := ⟨hb.os, hb.tape, hb.output, hb.size, hb.block⟩; have mL0 := Lib.hid (mL0.out.below hb); have mL1 := Lib.hid (mL1.out.below hb); have mX0 := Lib.hid hrow.bs; have mD0 := Lib.hid (Pl.some_ mg0 0 l0.length); have mHB1 := Lib.hid hb; clear hrow hb
  go_wp2_with fail
  refine (toEditS_any A1 l1 c1 _ hl1 (by exact mL1.out)).mono ?_; rintro e my2 hgv; obtain ⟨mA1, mc1, mf1, rfl, hoe, hb⟩ := gives_edits hgv; have hb : Below my1.heap.size my1 my2 := ⟨hb.os, hb.tape, hb.output, hb.size, hb.block⟩; have mX0 := Lib.hid (mX0.out.below hb); have mL0 := Lib.hid (mL0.out.below hb); have mL1 := Lib.hid (mL1.out.below hb); have mX1 := Lib.hid hoe.es; have mD1 : True := trivial; have mHB2 := Lib.hid (below_then mHB1.out hb); clear hgv hoe hb
  go_wp2_with fail
  refine (specEditsDo_any _ l0 l0.length mA1 l1 mc1 _ (Nat.le_refl _) hn90 hn91 (by exact mX0.out) (by exact mX1.out)).mono ?_; rintro e my3 ⟨v, rfl, hown, hb⟩; rw [HRE.out] at hown; rw [HZE.out]; have hb : Below my2.heap.size my2 my3 := ⟨hb.os, hb.tape, hb.output, hb.size, hb.block⟩; have mHB3 := Lib.hid (below_then mHB2.out hb); obtain ⟨oA, oc, rfl, ohc, ohk, _⟩ := hown.form; have oO := Lib.hid hown; clear hown hb
  have hb := mHB3.out
  have HB := Lib.hid (below_then HB.out hb)
  have zw0 := mHB2.out.size
  have zw : s1.heap.size ≤ my3.heap.size := mHB3.out.size
  have RW := Lib.hid oO.out.range
  clear hb mHB1 mHB2 mHB3 mL0 mX0 mD0 mL1 mX1 mD1
  have HL0 := Lib.hid (hL0.below HB.out)
  go_wp2_with fail
  refine (toByteS_any A0 l0 c0 _ hl0 (by exact HL0.out)).mono ?_
  rintro e x0 ⟨rfl, hrow, hb⟩
  have hx0 := hrow.own my3.heap.size (Nat.le_refl _) (by unfold maxLen; omega)
  have z0 := hb.size
  have oO := Lib.hid (oO.out.below hb)
  have HB := Lib.hid (below_then HB.out hb)
  have X0 := Lib.hid hx0
  have RX0 := Lib.hid hx0.range
  have DX0 := Pl.some_ my3.heap.size 0 l0.length
  clear hrow hb hx0 HL0
  have HL1 := Lib.hid (hL1.below HB.out)
  go_wp2_with fail
  refine (toEditS_any A1 l1 c1 _ hl1 (by exact HL1.out)).mono ?_
  rintro e x1 hgv
  obtain ⟨xA1, xc1, xf1, rfl, hoe, hb⟩ := gives_edits hgv
  have z1 := hb.size
  have RX1 := Lib.hid hoe.range
  have oO := Lib.hid (oO.out.below hb)
  have X0 := Lib.hid (X0.out.below hb)
  have HB := Lib.hid (below_then HB.out hb)
  have X1 := Lib.hid hoe
  clear hgv hoe hb HL1
  have pT := Lib.hid (hT.below HB.out)
  have pX0 := Lib.hid (own_bs9 X0.out)
  have pX1 := Lib.hid X1.out.es
  go_wp2_with fail
  refine (implEditsDo_any _ l0 l0.length xA1 l1 xc1 _ (Nat.le_refl _) hn90 hn91 (by exact pT.out) (by exact pX0.out) (by exact pX1.out)).mono ?_
  rintro e g ⟨v, rfl, hown, hb⟩
  rw [HRE.out] at hown
  rw [HZE.out]
  obtain ⟨gA, gc, rfl, _, _, _⟩ := hown.form
  have zg := hb.size
  have RG := Lib.hid hown.range
  have oO := Lib.hid (oO.out.below hb)
  have X0 := Lib.hid (X0.out.below hb)
  have X1 := Lib.hid (X1.out.below hb)
  have HB := Lib.hid (below_then HB.out hb)
  have G := Lib.hid hown
  clear hown
  clear hb pT  pX0 pX1
  have E1 := Lib.hid (own_bs9 G.out)
  have E2 := Lib.hid (own_bs9 oO.out)
  go_wp2_with fail
  refine (eqByteS_any _ _ R R _ _ _ (by omega) (by exact E1.out) (by exact E2.out)).mono ?_
  rintro e h1 ⟨rfl, nn, rfl⟩
  rw [decide_eq_true (rfl : R = R)]
  have hb := below_drewN (Below.refl g.heap.size g) nn
  clear E1 E2
  have oO := Lib.hid (oO.out.below hb)
  have X0 := Lib.hid (X0.out.below hb)
  have X1 := Lib.hid (X1.out.below hb)
  have G := Lib.hid (G.out.below hb)
  have HB := Lib.hid (below_then HB.out hb)
  generalize g.drewN nn = h1 at *
  clear hb
  have HL0 := Lib.hid (hL0.below HB.out)
  go_wp2_with fail
  refine (toByteS_any A0 l0 c0 _ hl0 (by exact HL0.out)).mono ?_
  rintro e u0 ⟨rfl, hrow, hb⟩
  have oO := Lib.hid (oO.out.below hb)
  have X0 := Lib.hid (X0.out.below hb)
  have X1 := Lib.hid (X1.out.below hb)
  have G := Lib.hid (G.out.below hb)
  have HB := Lib.hid (below_then HB.out hb)
  have HU := Lib.hid hrow.bs
  have HV := Lib.hid (own_bs9 X0.out)
  clear hrow hb HL0
  go_wp2_with fail
  refine (eqByteS_any _ _ l0 l0 _ _ _ hn90 (by exact HV.out) (by exact HU.out)).mono ?_
  rintro e v0 ⟨rfl, nn, rfl⟩
  rw [decide_eq_true (rfl : l0 = l0)]
  have hb := below_drewN (Below.refl u0.heap.size u0) nn
  clear HU HV
  have oO := Lib.hid (oO.out.below hb)
  have X0 := Lib.hid (X0.out.below hb)
  have X1 := Lib.hid (X1.out.below hb)
  have G := Lib.hid (G.out.below hb)
  have HB := Lib.hid (below_then HB.out hb)
  generalize u0.drewN nn = v0 at *
  clear hb
  have HL1 := Lib.hid (hL1.below HB.out)
  go_wp2_with fail
  refine (toEditS_any A1 l1 c1 _ hl1 (by exact HL1.out)).mono ?_
  rintro e u1 hgv
  obtain ⟨uA1, uc1, uf1, rfl, hoe, hb⟩ := gives_edits hgv
  have oO := Lib.hid (oO.out.below hb)
  have X0 := Lib.hid (X0.out.below hb)
  have X1 := Lib.hid (X1.out.below hb)
  have G := Lib.hid (G.out.below hb)
  have HB := Lib.hid (below_then HB.out hb)
  have HU := Lib.hid hoe.es
  have HV := Lib.hid X1.out.es
  clear hgv hoe hb HL1
  go_wp2_with fail
  refine (eqEditS_any _ _ l1 l1 _ _ _ hn91 (by exact HV.out) (by exact HU.out)).mono ?_
  rintro e v1 ⟨rfl, hb⟩
  rw [decide_eq_true (rfl : l1 = l1)]
  clear HU HV
  have oO := Lib.hid (oO.out.below hb)
  have X0 := Lib.hid (X0.out.below hb)
  have X1 := Lib.hid (X1.out.below hb)
  have G := Lib.hid (G.out.below hb)
  have HB := Lib.hid (below_then HB.out hb)
  clear hb
  go_wp2_with fail
  refine (markByteS_any _ l0 _ (1) _ (by omega) (by omega) (by exact X0.out)).mono ?_
  rintro e k0 ⟨rfl, _, hgr⟩
  have hke := Keeps.of_grown hgr
  have oO := Lib.hid (oO.out.keeps hke (fun b hb h => by have h1 := RX0.out b h; have h2 := RW.out b hb; omega))
  have X1 := Lib.hid (X1.out.keeps hke (fun b hb h => by have h1 := RX0.out b h; have h2 := RX1.out b hb; omega))
  have G := Lib.hid (G.out.keeps hke (fun b hb h => by have h1 := RX0.out b h; have h2 := RG.out b hb; omega))
  have HB := Lib.hid (HB.out.trans (hke.below (B := w.heap.size) HB.out.size (fun k hk => by have h1 := RX0.out k hk; omega)))
  have zk0 := hke.size
  clear hke hgr X0
  go_wp2_with fail
  refine (markEditS_any _ _ l1 _ (1 + l0.length) _ (by omega) (by omega) X1.out.nd (by exact X1.out.ow)).mono ?_
  rintro e k1 ⟨⟨n1, rfl, hn1⟩, hke⟩
  have oO := Lib.hid (oO.out.keeps hke (fun b hb h => by have h1 := RX1.out b h; have h2 := RW.out b hb; omega))
  have G := Lib.hid (G.out.keeps hke (fun b hb h => by have h1 := RX1.out b h; have h2 := RG.out b hb; omega))
  have HB := Lib.hid (HB.out.trans (hke.below (B := w.heap.size) HB.out.size (fun k hk => by have h1 := RX1.out k hk; omega)))
  have zk1 := hke.size
  clear hke X1
  obtain ⟨K, hK, hK0⟩ : ∃ K : Int, ((n1 : Nat) : Int) = K ∧ ¬ K < 0 := ⟨_, rfl, by omega⟩
  have hKd : decide (K < 0) = false := decide_eq_false hK0
  rw [hK]
  clear hK hK0
  have E1 := Lib.hid (own_bs9 G.out)
  have E2 := Lib.hid (own_bs9 oO.out)
  go_wp2_with fail
  refine (eqByteS_any _ _ R R _ _ _ (by omega) (by exact E1.out) (by exact E2.out)).mono ?_
  rintro e h2 ⟨rfl, nn, rfl⟩
  rw [decide_eq_true (rfl : R = R)]
  have hb := below_drewN (Below.refl k1.heap.size k1) nn
  clear E1 E2
  have oO := Lib.hid (oO.out.below hb)
  have G := Lib.hid (G.out.below hb)
  have HB := Lib.hid (below_then HB.out hb)
  generalize k1.drewN nn = h2 at *
  clear hb
  clear hKd
  go_wp2_with fail
  refine (markByteS_any _ R _ 1 _ (by omega) (by omega) (by exact G.out)).mono ?_
  rintro e kg ⟨rfl, hG, hgr⟩
  have hke := Keeps.of_grown hgr
  have oO := Lib.hid (oO.out.keeps hke (fun b hb h => by have h1 := RG.out b h; have h2 := RW.out b hb; omega))
  have HB := Lib.hid (HB.out.trans (hke.below (B := w.heap.size) HB.out.size (fun k hk => by have h1 := RG.out k hk; omega)))
  have zkg := hke.size
  have hM := own_bs9 hG
  have HM := Lib.hid hM
  clear hM hG hke hgr G
  go_wp2_with fail
  refine (heldByteS_any gA R.length gc 1 _ (by omega) (by omega) (by exact HM.out)).mono ?_
  rintro e h3 ⟨rfl, rfl⟩
  have nL0 := Lib.hid (hL0.below HB.out)
  have nL1 := Lib.hid (hL1.below HB.out)
  have nT := Lib.hid (hT.below HB.out)
  go_wp2_with fail
  refine (toByteS_e A0 l0 c0 _ hl0 (by exact nL0.out)).mono ?_; rintro e ny1 ⟨ng0, rfl, hrow, hb⟩; have hb : Below h3.heap.size h3 ny1 := ⟨hb.os, hb.tape, hb.output, hb.size, hb.block⟩; have nL0 := Lib.hid (nL0.out.below hb); have nL1 := Lib.hid (nL1.out.below hb); have nT := Lib.hid (nT.out.below hb); have nX0 := Lib.hid hrow.bs; have nD0 := Lib.hid (Pl.some_ ng0 0 l0.length); have nHB1 := Lib.hid hb; clear hrow hb
  go_wp2_with fail
  refine (toEditS_any A1 l1 c1 _ hl1 (by exact nL1.out)).mono ?_; rintro e ny2 hgv; obtain ⟨nA1, nc1, nf1, rfl, hoe, hb⟩ := gives_edits hgv; have hb : Below ny1.heap.size ny1 ny2 := ⟨hb.os, hb.tape, hb.output, hb.size, hb.block⟩; have nX0 := Lib.hid (nX0.out.below hb); have nL0 := Lib.hid (nL0.out.below hb); have nL1 := Lib.hid (nL1.out.below hb); have nT := Lib.hid (nT.out.below hb); have nX1 := Lib.hid hoe.es; have nD1 : True := trivial; have nHB2 := Lib.hid (below_then nHB1.out hb); clear hgv hoe hb
  go_wp2_with fail
  refine (implEditsDo_any _ l0 l0.length nA1 l1 nc1 _ (Nat.le_refl _) hn90 hn91 (by exact nT.out) (by exact nX0.out) (by exact nX1.out)).mono ?_; rintro e ny3 ⟨v, rfl, hown, hb⟩; rw [HRE.out] at hown; rw [HZE.out]; have hb : Below ny2.heap.size ny2 ny3 := ⟨hb.os, hb.tape, hb.output, hb.size, hb.block⟩; have nHB3 := Lib.hid (below_then nHB2.out hb); obtain ⟨tA, tc, rfl, thc, thk, _⟩ := hown.form; have tO := Lib.hid hown; clear hown hb
  have hb := nHB3.out
  have oO := Lib.hid (oO.out.below hb)
  have HM := Lib.hid (HM.out.below hb)
  have HB := Lib.hid (below_then HB.out hb)
  clear hb nHB1 nHB2 nHB3 nL0 nX0 nD0 nL1 nX1 nD1 nT
  have E1 := Lib.hid (own_bs9 tO.out)
  have E2 := Lib.hid (own_bs9 oO.out)
  go_wp2_with fail
  refine (eqByteS_any _ _ R R _ _ _ (by omega) (by exact E1.out) (by exact E2.out)).mono ?_
  rintro e h4 ⟨rfl, nn, rfl⟩
  rw [decide_eq_true (rfl : R = R)]
  have hb := below_drewN (Below.refl ny3.heap.size ny3) nn
  clear E1 E2
  have oO := Lib.hid (oO.out.below hb)
  have HM := Lib.hid (HM.out.below hb)
  have tO := Lib.hid (tO.out.below hb)
  have HB := Lib.hid (below_then HB.out hb)
  generalize ny3.drewN nn = h4 at *
  clear hb
  go_wp2_with fail
  refine (heldByteS_any gA R.length gc 1 _ (by omega) (by omega) (by exact HM.out)).mono ?_
  rintro e h5 ⟨rfl, rfl⟩
  go_wp2
  go_ret
  exact ⟨rfl, HB.out⟩

end Go.Proofs.YtkplfbhblbinaaaDoor.fnExactEditsDo
