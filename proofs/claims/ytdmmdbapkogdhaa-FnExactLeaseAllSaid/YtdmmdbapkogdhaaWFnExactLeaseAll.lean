/-
  FnExactLeaseAll, its walk. Own work.
-/
import Derived.Test.YtdmmdbapkogdhaaLaw0
import Derived.Test.YtdmmdbapkogdhaaC10
import Derived.Test.YtdmmdbapkogdhaaS10
import Derived.Test.YtdmmdbapkogdhaaS11
import Derived.Test.YtdmmdbapkogdhaaI12
import Derived.ProofKit
import Derived.OpenShut
import Derived.OpenVars
import Derived.ChangeOld
import Derived.Deep.DeepHandedRow
import Derived.Deep.RegionHeld3
import Derived.Deep.DeepCutAuto
namespace Go.Proofs.Ytdmmdbapkogdhaa.fnExactLeaseAll
open Go.ChangeShapes Go.WideShapes Go.ChangeAt Go.RowKit P
set_option linter.unusedVariables false
set_option maxRecDepth 100000

set_option maxHeartbeats 16000000 in
theorem walk (A0 : Option Addr) (l0 : List Le) (c0 : Nat) (hc0 : l0.length ≤ c0) (hm0 : c0 ≤ maxLen) (a1 : Int) (ha1 : -9223372036854775808 ≤ a1 ∧ a1 ≤ 9223372036854775807) (w : World) (hL0 : Ll w A0 l0) :
    Calls Try.prog 16 #[.slice A0 l0.length c0, .int .i64 a1] w fun e w' => e = .returned (.bool true) ∧ Below w.heap.size w w' := by
  have hn90 : l0.length ≤ 9223372036854775807 := by unfold maxLen at hm0; omega
  clear hc0 hm0
  have hb0 := (Below.refl w.heap.size w)
  obtain ⟨R, hRe⟩ : ∃ R, leAll l0 a1 = R := ⟨_, rfl⟩
  have hRl : R.length ≤ 1000000 := by rw [← hRe]; exact leAll_len l0 a1
  have HRE := Lib.hid hRe
  clear hRe
  go_enter Try.func16, Try.ntmps16
  have HB := Lib.hid hb0
  clear hb0
  have HL0 := Lib.hid (hL0.below HB.out)
  go_wp2_with fail
  refine (szLeaseS_b A0 l0 c0 1048576 _ hn90 (by omega) (by omega) (by exact HL0.out)).mono ?_
  rintro e s0 ⟨⟨r0, rfl, hr0⟩, hb1⟩
  have HB := Lib.hid (below_then HB.out hb1)
  clear hb1 HL0
  by_cases hneg0 : r0 < 0
  · go_wp2
    go_ret
    exact ⟨rfl, HB.out⟩
  have hl0 : l0.length ≤ 1048576 := by omega
  clear hr0
  have zA : w.heap.size ≤ s0.heap.size := HB.out.size
  have mL0 := Lib.hid (hL0.below HB.out)
  go_wp2_with fail
  refine (toLeaseS_any A0 l0 c0 _ hl0 (by exact mL0.out)).mono ?_; rintro e my1 hgv; obtain ⟨mA0, mc0, mf0, rfl, hoe, hb⟩ := gives_leases hgv; have hb : Below s0.heap.size s0 my1 := ⟨hb.os, hb.tape, hb.output, hb.size, hb.block⟩; have mL0 := Lib.hid (mL0.out.below hb); have mX0 := Lib.hid hoe.ll; have mD0 : True := trivial; have mHB1 := Lib.hid hb; clear hgv hoe hb
  go_wp2_with fail
  refine (specLeaseAll_any mA0 l0 mc0 a1 _ hl0 (by exact mX0.out)).mono ?_; rintro e my2 ⟨v, rfl, hown, hb⟩; rw [HRE.out] at hown; have hb : Below my1.heap.size my1 my2 := ⟨hb.os, hb.tape, hb.output, hb.size, hb.block⟩; have mHB2 := Lib.hid (below_then mHB1.out hb); obtain ⟨oA, oc, rfl, hOL⟩ := hown.owL; have oO := Lib.hid hOL; clear hown hb hOL
  have hb := mHB2.out
  have HB := Lib.hid (below_then HB.out hb)
  have zw0 := mHB1.out.size
  have zw : s0.heap.size ≤ my2.heap.size := mHB2.out.size
  have RW := Lib.hid oO.out.range
  clear hb mHB1 mHB2 mL0 mX0 mD0
  have HL0 := Lib.hid (hL0.below HB.out)
  go_wp2_with fail
  refine (toLeaseS_any A0 l0 c0 _ hl0 (by exact HL0.out)).mono ?_
  rintro e x0 hgv
  obtain ⟨xA0, xc0, xf0, rfl, hoe, hb⟩ := gives_leases hgv
  have z0 := hb.size
  have RX0 := Lib.hid hoe.range
  have oO := Lib.hid (oO.out.below hb)
  have HB := Lib.hid (below_then HB.out hb)
  have X0 := Lib.hid hoe
  clear hgv hoe hb HL0
  have pX0 := Lib.hid X0.out.ll
  go_wp2_with fail
  refine (implLeaseAll_any xA0 l0 xc0 a1 _ hl0 (by exact pX0.out)).mono ?_
  rintro e g ⟨v, rfl, hown, hb⟩
  rw [HRE.out] at hown
  obtain ⟨gA, gc, rfl, hOL⟩ := hown.owL
  have zg := hb.size
  have RG := Lib.hid hOL.range
  have oO := Lib.hid (oO.out.below hb)
  have X0 := Lib.hid (X0.out.below hb)
  have HB := Lib.hid (below_then HB.out hb)
  have G := Lib.hid hOL
  clear hown hOL
  clear hb  pX0
  have E1 := Lib.hid G.out.ll
  have E2 := Lib.hid oO.out.ll
  go_wp2_with fail
  refine (eqLeaseS_any _ _ R R _ _ _ (by omega) (by exact E1.out) (by exact E2.out)).mono ?_
  rintro e h1 ⟨rfl, hb⟩
  rw [decide_eq_true (rfl : R = R)]
  clear E1 E2
  have oO := Lib.hid (oO.out.below hb)
  have X0 := Lib.hid (X0.out.below hb)
  have G := Lib.hid (G.out.below hb)
  have HB := Lib.hid (below_then HB.out hb)
  clear hb
  have HL0 := Lib.hid (hL0.below HB.out)
  go_wp2_with fail
  refine (toLeaseS_any A0 l0 c0 _ hl0 (by exact HL0.out)).mono ?_
  rintro e u0 hgv
  obtain ⟨uA0, uc0, uf0, rfl, hoe, hb⟩ := gives_leases hgv
  have oO := Lib.hid (oO.out.below hb)
  have X0 := Lib.hid (X0.out.below hb)
  have G := Lib.hid (G.out.below hb)
  have HB := Lib.hid (below_then HB.out hb)
  have HU := Lib.hid hoe.ll
  have HV := Lib.hid X0.out.ll
  clear hgv hoe hb HL0
  go_wp2_with fail
  refine (eqLeaseS_any _ _ l0 l0 _ _ _ hn90 (by exact HV.out) (by exact HU.out)).mono ?_
  rintro e v0 ⟨rfl, hb⟩
  rw [decide_eq_true (rfl : l0 = l0)]
  clear HU HV
  have oO := Lib.hid (oO.out.below hb)
  have X0 := Lib.hid (X0.out.below hb)
  have G := Lib.hid (G.out.below hb)
  have HB := Lib.hid (below_then HB.out hb)
  clear hb
  go_wp2_with fail
  refine (markLeaseS_any _ _ l0 _ _ (1) _ (by omega) (by omega) (by exact X0.out)).mono ?_
  rintro e k0 ⟨rfl, _, hke⟩
  have oO := Lib.hid (oO.out.keeps hke (fun b hb h => by have h1 := RX0.out b h; have h2 := RW.out b hb; omega))
  have G := Lib.hid (G.out.keeps hke (fun b hb h => by have h1 := RX0.out b h; have h2 := RG.out b hb; omega))
  have HB := Lib.hid (HB.out.trans (hke.below (B := w.heap.size) HB.out.size (fun k hk => by have h1 := RX0.out k hk; omega)))
  have zk0 := hke.size
  clear hke X0
  obtain ⟨K, hK, hK0⟩ : ∃ K : Int, ((1 + 4 * l0.length : Nat) : Int) = K ∧ ¬ K < 0 := ⟨_, rfl, by omega⟩
  have hKd : decide (K < 0) = false := decide_eq_false hK0
  rw [hK]
  clear hK hK0
  have E1 := Lib.hid G.out.ll
  have E2 := Lib.hid oO.out.ll
  go_wp2_with fail
  refine (eqLeaseS_any _ _ R R _ _ _ (by omega) (by exact E1.out) (by exact E2.out)).mono ?_
  rintro e h2 ⟨rfl, hb⟩
  rw [decide_eq_true (rfl : R = R)]
  clear E1 E2
  have oO := Lib.hid (oO.out.below hb)
  have G := Lib.hid (G.out.below hb)
  have HB := Lib.hid (below_then HB.out hb)
  clear hb
  clear hKd
  go_wp2_with fail
  refine (markLeaseS_any _ _ R _ _ 1 _ (by omega) (by omega) (by exact G.out)).mono ?_
  rintro e kg ⟨rfl, hG, hke⟩
  have oO := Lib.hid (oO.out.keeps hke (fun b hb h => by have h1 := RG.out b h; have h2 := RW.out b hb; omega))
  have HB := Lib.hid (HB.out.trans (hke.below (B := w.heap.size) HB.out.size (fun k hk => by have h1 := RG.out k hk; omega)))
  have zkg := hke.size
  have HM := Lib.hid hG
  clear hG hke G
  go_wp2_with fail
  refine (heldLeaseS_any gA R.length gc 1 _ (by omega) (by omega) (by exact HM.out)).mono ?_
  rintro e h3 ⟨rfl, rfl⟩
  have nL0 := Lib.hid (hL0.below HB.out)
  go_wp2_with fail
  refine (toLeaseS_any A0 l0 c0 _ hl0 (by exact nL0.out)).mono ?_; rintro e ny1 hgv; obtain ⟨nA0, nc0, nf0, rfl, hoe, hb⟩ := gives_leases hgv; have hb : Below h3.heap.size h3 ny1 := ⟨hb.os, hb.tape, hb.output, hb.size, hb.block⟩; have nL0 := Lib.hid (nL0.out.below hb); have nX0 := Lib.hid hoe.ll; have nD0 : True := trivial; have nHB1 := Lib.hid hb; clear hgv hoe hb
  go_wp2_with fail
  refine (implLeaseAll_any nA0 l0 nc0 a1 _ hl0 (by exact nX0.out)).mono ?_; rintro e ny2 ⟨v, rfl, hown, hb⟩; rw [HRE.out] at hown; have hb : Below ny1.heap.size ny1 ny2 := ⟨hb.os, hb.tape, hb.output, hb.size, hb.block⟩; have nHB2 := Lib.hid (below_then nHB1.out hb); obtain ⟨tA, tc, rfl, hOL⟩ := hown.owL; have tO := Lib.hid hOL; clear hown hb hOL
  have hb := nHB2.out
  have oO := Lib.hid (oO.out.below hb)
  have HM := Lib.hid (HM.out.below hb)
  have HB := Lib.hid (below_then HB.out hb)
  clear hb nHB1 nHB2 nL0 nX0 nD0
  have E1 := Lib.hid tO.out.ll
  have E2 := Lib.hid oO.out.ll
  go_wp2_with fail
  refine (eqLeaseS_any _ _ R R _ _ _ (by omega) (by exact E1.out) (by exact E2.out)).mono ?_
  rintro e h4 ⟨rfl, hb⟩
  rw [decide_eq_true (rfl : R = R)]
  clear E1 E2
  have oO := Lib.hid (oO.out.below hb)
  have HM := Lib.hid (HM.out.below hb)
  have tO := Lib.hid (tO.out.below hb)
  have HB := Lib.hid (below_then HB.out hb)
  clear hb
  go_wp2_with fail
  refine (heldLeaseS_any gA R.length gc 1 _ (by omega) (by omega) (by exact HM.out)).mono ?_
  rintro e h5 ⟨rfl, rfl⟩
  go_wp2
  go_ret
  exact ⟨rfl, HB.out⟩

end Go.Proofs.Ytdmmdbapkogdhaa.fnExactLeaseAll
