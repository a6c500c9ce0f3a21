/-
  FnExactLeasesOk, its walk. Own work.
-/
import Derived.Test.YtdmmdbapkogdhaaLaw0
import Derived.Test.YtdmmdbapkogdhaaC09b
import Derived.Test.YtdmmdbapkogdhaaS10
import Derived.ProofKit
import Derived.OpenShut
import Derived.OpenVars
import Derived.ChangeOld
import Derived.Deep.DeepHandedRow
import Derived.Deep.RegionHeld3
import Derived.Deep.DeepCutAuto
namespace Go.Proofs.Ytdmmdbapkogdhaa.fnExactLeasesOk
open Go.ChangeShapes Go.WideShapes Go.ChangeAt Go.RowKit P
set_option linter.unusedVariables false
set_option maxRecDepth 100000

set_option maxHeartbeats 16000000 in
theorem walk (A0 : Option Addr) (l0 : List Le) (c0 : Nat) (hc0 : l0.length ≤ c0) (hm0 : c0 ≤ maxLen) (w : World) (hL0 : Ll w A0 l0) :
    Calls Try.prog 9 #[.slice A0 l0.length c0] w fun e w' => e = .returned (.bool true) ∧ Below w.heap.size w w' := by
  have hn90 : l0.length ≤ 9223372036854775807 := by unfold maxLen at hm0; omega
  clear hc0 hm0
  have hb0 := (Below.refl w.heap.size w)
  obtain ⟨z, hze⟩ : ∃ z, leOk l0 = z := ⟨_, rfl⟩
  have HZE := Lib.hid hze
  have hzz : (z != z) = false := by simp
  clear hze 
  go_enter Try.func9, Try.ntmps9
  have HB := Lib.hid hb0
  clear hb0
  have HL0 := Lib.hid (hL0.below HB.out)
  go_wp2_with fail
  refine (szLeaseS_b A0 l0 c0 1048576 _ hn90 (by omega) (by omega) (by exact HL0.out)).mono ?_
  rintro e s0 ⟨⟨r0, rfl, hr0⟩, hb1⟩
  have HB := Lib.hid (below_then HB.out hb1)
  clear hb1 HL0
  by_cases hneg0 : r0 < 0
  · go_wp2
    go_ret
    exact ⟨rfl, HB.out⟩
  have hl0 : l0.length ≤ 1048576 := by omega
  clear hr0
  have zA : w.heap.size ≤ s0.heap.size := HB.out.size
  have mL0 := Lib.hid (hL0.below HB.out)
  go_wp2_with fail
  refine (toLeaseS_any A0 l0 c0 _ hl0 (by exact mL0.out)).mono ?_; rintro e my1 hgv; obtain ⟨mA0, mc0, mf0, rfl, hoe, hb⟩ := gives_leases hgv; have hb : Below s0.heap.size s0 my1 := ⟨hb.os, hb.tape, hb.output, hb.size, hb.block⟩; have mL0 := Lib.hid (mL0.out.below hb); have mX0 := Lib.hid hoe.ll; have mD0 : True := trivial; have mHB1 := Lib.hid hb; clear hgv hoe hb
  go_wp2_with fail
  refine (specLeasesOk_any mA0 l0 mc0 _ hn90 (by exact mX0.out)).mono ?_; rintro e my2 ⟨rfl, hb⟩; rw [HZE.out]; have hb : Below my1.heap.size my1 my2 := ⟨hb.os, hb.tape, hb.output, hb.size, hb.block⟩; have mHB2 := Lib.hid (below_then mHB1.out hb); clear hb
  have hb := mHB2.out
  have HB := Lib.hid (below_then HB.out hb)
  clear hb mHB1 mHB2 mL0 mX0 mD0
  have HL0 := Lib.hid (hL0.below HB.out)
  go_wp2_with fail
  refine (toLeaseS_any A0 l0 c0 _ hl0 (by exact HL0.out)).mono ?_
  rintro e x0 hgv
  obtain ⟨xA0, xc0, xf0, rfl, hoe, hb⟩ := gives_leases hgv
  have z0 := hb.size
  have RX0 := Lib.hid hoe.range
  have HB := Lib.hid (below_then HB.out hb)
  have X0 := Lib.hid hoe
  clear hgv hoe hb HL0
  have pX0 := Lib.hid X0.out.ll
  go_wp2_with fail
  refine (implLeasesOk_any xA0 l0 xc0 _ hn90 (by exact pX0.out)).mono ?_
  rintro e g ⟨rfl, hb⟩
  rw [HZE.out]
  have X0 := Lib.hid (X0.out.below hb)
  have HB := Lib.hid (below_then HB.out hb)
  clear hb  pX0
  have HL0 := Lib.hid (hL0.below HB.out)
  go_wp2_with fail
  refine (toLeaseS_any A0 l0 c0 _ hl0 (by exact HL0.out)).mono ?_
  rintro e u0 hgv
  obtain ⟨uA0, uc0, uf0, rfl, hoe, hb⟩ := gives_leases hgv
  have X0 := Lib.hid (X0.out.below hb)
  have HB := Lib.hid (below_then HB.out hb)
  have HU := Lib.hid hoe.ll
  have HV := Lib.hid X0.out.ll
  clear hgv hoe hb HL0
  go_wp2_with fail
  refine (eqLeaseS_any _ _ l0 l0 _ _ _ hn90 (by exact HV.out) (by exact HU.out)).mono ?_
  rintro e v0 ⟨rfl, hb⟩
  rw [decide_eq_true (rfl : l0 = l0)]
  clear HU HV
  have X0 := Lib.hid (X0.out.below hb)
  have HB := Lib.hid (below_then HB.out hb)
  clear hb
  go_wp2
  go_ret
  exact ⟨rfl, HB.out⟩

end Go.Proofs.Ytdmmdbapkogdhaa.fnExactLeasesOk
