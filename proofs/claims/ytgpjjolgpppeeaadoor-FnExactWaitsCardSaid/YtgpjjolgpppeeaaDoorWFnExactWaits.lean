/-
  FnExactWaits, its walk. Own work.
-/
import Derived.Test.YtgpjjolgpppeeaaDoorLaw0
import Derived.Test.YtgpjjolgpppeeaaDoorM09
import Derived.Test.YtgpjjolgpppeeaaDoorM12
import Derived.Deep.RegionHeld3
import Derived.Deep.DeepCutAuto
namespace Go.Proofs.YtgpjjolgpppeeaaDoor.fnExactWaits
open Go.ChangeShapes Go.WideShapes Go.ChangeAt Go.RowKit P
set_option linter.unusedVariables false
set_option maxRecDepth 100000

set_option maxHeartbeats 16000000 in
theorem walk (A0 : Option Addr) (es : List Evt) (cE : Nat) (hcE : es.length ≤ cE) (hmE : cE ≤ maxLen) (B0 : Option Addr) (os : List Ot) (cO : Nat) (hcO : os.length ≤ cO) (hmO : cO ≤ maxLen) (n : Int) (hn : -9223372036854775808 ≤ n ∧ n ≤ 9223372036854775807) (w : World) (hE : Evs w A0 es) (hO : Ots w B0 os) (hT : Tab w) :
    Calls Tryd.prog 5 #[.slice A0 es.length cE, .slice B0 os.length cO, .int .i64 n] w fun e w' => e = .returned (.bool true) ∧ Below w.heap.size w w' := by
  have hE9 : es.length ≤ 9223372036854775807 := by unfold maxLen at hmE; omega
  have hO9 : os.length ≤ 9223372036854775807 := by unfold maxLen at hmO; omega
  clear hcE hmE hcO hmO
  go_enter Tryd.func5, Tryd.ntmps5
  go_wp2_with fail
  refine (szEventS_any A0 es cE 1048576 _ hE9 (by omega) (by omega) hE).mono ?_
  rintro e s1 ⟨⟨n1, rfl, hr⟩, hb⟩
  have HB := Lib.hid hb
  clear hb
  by_cases hneg : n1 < 0
  · go_wp2
    go_ret
    exact ⟨rfl, HB.out⟩
  have hr1 : 0 ≤ n1 ∧ n1 + es.length + sumB ebt es ≤ 1048576 := by
    rcases hr with h | h
    · omega
    · exact h
  have hn0 : 0 ≤ n1 := hr1.1
  have hn1 : n1 ≤ 1048576 := by omega
  clear hr
  go_wp2_with fail
  refine (szOutS_any B0 os cO n1 _ hO9 hn0 hn1 (by exact hO.below HB.out)).mono ?_
  rintro e s2 ⟨⟨n2, rfl, hr⟩, hb⟩
  have HB := Lib.hid (below_then HB.out hb)
  clear hb
  by_cases hneg2 : n2 < 0
  · go_wp2
    go_ret
    exact ⟨rfl, HB.out⟩
  have hSE : es.length + sumB ebt es ≤ 1048576 := by omega
  have hSO : os.length + sumB obt os ≤ 1048576 := by
    rcases hr with h | h
    · omega
    · omega
  clear hr hr1
  obtain ⟨zz, hzz⟩ : ∃ z, waitsV es os n = z := ⟨_, rfl⟩
  have HZZ := Lib.hid hzz
  have hnz : (zz != zz) = false := by simp
  clear hzz
  go_wp2_with fail
  refine (toEventS_any A0 es cE _ hSE (by exact hE.below HB.out)).mono ?_
  rintro e m1 hg
  obtain ⟨MA, Mc, Mf, rfl, hown, hb⟩ := gives_ownL hg
  have M := Lib.hid hown
  clear hown hg
  have z1 := hb.size
  have HB := Lib.hid (below_then HB.out hb)
  clear hb
  go_wp2_with fail
  refine (toOutS_any B0 os cO _ hSO (by exact hO.below HB.out)).mono ?_
  rintro e m2 hg
  obtain ⟨NA, Nc, Nf, rfl, hown, hb⟩ := gives_ownL hg
  have N := Lib.hid hown
  clear hown hg
  have z2 := hb.size
  have M := Lib.hid (M.out.below hb)
  have HB := Lib.hid (below_then HB.out hb)
  clear hb
  go_wp2_with fail
  refine (specWaits_any MA es Mc _ _ Mf NA os Nc n _ hSE hSO (by exact M.out) (by exact N.out.sl.2.2)).mono ?_
  rintro e m3 ⟨rfl, hb⟩
  rw [HZZ.out]
  have z3 := hb.size
  have M := Lib.hid (M.out.below hb)
  have N := Lib.hid (N.out.below hb)
  have HB := Lib.hid (below_then HB.out hb)
  clear hb
  clear M
  clear N
  go_wp2_with fail
  refine (toEventS_any A0 es cE _ hSE (by exact hE.below HB.out)).mono ?_
  rintro e x1 hg
  obtain ⟨XA, Xc, Xf, rfl, hown, hb⟩ := gives_ownL hg
  have X := Lib.hid hown
  clear hown hg
  have z4 := hb.size
  have HB := Lib.hid (below_then HB.out hb)
  clear hb
  go_wp2_with fail
  refine (toOutS_any B0 os cO _ hSO (by exact hO.below HB.out)).mono ?_
  rintro e x2 hg
  obtain ⟨YA, Yc, Yf, rfl, hown, hb⟩ := gives_ownL hg
  have Y := Lib.hid hown
  clear hown hg
  have z5 := hb.size
  have X := Lib.hid (X.out.below hb)
  have HB := Lib.hid (below_then HB.out hb)
  clear hb
  have HT := Lib.hid (hT.below HB.out)
  go_wp2_with fail
  refine (implWaits_any XA es Xc _ _ Xf YA os Yc n _ hSE hSO (by exact HT.out) (by exact X.out) (by exact Y.out.sl.2.2)).mono ?_
  rintro e g1 ⟨rfl, hb⟩
  rw [HZZ.out]
  have z6 := hb.size
  have X := Lib.hid (X.out.below hb)
  have Y := Lib.hid (Y.out.below hb)
  have HB := Lib.hid (below_then HB.out hb)
  clear hb
  clear HT
  go_wp2_with fail
  refine (toEventS_any A0 es cE _ hSE (by exact hE.below HB.out)).mono ?_
  rintro e u1 hg
  obtain ⟨UA, Uc, Uf, rfl, hown, hb⟩ := gives_ownL hg
  have U := Lib.hid hown
  clear hown hg
  have z7 := hb.size
  have X := Lib.hid (X.out.below hb)
  have Y := Lib.hid (Y.out.below hb)
  have HB := Lib.hid (below_then HB.out hb)
  clear hb
  go_wp2_with fail
  refine (eqEventS_same XA UA es Xc Uc _ (by omega) (by exact X.out.sl.2.2) (by exact U.out.sl.2.2)).mono ?_
  rintro e v1 ⟨rfl, hb⟩
  have z8 := hb.size
  have X := Lib.hid (X.out.below hb)
  have Y := Lib.hid (Y.out.below hb)
  have U := Lib.hid (U.out.below hb)
  have HB := Lib.hid (below_then HB.out hb)
  clear hb
  clear U
  clear X
  go_wp2_with fail
  refine (toOutS_any B0 os cO _ hSO (by exact hO.below HB.out)).mono ?_
  rintro e u2 hg
  obtain ⟨VA, Vc, Vf, rfl, hown, hb⟩ := gives_ownL hg
  have V := Lib.hid hown
  clear hown hg
  have z9 := hb.size
  have Y := Lib.hid (Y.out.below hb)
  have HB := Lib.hid (below_then HB.out hb)
  clear hb
  go_wp2_with fail
  refine (eqOutS_same YA VA os Yc Vc _ (by omega) (by exact Y.out.sl.2.2) (by exact V.out.sl.2.2)).mono ?_
  rintro e v2 ⟨rfl, hb⟩
  have z10 := hb.size
  have Y := Lib.hid (Y.out.below hb)
  have V := Lib.hid (V.out.below hb)
  have HB := Lib.hid (below_then HB.out hb)
  clear hb
  go_wp2
  go_ret
  exact ⟨rfl, HB.out⟩

end Go.Proofs.YtgpjjolgpppeeaaDoor.fnExactWaits
