/-
  FnExactAnswers, its walk. Own work.
-/
import Derived.Test.YtgpjjolgpppeeaaLaw0
import Derived.Test.YtgpjjolgpppeeaaC26
import Derived.Test.YtgpjjolgpppeeaaM05
import Derived.Test.YtgpjjolgpppeeaaOwnL
import Derived.ProofKit
import Derived.OpenShut
import Derived.OpenVars
import Derived.ChangeOld
import Derived.Deep.DeepHandedRow
import Derived.Deep.RegionHeld3
import Derived.Deep.DeepCutAuto
namespace Go.Proofs.Ytgpjjolgpppeeaa.fnExactAnswers
open Go.ChangeShapes Go.WideShapes Go.ChangeAt Go.RowKit P
set_option linter.unusedVariables false
set_option maxRecDepth 100000

theorem ansV_bt (os : List Ot) (n : Int) : sumB ebt (ansV os n) ≤ sumB obt os := by
  induction os with
  | nil => simp [ansV, sumB]
  | cons a t ih =>
    unfold ansV sumB at ih ⊢
    simp only [List.filter_cons, List.map_cons, List.sum_cons]
    have h9 : obt a = a.2.2.1.2.2.2.2.2.length + ebt a.2.2.2.2 := rfl
    split
    · simp only [List.map_cons, List.sum_cons]
      omega
    · omega
set_option maxHeartbeats 16000000 in
theorem walk (A0 : Option Addr) (os : List Ot) (c0 : Nat) (hc : os.length ≤ c0) (hm : c0 ≤ maxLen) (n : Int) (hn : -9223372036854775808 ≤ n ∧ n ≤ 9223372036854775807) (w : World) (hE : Ots w A0 os) :
    Calls Try.prog 3 #[.slice A0 os.length c0, .int .i64 n] w fun e w' => e = .returned (.bool true) ∧ Below w.heap.size w w' := by
  have hn9 : os.length ≤ 9223372036854775807 := by unfold maxLen at hm; omega
  clear hc hm hn
  go_enter Try.func3, Try.ntmps3
  go_wp2_with fail
  refine (szOutS_any A0 os c0 1048576 _ hn9 (by omega) (by omega) hE).mono ?_
  rintro e s1 ⟨⟨n1, rfl, hr⟩, hb⟩
  have HB := Lib.hid hb
  clear hb
  by_cases hneg : n1 < 0
  · go_wp2
    go_ret
    exact ⟨rfl, HB.out⟩
  have z0 := HB.out.size
  have hS : os.length + sumB obt os ≤ 1048576 := by omega
  have hRR : (ansE os n).length ≤ os.length ∧ (ansE os n).length ≤ 300 ∧ sumB ebt (ansE os n) ≤ sumB obt os := by
    unfold ansE
    split
    · have h9 := ansV_len os n
      exact ⟨h9, by omega, ansV_bt os n⟩
    · exact ⟨by simp, by simp, by simp [sumB]⟩
  obtain ⟨R, hRe⟩ : ∃ R, ansE os n = R := ⟨_, rfl⟩
  rw [hRe] at hRR
  have hR9 : R.length ≤ 9223372036854775807 := by omega
  have hR1 : R.length ≤ 1048576 := by omega
  have hR2 : sumB ebt R ≤ 1048576 := by omega
  have hRs : nR 1 R ≤ 1900000 := by
    have h1 : nR 1 R = 1 + 3 * R.length + (rputs R).flatten.length := rfl
    rw [h1, rputs_len]
    omega
  have HRE := Lib.hid hRe
  clear hr hRe hRR
  go_wp2_with fail
  refine (toOutS_any A0 os c0 _ hS (by exact hE.below HB.out)).mono ?_
  rintro e m1 hg
  obtain ⟨MA, Mc, Mf, rfl, hown, hb⟩ := gives_ownL hg
  have M := Lib.hid hown
  clear hown hg
  have z1 := hb.size
  have HB := Lib.hid (below_then HB.out hb)
  clear hb
  go_wp2_with fail
  refine (specAnswers_any MA os Mc n _ (by omega) (by exact M.out.sl.2.2)).mono ?_
  rintro e m2 hg
  rw [HRE.out] at hg
  obtain ⟨OA, Oc, Of, rfl, hown, hb⟩ := gives_ownL hg
  have O := Lib.hid hown
  clear hown hg
  have z2 := hb.size
  have M := Lib.hid (M.out.below hb)
  have HB := Lib.hid (below_then HB.out hb)
  clear hb
  clear M
  go_wp2_with fail
  refine (toOutS_any A0 os c0 _ hS (by exact hE.below HB.out)).mono ?_
  rintro e x1 hg
  obtain ⟨XA, Xc, Xf, rfl, hown, hb⟩ := gives_ownL hg
  have X := Lib.hid hown
  clear hown hg
  have z3 := hb.size
  have O := Lib.hid (O.out.below hb)
  have HB := Lib.hid (below_then HB.out hb)
  clear hb
  go_wp2_with fail
  refine (implAnswers_any XA os Xc n _ (by omega) (by exact X.out.sl.2.2)).mono ?_
  rintro e g1 hg
  rw [HRE.out] at hg
  obtain ⟨GA, Gc, Gf, rfl, hown, hb⟩ := gives_ownL hg
  have G := Lib.hid hown
  clear hown hg
  have z4 := hb.size
  have O := Lib.hid (O.out.below hb)
  have X := Lib.hid (X.out.below hb)
  have HB := Lib.hid (below_then HB.out hb)
  clear hb
  go_wp2_with fail
  refine (eqReplyS_same GA OA R Gc Oc _ hR9 (by exact G.out.sl.2.2) (by exact O.out.sl.2.2)).mono ?_
  rintro e v1 ⟨rfl, hb⟩
  have z5 := hb.size
  have O := Lib.hid (O.out.below hb)
  have X := Lib.hid (X.out.below hb)
  have G := Lib.hid (G.out.below hb)
  have HB := Lib.hid (below_then HB.out hb)
  clear hb
  go_wp2_with fail
  refine (toOutS_any A0 os c0 _ hS (by exact hE.below HB.out)).mono ?_
  rintro e u1 hg
  obtain ⟨UA, Uc, Uf, rfl, hown, hb⟩ := gives_ownL hg
  have U := Lib.hid hown
  clear hown hg
  have z6 := hb.size
  have O := Lib.hid (O.out.below hb)
  have X := Lib.hid (X.out.below hb)
  have G := Lib.hid (G.out.below hb)
  have HB := Lib.hid (below_then HB.out hb)
  clear hb
  go_wp2_with fail
  refine (eqOutS_same XA UA os Xc Uc _ (by omega) (by exact X.out.sl.2.2) (by exact U.out.sl.2.2)).mono ?_
  rintro e v2 ⟨rfl, hb⟩
  have z7 := hb.size
  have O := Lib.hid (O.out.below hb)
  have X := Lib.hid (X.out.below hb)
  have G := Lib.hid (G.out.below hb)
  have U := Lib.hid (U.out.below hb)
  have HB := Lib.hid (below_then HB.out hb)
  clear hb
  clear U
  go_wp2_with fail
  refine (markOutS_any XA Xc os Xf 1 _ (by omega) (by exact X.out.nd) (by exact X.out.ow)).mono ?_
  rintro e k1 ⟨rfl, hke⟩
  have RX := Lib.hid X.out.rg
  have RG := Lib.hid G.out.rg
  have RO := Lib.hid O.out.rg
  have G := Lib.hid (G.out.keeps hke (fun z hz hx => by have h1 := RX.out z hx; have h2 := RG.out z hz; omega))
  have O := Lib.hid (O.out.keeps hke (fun z hz hx => by have h1 := RX.out z hx; have h2 := RO.out z hz; omega))
  have HB := Lib.hid (HB.out.trans (hke.below (B := w.heap.size) HB.out.size (fun z hz => by have h1 := RX.out z hz; have h2 := z0; omega)))
  have zk1 := hke.size
  clear X hke
  obtain ⟨K, hK, hK0⟩ : ∃ K : Int, ((nOt 1 os : Nat) : Int) = K ∧ ¬ K < 0 := ⟨_, rfl, by omega⟩
  have hKd : decide (K < 0) = false := decide_eq_false hK0
  rw [hK]
  clear hK hK0
  go_wp2_with fail
  refine (eqReplyS_same GA OA R Gc Oc _ hR9 (by exact G.out.sl.2.2) (by exact O.out.sl.2.2)).mono ?_
  rintro e v3 ⟨rfl, hb⟩
  have z8 := hb.size
  have O := Lib.hid (O.out.below hb)
  have G := Lib.hid (G.out.below hb)
  have HB := Lib.hid (below_then HB.out hb)
  clear hb
  clear hKd
  obtain ⟨K2, hK2, hK20⟩ : ∃ K : Int, ((nR 1 R : Nat) : Int) = K ∧ ¬ K < 0 := ⟨_, rfl, by omega⟩
  have hKd2 : decide (K2 < 0) = false := decide_eq_false hK20
  have hKn2 : (K2 != K2) = false := by simp
  have HK2 := Lib.hid hK2
  clear hK2 hK20
  go_wp2_with fail
  refine (markReplyS_any GA Gc R Gf 1 _ (by exact Nat.le_trans hRs (by omega)) (by exact G.out.nd) (by exact G.out.ow)).mono ?_
  rintro e k2 ⟨rfl, how, hke⟩
  rw [HK2.out]
  have O := Lib.hid (O.out.keeps hke (fun z hz hx => by have h1 := RG.out z hx; have h2 := RO.out z hz; omega))
  have HB := Lib.hid (HB.out.trans (hke.below (B := w.heap.size) HB.out.size (fun z hz => by have h1 := RG.out z hz; have h2 := z0; omega)))
  have GM := Lib.hid (show ∀ W, Below k2.heap.size k2 W → Evs W GA (markedR 1 R) from fun W h => by
    obtain ⟨A', c', he, h1, h2, h3⟩ := Lay.rps_rd (Lay.rps.read (Lay.rps.owBelow how h))
    have h4 : GA = A' := by have h5 := he; simp at h5; exact h5.1
    rw [h4]; exact h3)
  have KB := Lib.hid (Below.refl k2.heap.size k2)
  have zk2 := hke.size
  clear hke how G
  go_wp2_with fail
  refine (heldReplyS_any GA R Gc 1 _ (by omega) (by exact GM.out _ KB.out)).mono ?_
  rintro e k3 ⟨rfl, hb⟩
  rw [HK2.out]
  have KB := Lib.hid (below_then KB.out hb)
  have z9 := hb.size
  have O := Lib.hid (O.out.below hb)
  have HB := Lib.hid (below_then HB.out hb)
  clear hb
  go_wp2_with fail
  refine (toOutS_any A0 os c0 _ hS (by exact hE.below HB.out)).mono ?_
  rintro e y1 hg
  obtain ⟨YA, Yc, Yf, rfl, hown, hb⟩ := gives_ownL hg
  have Y := Lib.hid hown
  clear hown hg
  have z10 := hb.size
  have O := Lib.hid (O.out.below hb)
  have HB := Lib.hid (below_then HB.out hb)
  have KB := Lib.hid (below_then KB.out hb)
  clear hb
  go_wp2_with fail
  refine (implAnswers_any YA os Yc n _ (by omega) (by exact Y.out.sl.2.2)).mono ?_
  rintro e h1 hg
  rw [HRE.out] at hg
  obtain ⟨HA, Hc, Hf, rfl, hown, hb⟩ := gives_ownL hg
  have H := Lib.hid hown
  clear hown hg
  have z11 := hb.size
  have O := Lib.hid (O.out.below hb)
  have Y := Lib.hid (Y.out.below hb)
  have HB := Lib.hid (below_then HB.out hb)
  have KB := Lib.hid (below_then KB.out hb)
  clear hb
  clear Y
  go_wp2_with fail
  refine (eqReplyS_same HA OA R Hc Oc _ hR9 (by exact H.out.sl.2.2) (by exact O.out.sl.2.2)).mono ?_
  rintro e v4 ⟨rfl, hb⟩
  have z12 := hb.size
  have O := Lib.hid (O.out.below hb)
  have H := Lib.hid (H.out.below hb)
  have HB := Lib.hid (below_then HB.out hb)
  have KB := Lib.hid (below_then KB.out hb)
  clear hb
  go_wp2_with fail
  refine (heldReplyS_any GA R Gc 1 _ (by omega) (by exact GM.out _ KB.out)).mono ?_
  rintro e k4 ⟨rfl, hb⟩
  rw [HK2.out]
  have KB := Lib.hid (below_then KB.out hb)
  have z13 := hb.size
  have O := Lib.hid (O.out.below hb)
  have H := Lib.hid (H.out.below hb)
  have HB := Lib.hid (below_then HB.out hb)
  clear hb
  go_wp2
  go_ret
  exact ⟨rfl, HB.out⟩

end Go.Proofs.Ytgpjjolgpppeeaa.fnExactAnswers
