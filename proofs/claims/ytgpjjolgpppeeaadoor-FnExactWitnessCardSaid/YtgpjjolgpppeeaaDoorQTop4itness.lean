/-
  Texts of one claim in one: WFnExactWitness. Own work.
-/
import Derived.Test.YtgpjjolgpppeeaaDoorLaw0
import Derived.Test.YtgpjjolgpppeeaaDoorQTop2itness
import Derived.Test.YtgpjjolgpppeeaaDoorQTop3itness
import Derived.Deep.RegionHeld3
import Derived.Deep.DeepCutAuto

/-
  FnExactWitness, its walk. Own work.
-/
namespace Go.Proofs.YtgpjjolgpppeeaaDoor.fnExactWitness
open Go.ChangeShapes Go.WideShapes Go.ChangeAt Go.RowKit P
set_option linter.unusedVariables false
set_option maxRecDepth 100000

theorem givesW_ownL {L : List At} {ok : Bool} {w : World} {e : Ending} {w' : World} (h : GivesW L ok w e w') : ∃ A c f, e = .returned (.tuple #[.slice A L.length c, .bool ok]) ∧ OwnL 31 Lay.actL w' w.heap.size w'.heap.size A L c f ∧ Below w.heap.size w w' := by
  obtain ⟨A, c, f, rfl, how, hnd, hlo, hb⟩ := h
  exact ⟨A, c, f, rfl, ⟨how, hnd, fun k hk => ⟨hlo k hk, (Lay.slice 31 Lay.actL).lt how k hk⟩⟩, hb⟩
set_option maxHeartbeats 16000000 in
theorem walk (A0 : Option Addr) (es : List Evt) (cE : Nat) (hcE : es.length ≤ cE) (hmE : cE ≤ maxLen) (B0 : Option Addr) (os : List Ot) (cO : Nat) (hcO : os.length ≤ cO) (hmO : cO ≤ maxLen) (w : World) (hE : Evs w A0 es) (hO : Ots w B0 os) (hT : Tab w) :
    Calls Tryd.prog 6 #[.slice A0 es.length cE, .slice B0 os.length cO] w fun e w' => e = .returned (.bool true) ∧ Below w.heap.size w w' := by
  have hE9 : es.length ≤ 9223372036854775807 := by unfold maxLen at hmE; omega
  have hO9 : os.length ≤ 9223372036854775807 := by unfold maxLen at hmO; omega
  clear hcE hmE hcO hmO
  go_enter Tryd.func6, Tryd.ntmps6
  go_wp2_with fail
  refine (szEventS_any A0 es cE 1048576 _ hE9 (by omega) (by omega) hE).mono ?_
  rintro e s1 ⟨⟨n1, rfl, hr⟩, hb⟩
  have HB := Lib.hid hb
  clear hb
  by_cases hneg : n1 < 0
  · go_wp2
    go_ret
    exact ⟨rfl, HB.out⟩
  have hr1 : 0 ≤ n1 ∧ n1 + es.length + sumB ebt es ≤ 1048576 := by
    rcases hr with h | h
    · omega
    · exact h
  have hn0 : 0 ≤ n1 := hr1.1
  have hn1 : n1 ≤ 1048576 := by omega
  clear hr
  go_wp2_with fail
  refine (szOutS_any B0 os cO n1 _ hO9 hn0 hn1 (by exact hO.below HB.out)).mono ?_
  rintro e s2 ⟨⟨n2, rfl, hr⟩, hb⟩
  have HB := Lib.hid (below_then HB.out hb)
  clear hb
  by_cases hneg2 : n2 < 0
  · go_wp2
    go_ret
    exact ⟨rfl, HB.out⟩
  have hSE : es.length + sumB ebt es ≤ 1048576 := by omega
  have hSO : os.length + sumB obt os ≤ 1048576 := by
    rcases hr with h | h
    · omega
    · omega
  clear hr hr1
  have z0 := HB.out.size
  have hsz := witV_size (es := es) (os := os)
  obtain ⟨R, hRe⟩ : ∃ R, witV es os = R := ⟨_, rfl⟩
  obtain ⟨ok9, hok9⟩ : ∃ z, witOk es os = z := ⟨_, rfl⟩
  rw [hRe] at hsz
  have HRE := Lib.hid hRe
  have HRK := Lib.hid hok9
  have hnz : (ok9 != ok9) = false := by simp
  have hR9 : R.length ≤ 9223372036854775807 := by omega
  have hRs : nA 1 R ≤ 1900000 := by unfold nA; omega
  have hME : 1 + 3 * es.length + rtot (rputs es) ≤ 8000000 := by unfold rtot; rw [rputs_len]; omega
  have hME2 : nR 1 es ≤ 8000000 := hME
  clear hRe hok9 hsz
  go_wp2_with fail
  refine (toEventS_any A0 es cE _ hSE (by exact hE.below HB.out)).mono ?_
  rintro e m1 hg
  obtain ⟨MA, Mc, Mf, rfl, hown, hb⟩ := gives_ownL hg
  have M := Lib.hid hown
  clear hown hg
  have z1 := hb.size
  have HB := Lib.hid (below_then HB.out hb)
  clear hb
  go_wp2_with fail
  refine (toOutS_any B0 os cO _ hSO (by exact hO.below HB.out)).mono ?_
  rintro e m2 hg
  obtain ⟨NA, Nc, Nf, rfl, hown, hb⟩ := gives_ownL hg
  have N := Lib.hid hown
  clear hown hg
  have z2 := hb.size
  have M := Lib.hid (M.out.below hb)
  have HB := Lib.hid (below_then HB.out hb)
  clear hb
  go_wp2_with fail
  refine (specWitness_any MA es Mc _ _ Mf NA os Nc _ hSE hSO (by exact M.out) (by exact N.out.sl.2.2)).mono ?_
  rintro e m3 hg
  rw [HRE.out, HRK.out] at hg
  obtain ⟨OA, Oc, Of, rfl, hown, hb⟩ := givesW_ownL hg
  have O := Lib.hid hown
  clear hown hg
  have z3 := hb.size
  have M := Lib.hid (M.out.below hb)
  have N := Lib.hid (N.out.below hb)
  have HB := Lib.hid (below_then HB.out hb)
  clear hb
  clear M
  clear N
  go_wp2_with fail
  refine (toEventS_any A0 es cE _ hSE (by exact hE.below HB.out)).mono ?_
  rintro e x1 hg
  obtain ⟨XA, Xc, Xf, rfl, hown, hb⟩ := gives_ownL hg
  have X := Lib.hid hown
  clear hown hg
  have z4 := hb.size
  have O := Lib.hid (O.out.below hb)
  have HB := Lib.hid (below_then HB.out hb)
  clear hb
  go_wp2_with fail
  refine (toOutS_any B0 os cO _ hSO (by exact hO.below HB.out)).mono ?_
  rintro e x2 hg
  obtain ⟨YA, Yc, Yf, rfl, hown, hb⟩ := gives_ownL hg
  have Y := Lib.hid hown
  clear hown hg
  have z5 := hb.size
  have O := Lib.hid (O.out.below hb)
  have X := Lib.hid (X.out.below hb)
  have HB := Lib.hid (below_then HB.out hb)
  clear hb
  have HT := Lib.hid (hT.below HB.out)
  go_wp2_with fail
  refine (implWitness_any XA es Xc _ _ Xf YA os Yc _ hSE hSO (by exact HT.out) (by exact X.out) (by exact Y.out.sl.2.2) Y.out.sl.1 Y.out.sl.2.1).mono ?_
  rintro e g1 hg
  rw [HRE.out, HRK.out] at hg
  obtain ⟨GA, Gc, Gf, rfl, hown, hb⟩ := givesW_ownL hg
  have G := Lib.hid hown
  clear hown hg
  have z6 := hb.size
  have O := Lib.hid (O.out.below hb)
  have X := Lib.hid (X.out.below hb)
  have Y := Lib.hid (Y.out.below hb)
  have HB := Lib.hid (below_then HB.out hb)
  clear hb
  clear HT
  go_wp2_with fail
  refine (eqActS_same GA OA R Gc Oc _ hR9 (by exact G.out.sl.2.2) (by exact O.out.sl.2.2)).mono ?_
  rintro e v0 ⟨rfl, hb⟩
  have z7 := hb.size
  have O := Lib.hid (O.out.below hb)
  have X := Lib.hid (X.out.below hb)
  have Y := Lib.hid (Y.out.below hb)
  have G := Lib.hid (G.out.below hb)
  have HB := Lib.hid (below_then HB.out hb)
  clear hb
  go_wp2_with fail
  refine (toEventS_any A0 es cE _ hSE (by exact hE.below HB.out)).mono ?_
  rintro e u1 hg
  obtain ⟨UA, Uc, Uf, rfl, hown, hb⟩ := gives_ownL hg
  have U := Lib.hid hown
  clear hown hg
  have z8 := hb.size
  have O := Lib.hid (O.out.below hb)
  have X := Lib.hid (X.out.below hb)
  have Y := Lib.hid (Y.out.below hb)
  have G := Lib.hid (G.out.below hb)
  have HB := Lib.hid (below_then HB.out hb)
  clear hb
  go_wp2_with fail
  refine (eqEventS_same XA UA es Xc Uc _ (by omega) (by exact X.out.sl.2.2) (by exact U.out.sl.2.2)).mono ?_
  rintro e v1 ⟨rfl, hb⟩
  have z9 := hb.size
  have O := Lib.hid (O.out.below hb)
  have X := Lib.hid (X.out.below hb)
  have Y := Lib.hid (Y.out.below hb)
  have G := Lib.hid (G.out.below hb)
  have U := Lib.hid (U.out.below hb)
  have HB := Lib.hid (below_then HB.out hb)
  clear hb
  clear U
  go_wp2_with fail
  refine (toOutS_any B0 os cO _ hSO (by exact hO.below HB.out)).mono ?_
  rintro e u2 hg
  obtain ⟨VA, Vc, Vf, rfl, hown, hb⟩ := gives_ownL hg
  have V := Lib.hid hown
  clear hown hg
  have z10 := hb.size
  have O := Lib.hid (O.out.below hb)
  have X := Lib.hid (X.out.below hb)
  have Y := Lib.hid (Y.out.below hb)
  have G := Lib.hid (G.out.below hb)
  have HB := Lib.hid (below_then HB.out hb)
  clear hb
  go_wp2_with fail
  refine (eqOutS_same YA VA os Yc Vc _ (by omega) (by exact Y.out.sl.2.2) (by exact V.out.sl.2.2)).mono ?_
  rintro e v2 ⟨rfl, hb⟩
  have z11 := hb.size
  have O := Lib.hid (O.out.below hb)
  have X := Lib.hid (X.out.below hb)
  have Y := Lib.hid (Y.out.below hb)
  have G := Lib.hid (G.out.below hb)
  have V := Lib.hid (V.out.below hb)
  have HB := Lib.hid (below_then HB.out hb)
  clear hb
  clear V
  have RX := Lib.hid X.out.rg
  have RY := Lib.hid Y.out.rg
  have RG := Lib.hid G.out.rg
  have RO := Lib.hid O.out.rg
  go_wp2_with fail
  refine (markEventS_any XA Xc es Xf 1 _ hME (by exact X.out.nd) (by exact X.out.ow)).mono ?_
  rintro e k1 ⟨rfl, _, hke⟩
  have Y := Lib.hid (Y.out.keeps hke (fun z hz hx => by have h1 := RX.out z hx; have h2 := RY.out z hz; omega))
  have G := Lib.hid (G.out.keeps hke (fun z hz hx => by have h1 := RX.out z hx; have h2 := RG.out z hz; omega))
  have O := Lib.hid (O.out.keeps hke (fun z hz hx => by have h1 := RX.out z hx; have h2 := RO.out z hz; omega))
  have HB := Lib.hid (HB.out.trans (hke.below (B := w.heap.size) HB.out.size (fun z hz => by have h1 := RX.out z hz; have h2 := z0; omega)))
  have z12 := hke.size
  clear hke
  clear X
  obtain ⟨q9, hq9⟩ : ∃ z, nR 1 es = z := ⟨_, rfl⟩
  rw [hq9] at hME2 ⊢
  clear hq9
  go_wp2_with fail
  refine (markOutS_any YA Yc os Yf q9 _ (by omega) (by exact Y.out.nd) (by exact Y.out.ow)).mono ?_
  rintro e k2 ⟨rfl, hke⟩
  have G := Lib.hid (G.out.keeps hke (fun z hz hx => by have h1 := RY.out z hx; have h2 := RG.out z hz; omega))
  have O := Lib.hid (O.out.keeps hke (fun z hz hx => by have h1 := RY.out z hx; have h2 := RO.out z hz; omega))
  have HB := Lib.hid (HB.out.trans (hke.below (B := w.heap.size) HB.out.size (fun z hz => by have h1 := RY.out z hz; have h2 := z0; omega)))
  have z13 := hke.size
  clear hke
  clear Y
  obtain ⟨K, hK, hK0⟩ : ∃ K : Int, ((nOt q9 os : Nat) : Int) = K ∧ ¬ K < 0 := ⟨_, rfl, by omega⟩
  have hKd : decide (K < 0) = false := decide_eq_false hK0
  rw [hK]
  clear hK hK0
  go_wp2_with fail
  refine (eqActS_same GA OA R Gc Oc _ hR9 (by exact G.out.sl.2.2) (by exact O.out.sl.2.2)).mono ?_
  rintro e v3 ⟨rfl, hb⟩
  have z14 := hb.size
  have O := Lib.hid (O.out.below hb)
  have G := Lib.hid (G.out.below hb)
  have HB := Lib.hid (below_then HB.out hb)
  clear hb
  clear hKd
  obtain ⟨K2, hK2, hK20⟩ : ∃ K : Int, ((nA 1 R : Nat) : Int) = K ∧ ¬ K < 0 := ⟨_, rfl, by omega⟩
  have hK2d : decide (K2 < 0) = false := decide_eq_false hK20
  have hKn2 : (K2 != K2) = false := by simp
  have HK2 := Lib.hid hK2
  clear hK2 hK20
  go_wp2_with fail
  refine (markActS_any GA Gc R Gf 1 _ (by exact Nat.le_trans hRs (by omega)) (by exact G.out.nd) (by exact G.out.ow)).mono ?_
  rintro e k3 ⟨rfl, how, hke⟩
  rw [HK2.out]
  have O := Lib.hid (O.out.keeps hke (fun z hz hx => by have h1 := RG.out z hx; have h2 := RO.out z hz; omega))
  have HB := Lib.hid (HB.out.trans (hke.below (B := w.heap.size) HB.out.size (fun z hz => by have h1 := RG.out z hz; have h2 := z0; omega)))
  have z15 := hke.size
  clear hke
  have GM := Lib.hid (show ∀ W, Below k3.heap.size k3 W → Acs W GA (markedA 1 R) from fun W h => by
    obtain ⟨A', c', he, h1, h2, h3⟩ := Lay.acts_rd (Lay.acts.read (Lay.acts.owBelow how h))
    have h4 : GA = A' := by have h5 := he; simp at h5; exact h5.1
    rw [h4]; exact h3)
  have KB := Lib.hid (Below.refl k3.heap.size k3)
  clear how G
  go_wp2_with fail
  refine (heldActS_any GA R Gc 1 _ (by omega) (by exact GM.out _ KB.out)).mono ?_
  rintro e k4 ⟨rfl, hb⟩
  rw [HK2.out]
  have z16 := hb.size
  have O := Lib.hid (O.out.below hb)
  have HB := Lib.hid (below_then HB.out hb)
  have KB := Lib.hid (below_then KB.out hb)
  clear hb
  go_wp2_with fail
  refine (toEventS_any A0 es cE _ hSE (by exact hE.below HB.out)).mono ?_
  rintro e p1 hg
  obtain ⟨PA, Pc, Pf, rfl, hown, hb⟩ := gives_ownL hg
  have P := Lib.hid hown
  clear hown hg
  have z17 := hb.size
  have O := Lib.hid (O.out.below hb)
  have HB := Lib.hid (below_then HB.out hb)
  have KB := Lib.hid (below_then KB.out hb)
  clear hb
  go_wp2_with fail
  refine (toOutS_any B0 os cO _ hSO (by exact hO.below HB.out)).mono ?_
  rintro e p2 hg
  obtain ⟨QA, Qc, Qf, rfl, hown, hb⟩ := gives_ownL hg
  have Q := Lib.hid hown
  clear hown hg
  have z18 := hb.size
  have O := Lib.hid (O.out.below hb)
  have P := Lib.hid (P.out.below hb)
  have HB := Lib.hid (below_then HB.out hb)
  have KB := Lib.hid (below_then KB.out hb)
  clear hb
  have HT := Lib.hid (hT.below HB.out)
  go_wp2_with fail
  refine (implWitness_any PA es Pc _ _ Pf QA os Qc _ hSE hSO (by exact HT.out) (by exact P.out) (by exact Q.out.sl.2.2) Q.out.sl.1 Q.out.sl.2.1).mono ?_
  rintro e h1 hg
  rw [HRE.out, HRK.out] at hg
  obtain ⟨HA, Hc, Hf, rfl, hown, hb⟩ := givesW_ownL hg
  have H := Lib.hid hown
  clear hown hg
  have z19 := hb.size
  have O := Lib.hid (O.out.below hb)
  have P := Lib.hid (P.out.below hb)
  have Q := Lib.hid (Q.out.below hb)
  have HB := Lib.hid (below_then HB.out hb)
  have KB := Lib.hid (below_then KB.out hb)
  clear hb
  clear HT
  clear P
  clear Q
  go_wp2_with fail
  refine (eqActS_same HA OA R Hc Oc _ hR9 (by exact H.out.sl.2.2) (by exact O.out.sl.2.2)).mono ?_
  rintro e v4 ⟨rfl, hb⟩
  have z20 := hb.size
  have O := Lib.hid (O.out.below hb)
  have H := Lib.hid (H.out.below hb)
  have HB := Lib.hid (below_then HB.out hb)
  have KB := Lib.hid (below_then KB.out hb)
  clear hb
  go_wp2_with fail
  refine (heldActS_any GA R Gc 1 _ (by omega) (by exact GM.out _ KB.out)).mono ?_
  rintro e k5 ⟨rfl, hb⟩
  rw [HK2.out]
  have z21 := hb.size
  have O := Lib.hid (O.out.below hb)
  have H := Lib.hid (H.out.below hb)
  have HB := Lib.hid (below_then HB.out hb)
  have KB := Lib.hid (below_then KB.out hb)
  clear hb
  go_wp2
  go_ret
  exact ⟨rfl, HB.out⟩

end Go.Proofs.YtgpjjolgpppeeaaDoor.fnExactWitness
