/-
  FnExactReqBytes, its walk. Own work.
-/
import Derived.Test.YtdmmdbapkogdhaaDoorC13
import Derived.Test.YtdmmdbapkogdhaaDoorC05
import Derived.Test.YtdmmdbapkogdhaaDoorEB
import Derived.Test.YtdmmdbapkogdhaaDoorN07
import Derived.Test.YtdmmdbapkogdhaaDoorN10
import Derived.Deep.RegionHeld3
import Derived.Deep.DeepCutAuto
namespace Go.Proofs.YtdmmdbapkogdhaaDoor.fnExactReqBytes
open Go.ChangeShapes Go.WideShapes Go.ChangeAt Go.RowKit P
set_option linter.unusedVariables false
set_option maxRecDepth 100000

theorem rqBytes_len (x s p q r : Int) (l : List UInt8) : (rqBytes x s p q r l).length ≤ 109 := by
  unfold rqBytes
  split
  · rename_i h
    have := rqOk_len h
    unfold rqEnc
    simp [w2_len]; omega
  · simp
set_option maxHeartbeats 16000000 in
theorem walk (x s p q r : Int) (A : Option Addr) (l : List UInt8) (c : Nat) (hc : l.length ≤ c) (hm : c ≤ maxLen) (w : World) (hL : Bs w A l) (hT : Tab w) :
    Calls Tryd.prog 5 #[.agg #[.int .i64 x, .int .i64 s, .int .i64 p, .int .i64 q, .int .i64 r, .slice A l.length c]] w fun e w' => e = .returned (.bool true) ∧ Below w.heap.size w w' := by
  have hn9 : l.length ≤ 9223372036854775807 := by unfold maxLen at hm; omega
  clear hc hm
  have hb0 := bsk13 w (.cells #[.int .i64 x, .int .i64 s, .int .i64 p, .int .i64 q, .int .i64 r, .slice A l.length c] 41)
  have BA := Lib.hid (Blk.new w #[.int .i64 x, .int .i64 s, .int .i64 p, .int .i64 q, .int .i64 r, .slice A l.length c] 41)
  obtain ⟨R, hRe⟩ : ∃ R, rqBytes x s p q r l = R := ⟨_, rfl⟩
  have hRl : R.length ≤ 1000 := by rw [← hRe]; exact by have h := rqBytes_len x s p q r l; omega
  have HRE := Lib.hid hRe
  clear hRe
  go_enter Tryd.func5, Tryd.ntmps5
  go_wp2_with fail
  generalize w.alloc (.cells #[.int .i64 x, .int .i64 s, .int .i64 p, .int .i64 q, .int .i64 r, .slice A l.length c] 41) = W0 at *
  have HB := Lib.hid hb0
  clear hb0
  refine (szReq_any x s p q r A l.length c 1048576 _ hn9 (by omega) (by omega)).mono ?_
  rintro e s1 ⟨⟨n1, rfl, hr⟩, hb⟩
  have z1 := hb.size
  have BA := Lib.hid (BA.out.below hb)
  have HB := Lib.hid (below_then HB.out hb)
  clear hb
  by_cases hneg : n1 < 0
  · go_wp2
    go_ret
    exact ⟨rfl, HB.out⟩
  have hl : l.length ≤ 1048576 := by omega
  clear hr
  have zA : w.heap.size < s1.heap.size := BA.out.lt
  have hR9 : R.length ≤ 9223372036854775807 := by omega
  have q0 := BA.out.cell 0
  have q1 := BA.out.cell 1
  have q2 := BA.out.cell 2
  have q3 := BA.out.cell 3
  have q4 := BA.out.cell 4
  have q5 := BA.out.cell 5
  have HL := Lib.hid (hL.below HB.out)
  go_wp2_with fail
  refine (toReq_any x s p q r A l c _ hl (by exact HL.out)).mono ?_
  rintro e m1 ⟨v, rfl, hown, hb⟩
  obtain ⟨MA, Mc, rfl, Mh, Mk, _, _, _⟩ := own_plain9 hown
  have RM := Lib.hid hown.range
  have z2 := hb.size
  have BA := Lib.hid (BA.out.below hb)
  have HB := Lib.hid (below_then HB.out hb)
  have M := Lib.hid hown
  clear hown HL
  clear hb
  clear q0 q1 q2 q3 q4 q5
  go_wp2_with fail
  refine (specReqBytes_any x s p q r MA l Mc _ Mh Mk (by exact own_bs9 M.out)).mono ?_
  rintro e m2 ⟨v, rfl, hown, hb⟩
  rw [HRE.out] at hown
  obtain ⟨OA, Oc, rfl, Oh, Ok, _, _, _⟩ := own_plain9 hown
  have RO := Lib.hid hown.range
  have z3 := hb.size
  have BA := Lib.hid (BA.out.below hb)
  have M := Lib.hid (M.out.below hb)
  have HB := Lib.hid (below_then HB.out hb)
  have O := Lib.hid (hown.below (Below.refl _ _))
  clear hown
  clear hb
  clear M
  have q0 := BA.out.cell 0
  have q1 := BA.out.cell 1
  have q2 := BA.out.cell 2
  have q3 := BA.out.cell 3
  have q4 := BA.out.cell 4
  have q5 := BA.out.cell 5
  have HL := Lib.hid (hL.below HB.out)
  go_wp2_with fail
  refine (toReq_any x s p q r A l c _ hl (by exact HL.out)).mono ?_
  rintro e x1 ⟨v, rfl, hown, hb⟩
  obtain ⟨XA, Xc, rfl, Xh, Xk, _, _, _⟩ := own_plain9 hown
  have RX := Lib.hid hown.range
  have z4 := hb.size
  have BA := Lib.hid (BA.out.below hb)
  have O := Lib.hid (O.out.below hb)
  have HB := Lib.hid (below_then HB.out hb)
  have X := Lib.hid hown
  clear hown HL
  clear hb
  clear q0 q1 q2 q3 q4 q5
  have hal := (Below.refl x1.heap.size x1).alloc (Nat.le_refl _) (.cells #[.int .i64 x, .int .i64 s, .int .i64 p, .int .i64 q, .int .i64 r, .slice XA l.length Xc] 25)
  have hbx := Blk.new x1 #[.int .i64 x, .int .i64 s, .int .i64 p, .int .i64 q, .int .i64 r, .slice XA l.length Xc] 25
  have zbXB : x1.heap.size < (x1.alloc (.cells #[.int .i64 x, .int .i64 s, .int .i64 p, .int .i64 q, .int .i64 r, .slice XA l.length Xc] 25)).heap.size := by simp
  have BA := Lib.hid (BA.out.below hal)
  have O := Lib.hid (O.out.below hal)
  have X := Lib.hid (X.out.below hal)
  have HB := Lib.hid (below_then HB.out hal)
  have z5 := hal.size
  have XB := Lib.hid hbx
  clear hbx hal
  have q0 := XB.out.cell 0
  have q1 := XB.out.cell 1
  have q2 := XB.out.cell 2
  have q3 := XB.out.cell 3
  have q4 := XB.out.cell 4
  have q5 := XB.out.cell 5
  have HT := Lib.hid (hT.below HB.out)
  have HX := Lib.hid (own_bs9 X.out)
  go_wp2_with fail
  generalize x1.alloc (.cells #[.int .i64 x, .int .i64 s, .int .i64 p, .int .i64 q, .int .i64 r, .slice XA l.length Xc] 25) = xw at *
  refine (implReqBytes_any x s p q r XA l Xc _ Xh Xk (by exact HT.out) (by exact HX.out)).mono ?_
  rintro e g1 ⟨v, rfl, hown, hb⟩
  rw [HRE.out] at hown
  obtain ⟨GA, Gc, rfl, Gh, Gk, _, _, _⟩ := own_plain9 hown
  have RG := Lib.hid hown.range
  have z6 := hb.size
  have BA := Lib.hid (BA.out.below hb)
  have O := Lib.hid (O.out.below hb)
  have X := Lib.hid (X.out.below hb)
  have XB := Lib.hid (XB.out.below hb)
  have HB := Lib.hid (below_then HB.out hb)
  have G := Lib.hid (hown.below (Below.refl _ _))
  clear hown
  clear hb
  clear q0 q1 q2 q3 q4 q5
  clear HX HT
  go_wp2_with fail
  refine (eqByteS_any GA OA R R Gc Oc _ hR9 (by exact own_bs9 G.out) (by exact own_bs9 O.out)).mono ?_
  rintro e v ⟨rfl, nn, rfl⟩
  rw [decide_eq_true (rfl : R = R)]
  have hb := below_drewN (Below.refl g1.heap.size g1) nn
  have z7 := hb.size
  have BA := Lib.hid (BA.out.below hb)
  have O := Lib.hid (O.out.below hb)
  have X := Lib.hid (X.out.below hb)
  have XB := Lib.hid (XB.out.below hb)
  have G := Lib.hid (G.out.below hb)
  have HB := Lib.hid (below_then HB.out hb)
  clear hb
  generalize g1.drewN nn = v0 at *
  have HL := Lib.hid (hL.below HB.out)
  have HV := Lib.hid (own_bs9 X.out)
  have a0 := BA.out.cell 0
  have a1 := BA.out.cell 1
  have a2 := BA.out.cell 2
  have a3 := BA.out.cell 3
  have a4 := BA.out.cell 4
  have a5 := BA.out.cell 5
  have b0 := XB.out.cell 0
  have b1 := XB.out.cell 1
  have b2 := XB.out.cell 2
  have b3 := XB.out.cell 3
  have b4 := XB.out.cell 4
  have b5 := XB.out.cell 5
  have la := BA.out.lt
  have lb := XB.out.lt
  go_wp2_with fail
  refine wp_region_held_drew (S := (fun V => V.cell? ⟨w.heap.size, 0, none⟩ = some (.int .i64 x) ∧ V.cell? ⟨w.heap.size, 1, none⟩ = some (.int .i64 s) ∧ V.cell? ⟨w.heap.size, 2, none⟩ = some (.int .i64 p) ∧ V.cell? ⟨w.heap.size, 3, none⟩ = some (.int .i64 q) ∧ V.cell? ⟨w.heap.size, 4, none⟩ = some (.int .i64 r) ∧ V.cell? ⟨w.heap.size, 5, none⟩ = some (.slice A l.length c) ∧ V.cell? ⟨x1.heap.size, 0, none⟩ = some (.int .i64 x) ∧ V.cell? ⟨x1.heap.size, 1, none⟩ = some (.int .i64 s) ∧ V.cell? ⟨x1.heap.size, 2, none⟩ = some (.int .i64 p) ∧ V.cell? ⟨x1.heap.size, 3, none⟩ = some (.int .i64 q) ∧ V.cell? ⟨x1.heap.size, 4, none⟩ = some (.int .i64 r) ∧ V.cell? ⟨x1.heap.size, 5, none⟩ = some (.slice XA l.length Xc))) (by kernel_rfl) (by exact ⟨a0, a1, a2, a3, a4, a5, b0, b1, b2, b3, b4, b5⟩) (fun hHeld => ?_)
  refine wpAnyH_take (i := 0) (oi := ?_) (v := ?_) ?_ ?_ ?_ ?_ ?_ ?_ (by exact hHeld) ?_
  rotate_left 2
  · (simp only [List.getElem?_toArray, List.getElem?_cons_zero]; try rfl)
  · kernel_rfl
  · kernel_rfl
  · kernel_rfl
  · exact fun _ _ _ h => h
  · refine Or.inl ⟨by rfl, ?_⟩
    (intro V hSV; (try dsimp only at hSV); obtain ⟨q0, q1, q2, q3, q4, q5, q6, q7, q8, q9, q10, q11⟩ := hSV; go_simp; try with_reducible rfl)
  (try simp only [Act.put, List.setIfInBounds_toArray, List.set_cons_zero, List.set_cons_succ])
  refine wpAnyH_take (i := 1) (oi := ?_) (v := ?_) ?_ ?_ ?_ ?_ ?_ ?_ (by exact hHeld) ?_
  rotate_left 2
  · (simp only [List.getElem?_toArray, List.getElem?_cons_zero, List.getElem?_cons_succ]; try rfl)
  · kernel_rfl
  · kernel_rfl
  · kernel_rfl
  · exact fun _ _ _ h => h
  · refine Or.inl ⟨by rfl, ?_⟩
    (intro V hSV; (try dsimp only at hSV); obtain ⟨q0, q1, q2, q3, q4, q5, q6, q7, q8, q9, q10, q11⟩ := hSV; go_simp; try with_reducible rfl)
  (try simp only [Act.put, List.setIfInBounds_toArray, List.set_cons_zero, List.set_cons_succ])
  refine wpAnyH_ready (rs := [2]) (by kernel_rfl) (by simp) ?_
  refine AllReadyH.cons rfl (fun K hK => ?_) AllReadyH.nil
  go_simp
  refine (toReq_any x s p q r A l c _ hl (by exact HL.out)).mono ?_
  rintro e u1 ⟨v, rfl, hown, hb⟩
  obtain ⟨uA, uc, rfl, _, _, _, _, _⟩ := own_plain9 hown
  have hb : Below v0.heap.size v0 u1 := ⟨hb.os, hb.tape, hb.output, hb.size, hb.block⟩
  have HU := Lib.hid (own_bs9 hown)
  have HV := Lib.hid (HV.out.below hb)
  have HB1 := Lib.hid hb
  clear hown hb
  go_wp2_with fail
  refine hK.out _ _ (by exact ⟨((HB1.out).cell (p := ⟨w.heap.size, 0, none⟩) la).trans a0, ((HB1.out).cell (p := ⟨w.heap.size, 1, none⟩) la).trans a1, ((HB1.out).cell (p := ⟨w.heap.size, 2, none⟩) la).trans a2, ((HB1.out).cell (p := ⟨w.heap.size, 3, none⟩) la).trans a3, ((HB1.out).cell (p := ⟨w.heap.size, 4, none⟩) la).trans a4, ((HB1.out).cell (p := ⟨w.heap.size, 5, none⟩) la).trans a5, ((HB1.out).cell (p := ⟨x1.heap.size, 0, none⟩) lb).trans b0, ((HB1.out).cell (p := ⟨x1.heap.size, 1, none⟩) lb).trans b1, ((HB1.out).cell (p := ⟨x1.heap.size, 2, none⟩) lb).trans b2, ((HB1.out).cell (p := ⟨x1.heap.size, 3, none⟩) lb).trans b3, ((HB1.out).cell (p := ⟨x1.heap.size, 4, none⟩) lb).trans b4, ((HB1.out).cell (p := ⟨x1.heap.size, 5, none⟩) lb).trans b5⟩) (fun hHeld => ?_)
  clear hK K
  (try simp only [Act.put, List.setIfInBounds_toArray, List.set_cons_zero, List.set_cons_succ])
  refine wpAnyH_ready (rs := [3]) (by kernel_rfl) (by simp) ?_
  refine AllReadyH.cons rfl (fun K hK => ?_) AllReadyH.nil
  go_simp
  refine (eqReq_same x s p q r XA uA l Xc uc _ hn9 (by exact HV.out) (by exact HU.out)).mono ?_
  rintro e v1 ⟨rfl, hb⟩
  have hb : Below u1.heap.size u1 v1 := ⟨hb.os, hb.tape, hb.output, hb.size, hb.block⟩
  have HB2 := Lib.hid (below_then HB1.out hb)
  clear hb
  go_wp2_with fail
  refine hK.out _ _ (by exact ⟨((HB2.out).cell (p := ⟨w.heap.size, 0, none⟩) la).trans a0, ((HB2.out).cell (p := ⟨w.heap.size, 1, none⟩) la).trans a1, ((HB2.out).cell (p := ⟨w.heap.size, 2, none⟩) la).trans a2, ((HB2.out).cell (p := ⟨w.heap.size, 3, none⟩) la).trans a3, ((HB2.out).cell (p := ⟨w.heap.size, 4, none⟩) la).trans a4, ((HB2.out).cell (p := ⟨w.heap.size, 5, none⟩) la).trans a5, ((HB2.out).cell (p := ⟨x1.heap.size, 0, none⟩) lb).trans b0, ((HB2.out).cell (p := ⟨x1.heap.size, 1, none⟩) lb).trans b1, ((HB2.out).cell (p := ⟨x1.heap.size, 2, none⟩) lb).trans b2, ((HB2.out).cell (p := ⟨x1.heap.size, 3, none⟩) lb).trans b3, ((HB2.out).cell (p := ⟨x1.heap.size, 4, none⟩) lb).trans b4, ((HB2.out).cell (p := ⟨x1.heap.size, 5, none⟩) lb).trans b5⟩) (fun hHeld => ?_)
  clear hK K
  (try simp only [Act.put, List.setIfInBounds_toArray, List.set_cons_zero, List.set_cons_succ])
  refine wpAnyH_take (i := 4) (oi := ?_) (v := ?_) ?_ ?_ ?_ ?_ ?_ ?_ (by exact hHeld) ?_
  rotate_left 2
  · (simp only [List.getElem?_toArray, List.getElem?_cons_zero, List.getElem?_cons_succ]; try rfl)
  · kernel_rfl
  · kernel_rfl
  · kernel_rfl
  · exact fun _ _ _ h => h
  · refine Or.inl ⟨by rfl, ?_⟩
    (intro V hSV; (try dsimp only at hSV); obtain ⟨q0, q1, q2, q3, q4, q5, q6, q7, q8, q9, q10, q11⟩ := hSV; go_simp; try with_reducible rfl)
  (try simp only [Act.put, List.setIfInBounds_toArray, List.set_cons_zero, List.set_cons_succ])
  refine wpAnyH_done (by kernel_rfl) ?_ _
  clear hHeld la lb a0 b0 a1 b1 a2 b2 a3 b3 a4 b4 a5 b5
  have hb := HB2.out
  have z8 := hb.size
  have BA := Lib.hid (BA.out.below hb)
  have O := Lib.hid (O.out.below hb)
  have X := Lib.hid (X.out.below hb)
  have XB := Lib.hid (XB.out.below hb)
  have G := Lib.hid (G.out.below hb)
  have HB := Lib.hid (below_then HB.out hb)
  clear hb HB1 HB2 HU HV HL
  have q0 := XB.out.cell 0
  have q1 := XB.out.cell 1
  have q2 := XB.out.cell 2
  have q3 := XB.out.cell 3
  have q4 := XB.out.cell 4
  have q5 := XB.out.cell 5
  go_wp2_with fail
  refine (markReq_any x s p q r _ l _ 1 _ (by omega) (by omega) (by exact X.out)).mono ?_
  rintro e k1 ⟨rfl, _, hke⟩
  clear q0 q1 q2 q3 q4 q5
  have BA := Lib.hid (BA.out.of_block (hke.block _ BA.out.lt (fun h => by have h1 := RX.out _ h; omega)))
  have O := Lib.hid (O.out.keeps hke (fun b hb h => by have h1 := RX.out b h; have h2 := RO.out b hb; omega))
  have G := Lib.hid (G.out.keeps hke (fun b hb h => by have h1 := RX.out b h; have h2 := RG.out b hb; omega))
  have HB := Lib.hid (HB.out.trans (hke.below (B := w.heap.size) HB.out.size (fun k hk => by have h1 := RX.out k hk; omega)))
  have z9 := hke.size
  clear hke X XB
  obtain ⟨K, hK, hK0⟩ : ∃ K : Int, ((1 + l.length : Nat) : Int) = K ∧ ¬ K < 0 := ⟨_, rfl, by omega⟩
  have hKd : decide (K < 0) = false := decide_eq_false hK0
  rw [hK]
  clear hK hK0
  go_wp2_with fail
  refine (eqByteS_any GA OA R R Gc Oc _ hR9 (by exact own_bs9 G.out) (by exact own_bs9 O.out)).mono ?_
  rintro e v ⟨rfl, nn, rfl⟩
  rw [decide_eq_true (rfl : R = R)]
  have hb := below_drewN (Below.refl k1.heap.size k1) nn
  have z10 := hb.size
  have BA := Lib.hid (BA.out.below hb)
  have O := Lib.hid (O.out.below hb)
  have G := Lib.hid (G.out.below hb)
  have HB := Lib.hid (below_then HB.out hb)
  clear hb
  generalize k1.drewN nn = v2 at *
  clear hKd
  obtain ⟨K2, hK2, hK20⟩ : ∃ K : Int, ((1 + R.length : Nat) : Int) = K ∧ ¬ K < 0 := ⟨_, rfl, by omega⟩
  have hKd2 : decide (K2 < 0) = false := decide_eq_false hK20
  have hKn2 : (K2 != K2) = false := by simp
  have HK2 := Lib.hid hK2
  clear hK2 hK20
  go_wp2_with fail
  refine (markByteS_any _ R _ 1 _ (by omega) (by omega) (by exact G.out)).mono ?_
  rintro e k2 ⟨rfl, how, hgr⟩
  have hke := Keeps.of_grown hgr
  rw [HK2.out]
  have BA := Lib.hid (BA.out.of_block (hke.block _ BA.out.lt (fun h => by have h1 := RG.out _ h; omega)))
  have O := Lib.hid (O.out.keeps hke (fun b hb h => by have h1 := RG.out b h; have h2 := RO.out b hb; omega))
  have HB := Lib.hid (HB.out.trans (hke.below (B := w.heap.size) HB.out.size (fun k hk => by have h1 := RG.out k hk; omega)))
  have z11 := hke.size
  have G := Lib.hid how
  clear hke hgr how
  go_wp2_with fail
  refine (heldByteS_any GA R.length Gc 1 _ (by omega) (by omega) (by exact own_bs9 G.out)).mono ?_
  rintro e k3 ⟨rfl, rfl⟩
  rw [HK2.out]
  have q0 := BA.out.cell 0
  have q1 := BA.out.cell 1
  have q2 := BA.out.cell 2
  have q3 := BA.out.cell 3
  have q4 := BA.out.cell 4
  have q5 := BA.out.cell 5
  have HL := Lib.hid (hL.below HB.out)
  go_wp2_with fail
  refine (toReq_any x s p q r A l c _ hl (by exact HL.out)).mono ?_
  rintro e y1 ⟨v, rfl, hown, hb⟩
  obtain ⟨YA, Yc, rfl, Yh, Yk, _, _, _⟩ := own_plain9 hown
  have RY := Lib.hid hown.range
  have z12 := hb.size
  have BA := Lib.hid (BA.out.below hb)
  have O := Lib.hid (O.out.below hb)
  have G := Lib.hid (G.out.below hb)
  have HB := Lib.hid (below_then HB.out hb)
  have Y := Lib.hid hown
  clear hown HL
  clear hb
  clear q0 q1 q2 q3 q4 q5
  have HT := Lib.hid (hT.below HB.out)
  have HX := Lib.hid (own_bs9 Y.out)
  go_wp2_with fail
  refine (implReqBytes_any x s p q r YA l Yc _ Yh Yk (by exact HT.out) (by exact HX.out)).mono ?_
  rintro e h1 ⟨v, rfl, hown, hb⟩
  rw [HRE.out] at hown
  obtain ⟨HA, Hc, rfl, Hh, Hk, _, _, _⟩ := own_plain9 hown
  have RH := Lib.hid hown.range
  have z13 := hb.size
  have BA := Lib.hid (BA.out.below hb)
  have O := Lib.hid (O.out.below hb)
  have G := Lib.hid (G.out.below hb)
  have Y := Lib.hid (Y.out.below hb)
  have HB := Lib.hid (below_then HB.out hb)
  have H := Lib.hid (hown.below (Below.refl _ _))
  clear hown
  clear hb
  clear HX HT
  go_wp2_with fail
  refine (eqByteS_any HA OA R R Hc Oc _ hR9 (by exact own_bs9 H.out) (by exact own_bs9 O.out)).mono ?_
  rintro e v ⟨rfl, nn, rfl⟩
  rw [decide_eq_true (rfl : R = R)]
  have hb := below_drewN (Below.refl h1.heap.size h1) nn
  have z14 := hb.size
  have BA := Lib.hid (BA.out.below hb)
  have O := Lib.hid (O.out.below hb)
  have G := Lib.hid (G.out.below hb)
  have Y := Lib.hid (Y.out.below hb)
  have H := Lib.hid (H.out.below hb)
  have HB := Lib.hid (below_then HB.out hb)
  clear hb
  generalize h1.drewN nn = v3 at *
  go_wp2_with fail
  refine (heldByteS_any GA R.length Gc 1 _ (by omega) (by omega) (by exact own_bs9 G.out)).mono ?_
  rintro e k4 ⟨rfl, rfl⟩
  rw [HK2.out]
  go_wp2
  go_ret
  exact ⟨rfl, HB.out⟩

end Go.Proofs.YtdmmdbapkogdhaaDoor.fnExactReqBytes
