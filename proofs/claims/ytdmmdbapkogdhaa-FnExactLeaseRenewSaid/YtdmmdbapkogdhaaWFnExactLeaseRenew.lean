/-
  FnExactLeaseRenew, its walk. Own work.
-/
import Derived.Test.YtdmmdbapkogdhaaLaw0
import Derived.Test.YtdmmdbapkogdhaaC10
import Derived.Test.YtdmmdbapkogdhaaS10
import Derived.Test.YtdmmdbapkogdhaaS16
import Derived.Test.YtdmmdbapkogdhaaI28
import Derived.ProofKit
import Derived.OpenShut
import Derived.OpenVars
import Derived.ChangeOld
import Derived.Deep.DeepHandedRow
import Derived.Deep.RegionHeld3
import Derived.Deep.DeepCutAuto
namespace Go.Proofs.Ytdmmdbapkogdhaa.fnExactLeaseRenew
open Go.ChangeShapes Go.WideShapes Go.ChangeAt Go.RowKit P
set_option linter.unusedVariables false
set_option maxRecDepth 100000

set_option maxHeartbeats 16000000 in
theorem walk (A0 : Option Addr) (l0 : List Le) (c0 : Nat) (hc0 : l0.length ≤ c0) (hm0 : c0 ≤ maxLen) (i1 j1 s1 t1 : Int) (hin1 : leIn (i1, j1, s1, t1)) (a2 : Int) (ha2 : -9223372036854775808 ≤ a2 ∧ a2 ≤ 9223372036854775807) (w : World) (hL0 : Ll w A0 l0) :
    Calls Try.prog 11 #[.slice A0 l0.length c0, .agg #[.int .i64 i1, .int .i64 j1, .int .i64 s1, .int .i64 t1], .int .i64 a2] w fun e w' => e = .returned (.bool true) ∧ Below w.heap.size w w' := by
  have hn90 : l0.length ≤ 9223372036854775807 := by unfold maxLen at hm0; omega
  clear hc0 hm0
  have BA1 := Lib.hid (Blk.new w #[.int .i64 i1, .int .i64 j1, .int .i64 s1, .int .i64 t1] 70)
  have hb0 := ((Below.refl w.heap.size w).alloc (Nat.le_refl _) (.cells #[.int .i64 i1, .int .i64 j1, .int .i64 s1, .int .i64 t1] 70))
  obtain ⟨R, hRe⟩ : ∃ R, renewL l0 (i1, j1, s1, t1) a2 = R := ⟨_, rfl⟩
  have hRl : R.length ≤ 1000000 := by rw [← hRe]; exact renewL_len (es := l0) (i1, j1, s1, t1) a2
  have HRE := Lib.hid hRe
  obtain ⟨z, hze⟩ : ∃ z, renewN l0 (i1, j1, s1, t1) a2 = z := ⟨_, rfl⟩
  have HZE := Lib.hid hze
  have hzz : (z != z) = false := by simp
  clear hze hRe
  go_enter Try.func11, Try.ntmps11
  have HB := Lib.hid hb0
  clear hb0
  have HL0 := Lib.hid (hL0.below HB.out)
  go_wp2_with fail
  refine (szLeaseS_b A0 l0 c0 1048576 _ hn90 (by omega) (by omega) (by exact HL0.out)).mono ?_
  rintro e s0 ⟨⟨r0, rfl, hr0⟩, hb1⟩
  have BA1 := Lib.hid (BA1.out.below hb1)
  have HB := Lib.hid (below_then HB.out hb1)
  clear hb1 HL0
  by_cases hneg0 : r0 < 0
  · go_wp2
    go_ret
    exact ⟨rfl, HB.out⟩
  have hl0 : l0.length ≤ 1048576 := by omega
  clear hr0
  have zA : w.heap.size < s0.heap.size := BA1.out.lt
  have mL0 := Lib.hid (hL0.below HB.out)
  have mp0 := BA1.out.cell 0
  have mp1 := BA1.out.cell 1
  have mp2 := BA1.out.cell 2
  have mp3 := BA1.out.cell 3
  have mzb := BA1.out.lt
  go_wp2_with fail
  refine wp_region_held_drew (S := (fun V => V.cell? ⟨w.heap.size, 0, none⟩ = some (.int .i64 i1) ∧ V.cell? ⟨w.heap.size, 1, none⟩ = some (.int .i64 j1) ∧ V.cell? ⟨w.heap.size, 2, none⟩ = some (.int .i64 s1) ∧ V.cell? ⟨w.heap.size, 3, none⟩ = some (.int .i64 t1))) (by kernel_rfl) (by exact ⟨mp0, mp1, mp2, mp3⟩) (fun hHeld => ?_)
  refine wpAnyH_take (i := 0) (oi := ?_) (v := ?_) ?_ ?_ ?_ ?_ ?_ ?_ (by exact hHeld) ?_
  rotate_left 2
  · (simp only [List.getElem?_toArray, List.getElem?_cons_zero]; try rfl)
  · kernel_rfl
  · kernel_rfl
  · kernel_rfl
  · exact fun _ _ _ h => h
  · refine Or.inl ⟨by rfl, ?_⟩
    (intro V hSV; (try dsimp only at hSV); obtain ⟨q0, q1, q2, q3⟩ := hSV; go_simp; try with_reducible rfl)
  (try simp only [Act.put, List.setIfInBounds_toArray, List.set_cons_zero, List.set_cons_succ])
  refine wpAnyH_take (i := 2) (oi := ?_) (v := ?_) ?_ ?_ ?_ ?_ ?_ ?_ (by exact hHeld) ?_
  rotate_left 2
  · (simp only [List.getElem?_toArray, List.getElem?_cons_zero, List.getElem?_cons_succ]; try rfl)
  · kernel_rfl
  · kernel_rfl
  · kernel_rfl
  · exact fun _ _ _ h => h
  · refine Or.inl ⟨by rfl, ?_⟩
    (intro V hSV; (try dsimp only at hSV); obtain ⟨q0, q1, q2, q3⟩ := hSV; go_simp; try with_reducible rfl)
  (try simp only [Act.put, List.setIfInBounds_toArray, List.set_cons_zero, List.set_cons_succ])
  refine wpAnyH_take (i := 4) (oi := ?_) (v := ?_) ?_ ?_ ?_ ?_ ?_ ?_ (by exact hHeld) ?_
  rotate_left 2
  · (simp only [List.getElem?_toArray, List.getElem?_cons_zero, List.getElem?_cons_succ]; try rfl)
  · kernel_rfl
  · kernel_rfl
  · kernel_rfl
  · exact fun _ _ _ h => h
  · refine Or.inl ⟨by rfl, ?_⟩
    (intro V hSV; (try dsimp only at hSV); obtain ⟨q0, q1, q2, q3⟩ := hSV; go_simp; try with_reducible rfl)
  (try simp only [Act.put, List.setIfInBounds_toArray, List.set_cons_zero, List.set_cons_succ])
  refine wpAnyH_ready (rs := [1]) (by kernel_rfl) (by simp) ?_
  refine AllReadyH.cons rfl (fun K hK => ?_) AllReadyH.nil
  go_simp
  refine (toLeaseS_any A0 l0 c0 _ hl0 (by exact mL0.out)).mono ?_
  rintro e my1 hgv
  obtain ⟨mA0, mc0, mf0, rfl, hoe, hb⟩ := gives_leases hgv
  have hb : Below s0.heap.size s0 my1 := ⟨hb.os, hb.tape, hb.output, hb.size, hb.block⟩
  have mL0 := Lib.hid (mL0.out.below hb)
  have mX0 := Lib.hid hoe.ll
  have mD0 := hoe.cap
  have mHB1 := Lib.hid hb
  clear hgv hoe hb
  go_wp2_with fail
  refine hK.out _ _ (by exact ⟨((mHB1.out).cell (p := ⟨w.heap.size, 0, none⟩) mzb).trans mp0, ((mHB1.out).cell (p := ⟨w.heap.size, 1, none⟩) mzb).trans mp1, ((mHB1.out).cell (p := ⟨w.heap.size, 2, none⟩) mzb).trans mp2, ((mHB1.out).cell (p := ⟨w.heap.size, 3, none⟩) mzb).trans mp3⟩) (fun hHeld => ?_)
  clear hK K
  (try simp only [Act.put, List.setIfInBounds_toArray, List.set_cons_zero, List.set_cons_succ])
  refine wpAnyH_ready (rs := [3]) (by kernel_rfl) (by simp) ?_
  refine AllReadyH.cons rfl (fun K hK => ?_) AllReadyH.nil
  go_simp
  refine (toLease_any i1 j1 s1 t1 _).mono ?_
  rintro e my2 ⟨rfl, hb⟩
  have hb : Below my1.heap.size my1 my2 := ⟨hb.os, hb.tape, hb.output, hb.size, hb.block⟩
  have mL0 := Lib.hid (mL0.out.below hb)
  have mX0 := Lib.hid (mX0.out.below hb)
  have mHB2 := Lib.hid (below_then mHB1.out hb)
  clear hb
  go_wp2_with fail
  refine hK.out _ _ (by exact ⟨((mHB2.out).cell (p := ⟨w.heap.size, 0, none⟩) mzb).trans mp0, ((mHB2.out).cell (p := ⟨w.heap.size, 1, none⟩) mzb).trans mp1, ((mHB2.out).cell (p := ⟨w.heap.size, 2, none⟩) mzb).trans mp2, ((mHB2.out).cell (p := ⟨w.heap.size, 3, none⟩) mzb).trans mp3⟩) (fun hHeld => ?_)
  clear hK K
  (try simp only [Act.put, List.setIfInBounds_toArray, List.set_cons_zero, List.set_cons_succ])
  refine wpAnyH_ready (rs := [5]) (by kernel_rfl) (by simp) ?_
  refine AllReadyH.cons rfl (fun K hK => ?_) AllReadyH.nil
  go_simp
  refine (specLeaseRenew_any mA0 l0 mc0 i1 j1 s1 t1 a2 _ hl0 mD0 (by exact mX0.out)).mono ?_
  rintro e my3 ⟨v, rfl, hown, hb⟩
  rw [HRE.out] at hown
  rw [HZE.out]
  have hb : Below my2.heap.size my2 my3 := ⟨hb.os, hb.tape, hb.output, hb.size, hb.block⟩
  have mHB3 := Lib.hid (below_then mHB2.out hb)
  obtain ⟨oA, oc, rfl, hOL⟩ := hown.owL
  have oO := Lib.hid hOL
  clear hown hb hOL
  go_wp2_with fail
  refine hK.out _ _ (by exact ⟨((mHB3.out).cell (p := ⟨w.heap.size, 0, none⟩) mzb).trans mp0, ((mHB3.out).cell (p := ⟨w.heap.size, 1, none⟩) mzb).trans mp1, ((mHB3.out).cell (p := ⟨w.heap.size, 2, none⟩) mzb).trans mp2, ((mHB3.out).cell (p := ⟨w.heap.size, 3, none⟩) mzb).trans mp3⟩) (fun hHeld => ?_)
  clear hK K
  (try simp only [Act.put, List.setIfInBounds_toArray, List.set_cons_zero, List.set_cons_succ])
  refine wpAnyH_take (i := 6) (oi := ?_) (v := ?_) ?_ ?_ ?_ ?_ ?_ ?_ (by exact hHeld) ?_
  rotate_left 2
  · (simp only [List.getElem?_toArray, List.getElem?_cons_zero, List.getElem?_cons_succ]; try rfl)
  · kernel_rfl
  · kernel_rfl
  · kernel_rfl
  · exact fun _ _ _ h => h
  · refine Or.inl ⟨by rfl, ?_⟩
    (intro V hSV; (try dsimp only at hSV); obtain ⟨q0, q1, q2, q3⟩ := hSV; go_simp; try with_reducible rfl)
  (try simp only [Act.put, List.setIfInBounds_toArray, List.set_cons_zero, List.set_cons_succ])
  refine wpAnyH_take (i := 7) (oi := ?_) (v := ?_) ?_ ?_ ?_ ?_ ?_ ?_ (by exact hHeld) ?_
  rotate_left 2
  · (simp only [List.getElem?_toArray, List.getElem?_cons_zero, List.getElem?_cons_succ]; try rfl)
  · kernel_rfl
  · kernel_rfl
  · kernel_rfl
  · exact fun _ _ _ h => h
  · refine Or.inl ⟨by rfl, ?_⟩
    (intro V hSV; (try dsimp only at hSV); obtain ⟨q0, q1, q2, q3⟩ := hSV; go_simp; try with_reducible rfl)
  (try simp only [Act.put, List.setIfInBounds_toArray, List.set_cons_zero, List.set_cons_succ])
  refine wpAnyH_take (i := 8) (oi := ?_) (v := ?_) ?_ ?_ ?_ ?_ ?_ ?_ (by exact hHeld) ?_
  rotate_left 2
  · (simp only [List.getElem?_toArray, List.getElem?_cons_zero, List.getElem?_cons_succ]; try rfl)
  · kernel_rfl
  · kernel_rfl
  · kernel_rfl
  · exact fun _ _ _ h => h
  · refine Or.inl ⟨by rfl, ?_⟩
    (intro V hSV; (try dsimp only at hSV); obtain ⟨q0, q1, q2, q3⟩ := hSV; go_simp; try with_reducible rfl)
  (try simp only [Act.put, List.setIfInBounds_toArray, List.set_cons_zero, List.set_cons_succ])
  refine wpAnyH_take (i := 9) (oi := ?_) (v := ?_) ?_ ?_ ?_ ?_ ?_ ?_ (by exact hHeld) ?_
  rotate_left 2
  · (simp only [List.getElem?_toArray, List.getElem?_cons_zero, List.getElem?_cons_succ]; try rfl)
  · kernel_rfl
  · kernel_rfl
  · kernel_rfl
  · exact fun _ _ _ h => h
  · refine Or.inl ⟨by rfl, ?_⟩
    (intro V hSV; (try dsimp only at hSV); obtain ⟨q0, q1, q2, q3⟩ := hSV; go_simp; try with_reducible rfl)
  (try simp only [Act.put, List.setIfInBounds_toArray, List.set_cons_zero, List.set_cons_succ])
  refine wpAnyH_take (i := 10) (oi := ?_) (v := ?_) ?_ ?_ ?_ ?_ ?_ ?_ (by exact hHeld) ?_
  rotate_left 2
  · (simp only [List.getElem?_toArray, List.getElem?_cons_zero, List.getElem?_cons_succ]; try rfl)
  · kernel_rfl
  · kernel_rfl
  · kernel_rfl
  · exact fun _ _ _ h => h
  · refine Or.inl ⟨by rfl, ?_⟩
    (intro V hSV; (try dsimp only at hSV); obtain ⟨q0, q1, q2, q3⟩ := hSV; go_simp; try with_reducible rfl)
  (try simp only [Act.put, List.setIfInBounds_toArray, List.set_cons_zero, List.set_cons_succ])
  refine wpAnyH_done (by kernel_rfl) ?_ _
  clear hHeld mp0 mp1 mp2 mp3 mzb
  have hb := mHB3.out
  have BA1 := Lib.hid (BA1.out.below hb)
  have HB := Lib.hid (below_then HB.out hb)
  have zw0 := mHB2.out.size
  have zw : s0.heap.size ≤ my3.heap.size := mHB3.out.size
  have RW := Lib.hid oO.out.range
  clear hb mHB1 mHB2 mHB3 mL0 mX0 mD0
  have HL0 := Lib.hid (hL0.below HB.out)
  go_wp2_with fail
  refine (toLeaseS_any A0 l0 c0 _ hl0 (by exact HL0.out)).mono ?_
  rintro e x0 hgv
  obtain ⟨xA0, xc0, xf0, rfl, hoe, hb⟩ := gives_leases hgv
  have z0 := hb.size
  have RX0 := Lib.hid hoe.range
  have BA1 := Lib.hid (BA1.out.below hb)
  have oO := Lib.hid (oO.out.below hb)
  have HB := Lib.hid (below_then HB.out hb)
  have X0 := Lib.hid hoe
  clear hgv hoe hb HL0
  have q0 := BA1.out.cell 0
  have q1 := BA1.out.cell 1
  have q2 := BA1.out.cell 2
  have q3 := BA1.out.cell 3
  go_wp2_with fail
  refine (toLease_any i1 j1 s1 t1 _).mono ?_
  rintro e xl1 ⟨rfl, hb⟩
  have zl1 := hb.size
  have BA1 := Lib.hid (BA1.out.below hb)
  have oO := Lib.hid (oO.out.below hb)
  have X0 := Lib.hid (X0.out.below hb)
  have HB := Lib.hid (below_then HB.out hb)
  clear hb q0 q1 q2 q3
  have pX0 := Lib.hid X0.out.ll
  go_wp2_with fail
  refine (implLeaseRenew_any xA0 l0 xc0 i1 j1 s1 t1 a2 _ hl0 (by exact pX0.out)).mono ?_
  rintro e g ⟨v, rfl, hown, hb⟩
  rw [HRE.out] at hown
  rw [HZE.out]
  obtain ⟨gA, gc, rfl, hOL⟩ := hown.owL
  have zg := hb.size
  have RG := Lib.hid hOL.range
  have BA1 := Lib.hid (BA1.out.below hb)
  have oO := Lib.hid (oO.out.below hb)
  have X0 := Lib.hid (X0.out.below hb)
  have HB := Lib.hid (below_then HB.out hb)
  have G := Lib.hid hOL
  clear hown hOL
  clear hb  pX0
  have E1 := Lib.hid G.out.ll
  have E2 := Lib.hid oO.out.ll
  go_wp2_with fail
  refine (eqLeaseS_any _ _ R R _ _ _ (by omega) (by exact E1.out) (by exact E2.out)).mono ?_
  rintro e h1 ⟨rfl, hb⟩
  rw [decide_eq_true (rfl : R = R)]
  clear E1 E2
  have BA1 := Lib.hid (BA1.out.below hb)
  have oO := Lib.hid (oO.out.below hb)
  have X0 := Lib.hid (X0.out.below hb)
  have G := Lib.hid (G.out.below hb)
  have HB := Lib.hid (below_then HB.out hb)
  clear hb
  have HL0 := Lib.hid (hL0.below HB.out)
  go_wp2_with fail
  refine (toLeaseS_any A0 l0 c0 _ hl0 (by exact HL0.out)).mono ?_
  rintro e u0 hgv
  obtain ⟨uA0, uc0, uf0, rfl, hoe, hb⟩ := gives_leases hgv
  have BA1 := Lib.hid (BA1.out.below hb)
  have oO := Lib.hid (oO.out.below hb)
  have X0 := Lib.hid (X0.out.below hb)
  have G := Lib.hid (G.out.below hb)
  have HB := Lib.hid (below_then HB.out hb)
  have HU := Lib.hid hoe.ll
  have HV := Lib.hid X0.out.ll
  clear hgv hoe hb HL0
  go_wp2_with fail
  refine (eqLeaseS_any _ _ l0 l0 _ _ _ hn90 (by exact HV.out) (by exact HU.out)).mono ?_
  rintro e v0 ⟨rfl, hb⟩
  rw [decide_eq_true (rfl : l0 = l0)]
  clear HU HV
  have BA1 := Lib.hid (BA1.out.below hb)
  have oO := Lib.hid (oO.out.below hb)
  have X0 := Lib.hid (X0.out.below hb)
  have G := Lib.hid (G.out.below hb)
  have HB := Lib.hid (below_then HB.out hb)
  clear hb
  go_wp2_with fail
  refine (markLeaseS_any _ _ l0 _ _ (1) _ (by omega) (by omega) (by exact X0.out)).mono ?_
  rintro e k0 ⟨rfl, _, hke⟩
  have BA1 := Lib.hid (BA1.out.of_block (hke.block _ BA1.out.lt (fun h => by have h1 := RX0.out _ h; omega)))
  have oO := Lib.hid (oO.out.keeps hke (fun b hb h => by have h1 := RX0.out b h; have h2 := RW.out b hb; omega))
  have G := Lib.hid (G.out.keeps hke (fun b hb h => by have h1 := RX0.out b h; have h2 := RG.out b hb; omega))
  have HB := Lib.hid (HB.out.trans (hke.below (B := w.heap.size) HB.out.size (fun k hk => by have h1 := RX0.out k hk; omega)))
  have zk0 := hke.size
  clear hke X0
  obtain ⟨K, hK, hK0⟩ : ∃ K : Int, ((1 + 4 * l0.length : Nat) : Int) = K ∧ ¬ K < 0 := ⟨_, rfl, by omega⟩
  have hKd : decide (K < 0) = false := decide_eq_false hK0
  rw [hK]
  clear hK hK0
  have E1 := Lib.hid G.out.ll
  have E2 := Lib.hid oO.out.ll
  go_wp2_with fail
  refine (eqLeaseS_any _ _ R R _ _ _ (by omega) (by exact E1.out) (by exact E2.out)).mono ?_
  rintro e h2 ⟨rfl, hb⟩
  rw [decide_eq_true (rfl : R = R)]
  clear E1 E2
  have BA1 := Lib.hid (BA1.out.below hb)
  have oO := Lib.hid (oO.out.below hb)
  have G := Lib.hid (G.out.below hb)
  have HB := Lib.hid (below_then HB.out hb)
  clear hb
  clear hKd
  go_wp2_with fail
  refine (markLeaseS_any _ _ R _ _ 1 _ (by omega) (by omega) (by exact G.out)).mono ?_
  rintro e kg ⟨rfl, hG, hke⟩
  have BA1 := Lib.hid (BA1.out.of_block (hke.block _ BA1.out.lt (fun h => by have h1 := RG.out _ h; omega)))
  have oO := Lib.hid (oO.out.keeps hke (fun b hb h => by have h1 := RG.out b h; have h2 := RW.out b hb; omega))
  have HB := Lib.hid (HB.out.trans (hke.below (B := w.heap.size) HB.out.size (fun k hk => by have h1 := RG.out k hk; omega)))
  have zkg := hke.size
  have HM := Lib.hid hG
  clear hG hke G
  go_wp2_with fail
  refine (heldLeaseS_any gA R.length gc 1 _ (by omega) (by omega) (by exact HM.out)).mono ?_
  rintro e h3 ⟨rfl, rfl⟩
  have nL0 := Lib.hid (hL0.below HB.out)
  have np0 := BA1.out.cell 0
  have np1 := BA1.out.cell 1
  have np2 := BA1.out.cell 2
  have np3 := BA1.out.cell 3
  have nzb := BA1.out.lt
  go_wp2_with fail
  refine wp_region_held_drew (S := (fun V => V.cell? ⟨w.heap.size, 0, none⟩ = some (.int .i64 i1) ∧ V.cell? ⟨w.heap.size, 1, none⟩ = some (.int .i64 j1) ∧ V.cell? ⟨w.heap.size, 2, none⟩ = some (.int .i64 s1) ∧ V.cell? ⟨w.heap.size, 3, none⟩ = some (.int .i64 t1))) (by kernel_rfl) (by exact ⟨np0, np1, np2, np3⟩) (fun hHeld => ?_)
  refine wpAnyH_take (i := 0) (oi := ?_) (v := ?_) ?_ ?_ ?_ ?_ ?_ ?_ (by exact hHeld) ?_
  rotate_left 2
  · (simp only [List.getElem?_toArray, List.getElem?_cons_zero]; try rfl)
  · kernel_rfl
  · kernel_rfl
  · kernel_rfl
  · exact fun _ _ _ h => h
  · refine Or.inl ⟨by rfl, ?_⟩
    (intro V hSV; (try dsimp only at hSV); obtain ⟨q0, q1, q2, q3⟩ := hSV; go_simp; try with_reducible rfl)
  (try simp only [Act.put, List.setIfInBounds_toArray, List.set_cons_zero, List.set_cons_succ])
  refine wpAnyH_take (i := 2) (oi := ?_) (v := ?_) ?_ ?_ ?_ ?_ ?_ ?_ (by exact hHeld) ?_
  rotate_left 2
  · (simp only [List.getElem?_toArray, List.getElem?_cons_zero, List.getElem?_cons_succ]; try rfl)
  · kernel_rfl
  · kernel_rfl
  · kernel_rfl
  · exact fun _ _ _ h => h
  · refine Or.inl ⟨by rfl, ?_⟩
    (intro V hSV; (try dsimp only at hSV); obtain ⟨q0, q1, q2, q3⟩ := hSV; go_simp; try with_reducible rfl)
  (try simp only [Act.put, List.setIfInBounds_toArray, List.set_cons_zero, List.set_cons_succ])
  refine wpAnyH_take (i := 4) (oi := ?_) (v := ?_) ?_ ?_ ?_ ?_ ?_ ?_ (by exact hHeld) ?_
  rotate_left 2
  · (simp only [List.getElem?_toArray, List.getElem?_cons_zero, List.getElem?_cons_succ]; try rfl)
  · kernel_rfl
  · kernel_rfl
  · kernel_rfl
  · exact fun _ _ _ h => h
  · refine Or.inl ⟨by rfl, ?_⟩
    (intro V hSV; (try dsimp only at hSV); obtain ⟨q0, q1, q2, q3⟩ := hSV; go_simp; try with_reducible rfl)
  (try simp only [Act.put, List.setIfInBounds_toArray, List.set_cons_zero, List.set_cons_succ])
  refine wpAnyH_ready (rs := [1]) (by kernel_rfl) (by simp) ?_
  refine AllReadyH.cons rfl (fun K hK => ?_) AllReadyH.nil
  go_simp
  refine (toLeaseS_any A0 l0 c0 _ hl0 (by exact nL0.out)).mono ?_
  rintro e ny1 hgv
  obtain ⟨nA0, nc0, nf0, rfl, hoe, hb⟩ := gives_leases hgv
  have hb : Below h3.heap.size h3 ny1 := ⟨hb.os, hb.tape, hb.output, hb.size, hb.block⟩
  have nL0 := Lib.hid (nL0.out.below hb)
  have nX0 := Lib.hid hoe.ll
  have nD0 := hoe.cap
  have nHB1 := Lib.hid hb
  clear hgv hoe hb
  go_wp2_with fail
  refine hK.out _ _ (by exact ⟨((nHB1.out).cell (p := ⟨w.heap.size, 0, none⟩) nzb).trans np0, ((nHB1.out).cell (p := ⟨w.heap.size, 1, none⟩) nzb).trans np1, ((nHB1.out).cell (p := ⟨w.heap.size, 2, none⟩) nzb).trans np2, ((nHB1.out).cell (p := ⟨w.heap.size, 3, none⟩) nzb).trans np3⟩) (fun hHeld => ?_)
  clear hK K
  (try simp only [Act.put, List.setIfInBounds_toArray, List.set_cons_zero, List.set_cons_succ])
  refine wpAnyH_ready (rs := [3]) (by kernel_rfl) (by simp) ?_
  refine AllReadyH.cons rfl (fun K hK => ?_) AllReadyH.nil
  go_simp
  refine (toLease_any i1 j1 s1 t1 _).mono ?_
  rintro e ny2 ⟨rfl, hb⟩
  have hb : Below ny1.heap.size ny1 ny2 := ⟨hb.os, hb.tape, hb.output, hb.size, hb.block⟩
  have nL0 := Lib.hid (nL0.out.below hb)
  have nX0 := Lib.hid (nX0.out.below hb)
  have nHB2 := Lib.hid (below_then nHB1.out hb)
  clear hb
  go_wp2_with fail
  refine hK.out _ _ (by exact ⟨((nHB2.out).cell (p := ⟨w.heap.size, 0, none⟩) nzb).trans np0, ((nHB2.out).cell (p := ⟨w.heap.size, 1, none⟩) nzb).trans np1, ((nHB2.out).cell (p := ⟨w.heap.size, 2, none⟩) nzb).trans np2, ((nHB2.out).cell (p := ⟨w.heap.size, 3, none⟩) nzb).trans np3⟩) (fun hHeld => ?_)
  clear hK K
  (try simp only [Act.put, List.setIfInBounds_toArray, List.set_cons_zero, List.set_cons_succ])
  refine wpAnyH_ready (rs := [5]) (by kernel_rfl) (by simp) ?_
  refine AllReadyH.cons rfl (fun K hK => ?_) AllReadyH.nil
  go_simp
  refine (implLeaseRenew_any nA0 l0 nc0 i1 j1 s1 t1 a2 _ hl0 (by exact nX0.out)).mono ?_
  rintro e ny3 ⟨v, rfl, hown, hb⟩
  rw [HRE.out] at hown
  rw [HZE.out]
  have hb : Below ny2.heap.size ny2 ny3 := ⟨hb.os, hb.tape, hb.output, hb.size, hb.block⟩
  have nHB3 := Lib.hid (below_then nHB2.out hb)
  obtain ⟨tA, tc, rfl, hOL⟩ := hown.owL
  have tO := Lib.hid hOL
  clear hown hb hOL
  go_wp2_with fail
  refine hK.out _ _ (by exact ⟨((nHB3.out).cell (p := ⟨w.heap.size, 0, none⟩) nzb).trans np0, ((nHB3.out).cell (p := ⟨w.heap.size, 1, none⟩) nzb).trans np1, ((nHB3.out).cell (p := ⟨w.heap.size, 2, none⟩) nzb).trans np2, ((nHB3.out).cell (p := ⟨w.heap.size, 3, none⟩) nzb).trans np3⟩) (fun hHeld => ?_)
  clear hK K
  (try simp only [Act.put, List.setIfInBounds_toArray, List.set_cons_zero, List.set_cons_succ])
  refine wpAnyH_take (i := 6) (oi := ?_) (v := ?_) ?_ ?_ ?_ ?_ ?_ ?_ (by exact hHeld) ?_
  rotate_left 2
  · (simp only [List.getElem?_toArray, List.getElem?_cons_zero, List.getElem?_cons_succ]; try rfl)
  · kernel_rfl
  · kernel_rfl
  · kernel_rfl
  · exact fun _ _ _ h => h
  · refine Or.inl ⟨by rfl, ?_⟩
    (intro V hSV; (try dsimp only at hSV); obtain ⟨q0, q1, q2, q3⟩ := hSV; go_simp; try with_reducible rfl)
  (try simp only [Act.put, List.setIfInBounds_toArray, List.set_cons_zero, List.set_cons_succ])
  refine wpAnyH_take (i := 7) (oi := ?_) (v := ?_) ?_ ?_ ?_ ?_ ?_ ?_ (by exact hHeld) ?_
  rotate_left 2
  · (simp only [List.getElem?_toArray, List.getElem?_cons_zero, List.getElem?_cons_succ]; try rfl)
  · kernel_rfl
  · kernel_rfl
  · kernel_rfl
  · exact fun _ _ _ h => h
  · refine Or.inl ⟨by rfl, ?_⟩
    (intro V hSV; (try dsimp only at hSV); obtain ⟨q0, q1, q2, q3⟩ := hSV; go_simp; try with_reducible rfl)
  (try simp only [Act.put, List.setIfInBounds_toArray, List.set_cons_zero, List.set_cons_succ])
  refine wpAnyH_take (i := 8) (oi := ?_) (v := ?_) ?_ ?_ ?_ ?_ ?_ ?_ (by exact hHeld) ?_
  rotate_left 2
  · (simp only [List.getElem?_toArray, List.getElem?_cons_zero, List.getElem?_cons_succ]; try rfl)
  · kernel_rfl
  · kernel_rfl
  · kernel_rfl
  · exact fun _ _ _ h => h
  · refine Or.inl ⟨by rfl, ?_⟩
    (intro V hSV; (try dsimp only at hSV); obtain ⟨q0, q1, q2, q3⟩ := hSV; go_simp; try with_reducible rfl)
  (try simp only [Act.put, List.setIfInBounds_toArray, List.set_cons_zero, List.set_cons_succ])
  refine wpAnyH_take (i := 9) (oi := ?_) (v := ?_) ?_ ?_ ?_ ?_ ?_ ?_ (by exact hHeld) ?_
  rotate_left 2
  · (simp only [List.getElem?_toArray, List.getElem?_cons_zero, List.getElem?_cons_succ]; try rfl)
  · kernel_rfl
  · kernel_rfl
  · kernel_rfl
  · exact fun _ _ _ h => h
  · refine Or.inl ⟨by rfl, ?_⟩
    (intro V hSV; (try dsimp only at hSV); obtain ⟨q0, q1, q2, q3⟩ := hSV; go_simp; try with_reducible rfl)
  (try simp only [Act.put, List.setIfInBounds_toArray, List.set_cons_zero, List.set_cons_succ])
  refine wpAnyH_take (i := 10) (oi := ?_) (v := ?_) ?_ ?_ ?_ ?_ ?_ ?_ (by exact hHeld) ?_
  rotate_left 2
  · (simp only [List.getElem?_toArray, List.getElem?_cons_zero, List.getElem?_cons_succ]; try rfl)
  · kernel_rfl
  · kernel_rfl
  · kernel_rfl
  · exact fun _ _ _ h => h
  · refine Or.inl ⟨by rfl, ?_⟩
    (intro V hSV; (try dsimp only at hSV); obtain ⟨q0, q1, q2, q3⟩ := hSV; go_simp; try with_reducible rfl)
  (try simp only [Act.put, List.setIfInBounds_toArray, List.set_cons_zero, List.set_cons_succ])
  refine wpAnyH_done (by kernel_rfl) ?_ _
  clear hHeld np0 np1 np2 np3 nzb
  have hb := nHB3.out
  have BA1 := Lib.hid (BA1.out.below hb)
  have oO := Lib.hid (oO.out.below hb)
  have HM := Lib.hid (HM.out.below hb)
  have HB := Lib.hid (below_then HB.out hb)
  clear hb nHB1 nHB2 nHB3 nL0 nX0 nD0
  have E1 := Lib.hid tO.out.ll
  have E2 := Lib.hid oO.out.ll
  go_wp2_with fail
  refine (eqLeaseS_any _ _ R R _ _ _ (by omega) (by exact E1.out) (by exact E2.out)).mono ?_
  rintro e h4 ⟨rfl, hb⟩
  rw [decide_eq_true (rfl : R = R)]
  clear E1 E2
  have BA1 := Lib.hid (BA1.out.below hb)
  have oO := Lib.hid (oO.out.below hb)
  have HM := Lib.hid (HM.out.below hb)
  have tO := Lib.hid (tO.out.below hb)
  have HB := Lib.hid (below_then HB.out hb)
  clear hb
  go_wp2_with fail
  refine (heldLeaseS_any gA R.length gc 1 _ (by omega) (by omega) (by exact HM.out)).mono ?_
  rintro e h5 ⟨rfl, rfl⟩
  go_wp2
  go_ret
  exact ⟨rfl, HB.out⟩

end Go.Proofs.Ytdmmdbapkogdhaa.fnExactLeaseRenew
