/-
  FnExactStackTop, its walk. Own work.
-/
import Derived.Test.YtalcjgmmlmhngaaLaw0
import Derived.Test.YtalcjgmmlmhngaaC05
import Derived.Test.YtalcjgmmlmhngaaC11
import Derived.Test.YtalcjgmmlmhngaaK05
import Derived.ProofKit
import Derived.OpenShut
import Derived.OpenVars
import Derived.ChangeOld
import Derived.Deep.DeepHandedRow
import Derived.Deep.RegionHeld3
import Derived.Deep.DeepCutAuto
namespace Go.Proofs.Ytalcjgmmlmhngaa.fnExactStackTop
open Go.ChangeShapes Go.WideShapes Go.ChangeAt Go.RowKit P
set_option linter.unusedVariables false
set_option maxRecDepth 100000

set_option maxHeartbeats 16000000 in
theorem walk (A0 : Option Addr) (u0 : List Ed) (c0 : Nat) (hc0 : u0.length ≤ c0) (hm0 : c0 ≤ maxLen) (B0 : Option Addr) (r0 : List Ed) (d0 : Nat) (hd0 : r0.length ≤ d0) (hn0 : d0 ≤ maxLen) (a1 : Bool) (w : World) (hU0 : Es w A0 u0) (hR0 : Es w B0 r0) :
    Calls Try.prog 9 #[.agg #[.slice A0 u0.length c0, .slice B0 r0.length d0], .bool a1] w fun e w' => e = .returned (.bool true) ∧ Below w.heap.size w w' := by
  have hu9 : u0.length ≤ 9223372036854775807 := by unfold maxLen at hm0; omega
  have hr9 : r0.length ≤ 9223372036854775807 := by unfold maxLen at hn0; omega
  clear hc0 hm0 hd0 hn0
  have AX := Lib.hid (Blk.new w #[.slice A0 u0.length c0, .slice B0 r0.length d0] 51)
  have HB := Lib.hid ((Below.refl w.heap.size w).alloc (Nat.le_refl _) (.cells #[.slice A0 u0.length c0, .slice B0 r0.length d0] 51))
  obtain ⟨z, hz⟩ : ∃ z, topOk u0 r0 a1 = z := ⟨_, rfl⟩
  have HZ := Lib.hid hz
  have hzz : (z != z) = false := by simp
  obtain ⟨⟨Ra, Rm, R⟩, hV⟩ : ∃ V, topV u0 r0 a1 = V := ⟨_, rfl⟩
  have hRl : R.length ≤ 1000 := by
    have h9 := topV_len u0 r0 a1
    rw [hV] at h9
    exact h9
  have HV := Lib.hid hV
  clear hz hV
  go_enter Try.func9, Try.ntmps9
  have HU := Lib.hid (hU0.below HB.out)
  have HR := Lib.hid (hR0.below HB.out)
  have p0 := AX.out.cell 0
  have p1 := AX.out.cell 1
  go_wp2_with fail
  refine (szStack_any A0 u0 c0 B0 r0 d0 1048576 _ hu9 hr9 (by omega) (by omega) HU.out HR.out).mono ?_
  rintro e s0 ⟨⟨q0, rfl, hq0⟩, hb⟩
  have AX := Lib.hid (AX.out.below hb)
  have HB := Lib.hid (below_then HB.out hb)
  clear hb
  clear p0 p1
  clear HU HR
  by_cases hneg : q0 < 0
  · go_wp2
    go_ret
    exact ⟨rfl, HB.out⟩
  have hsz : u0.length + tot (puts u0) + r0.length + tot (puts r0) ≤ 1048576 := by omega
  clear hq0
  have HU := Lib.hid (hU0.below HB.out)
  have HR := Lib.hid (hR0.below HB.out)
  have p0 := AX.out.cell 0
  have p1 := AX.out.cell 1
  go_wp2_with fail
  refine (toStack_any A0 u0 c0 B0 r0 d0 _ (by omega) (by omega) (by exact HU.out) (by exact HR.out)).mono ?_
  rintro e m1 ⟨mA, mc, mf, mB, md, mg, rfl, ho, hb⟩
  have mO := Lib.hid ho
  clear ho HU HR
  have AX := Lib.hid (AX.out.below hb)
  have HB := Lib.hid (below_then HB.out hb)
  clear hb
  clear p0 p1
  have za1 : w.heap.size < m1.heap.size := AX.out.lt
  go_wp2_with fail
  refine (specStackTop_any mA u0 mc mB r0 md a1 _ hu9 hr9 mO.out.u.es mO.out.r.es).mono ?_
  rintro e m2 ⟨ov, rfl, hown, hb⟩
  rw [HZ.out, HV.out]
  rw [HV.out] at hown
  obtain ⟨oA, oc, rfl, _, _, _⟩ := hown.form
  have oR := Lib.hid hown.range
  have oz := hb.size
  have hal := (Below.refl m2.heap.size m2).alloc (Nat.le_refl _) (.cells #[.int .i64 Ra, .int .i64 Rm, .slice oA R.length oc] 42)
  have hb2 := below_then hb hal
  have oO' := Lib.hid (hown.below hal)
  have oB' := Lib.hid (Blk.new m2 #[.int .i64 Ra, .int .i64 Rm, .slice oA R.length oc] 42)
  clear hown hb hal
  have AX := Lib.hid (AX.out.below hb2)
  have HB := Lib.hid (below_then HB.out hb2)
  clear hb2
  have oO := oO'
  have OB := oB'
  clear oO' oB' mO
  have HU := Lib.hid (hU0.below HB.out)
  have HR := Lib.hid (hR0.below HB.out)
  have p0 := AX.out.cell 0
  have p1 := AX.out.cell 1
  go_wp2_with fail
  generalize hmw : m2.alloc (.cells #[.int .i64 Ra, .int .i64 Rm, .slice oA R.length oc] 42) = mw at *
  have zob : m2.heap.size < mw.heap.size := OB.out.lt
  have zaw : w.heap.size < m2.heap.size := by omega
  clear hmw
  refine (toStack_any A0 u0 c0 B0 r0 d0 _ (by omega) (by omega) (by exact HU.out) (by exact HR.out)).mono ?_
  rintro e x1 ⟨xA, xc, xf, xB, xd, xg, rfl, ho, hb⟩
  have xRu := Lib.hid ho.u.range
  have xRr := Lib.hid ho.r.range
  have xz := hb.size
  have hal := (Below.refl x1.heap.size x1).alloc (Nat.le_refl _) (.cells #[.slice xA u0.length xc, .slice xB r0.length xd] 56)
  have hb2 := below_then hb hal
  have xO := Lib.hid (ho.below hal)
  have XB := Lib.hid (Blk.new x1 #[.slice xA u0.length xc, .slice xB r0.length xd] 56)
  clear ho HU HR hb hal
  have AX := Lib.hid (AX.out.below hb2)
  have oO := Lib.hid (oO.out.below hb2)
  have OB := Lib.hid (OB.out.below hb2)
  have HB := Lib.hid (below_then HB.out hb2)
  clear hb2
  clear p0 p1
  have q0 := XB.out.cell 0
  have q1 := XB.out.cell 1
  go_wp2_with fail
  generalize hxw : x1.alloc (.cells #[.slice xA u0.length xc, .slice xB r0.length xd] 56) = xw at *
  have zxw : x1.heap.size < xw.heap.size := XB.out.lt
  clear hxw
  refine (implStackTop_any xA u0 xc xB r0 xd a1 _ hu9 hr9 xO.out.u.es xO.out.r.es).mono ?_
  rintro e g1 ⟨gv, rfl, hown, hb⟩
  rw [HZ.out, HV.out]
  rw [HV.out] at hown
  obtain ⟨gA, gc, rfl, _, _, _⟩ := hown.form
  have gR := Lib.hid hown.range
  have gz := hb.size
  have hal := (Below.refl g1.heap.size g1).alloc (Nat.le_refl _) (.cells #[.int .i64 Ra, .int .i64 Rm, .slice gA R.length gc] 42)
  have hb2 := below_then hb hal
  have gO := Lib.hid (hown.below hal)
  have GB := Lib.hid (Blk.new g1 #[.int .i64 Ra, .int .i64 Rm, .slice gA R.length gc] 42)
  clear hown hb hal
  clear q0 q1
  have AX := Lib.hid (AX.out.below hb2)
  have oO := Lib.hid (oO.out.below hb2)
  have OB := Lib.hid (OB.out.below hb2)
  have xO := Lib.hid (xO.out.below hb2)
  have XB := Lib.hid (XB.out.below hb2)
  have HB := Lib.hid (below_then HB.out hb2)
  clear hb2
  have q0 := GB.out.cell 0
  have q1 := GB.out.cell 1
  have q2 := GB.out.cell 2
  have o0 := OB.out.cell 0
  have o1 := OB.out.cell 1
  have o2 := OB.out.cell 2
  have e1 := own_bs9 gO.out
  have e2 := own_bs9 oO.out
  have E1 := Lib.hid e1
  have E2 := Lib.hid e2
  clear e1 e2
  go_wp2_with fail
  generalize hgw : g1.alloc (.cells #[.int .i64 Ra, .int .i64 Rm, .slice gA R.length gc] 42) = gw at *
  have zgw : g1.heap.size < gw.heap.size := GB.out.lt
  clear hgw
  refine (eqEdit_any Ra Rm Ra Rm gA oA R R gc oc _ (by omega) (by exact E1.out) (by exact E2.out)).mono ?_
  rintro e h1 ⟨rfl, hb⟩
  rw [decide_eq_true (⟨rfl, rfl, rfl⟩ : Ra = Ra ∧ Rm = Rm ∧ R = R)]
  clear E1 E2
  clear q0 q1 q2
  clear o0 o1 o2
  have AX := Lib.hid (AX.out.below hb)
  have oO := Lib.hid (oO.out.below hb)
  have OB := Lib.hid (OB.out.below hb)
  have xO := Lib.hid (xO.out.below hb)
  have XB := Lib.hid (XB.out.below hb)
  have gO := Lib.hid (gO.out.below hb)
  have GB := Lib.hid (GB.out.below hb)
  have HB := Lib.hid (below_then HB.out hb)
  clear hb
  have HU := Lib.hid (hU0.below HB.out)
  have HR := Lib.hid (hR0.below HB.out)
  have p0 := AX.out.cell 0
  have p1 := AX.out.cell 1
  have q0 := XB.out.cell 0
  have q1 := XB.out.cell 1
  have zA := AX.out.lt
  have zX := XB.out.lt
  go_wp2_with fail
  refine wp_region_held_drew (S := (fun V => V.cell? ⟨w.heap.size, 0, none⟩ = some (.slice A0 u0.length c0) ∧ V.cell? ⟨w.heap.size, 1, none⟩ = some (.slice B0 r0.length d0) ∧ V.cell? ⟨x1.heap.size, 0, none⟩ = some (.slice xA u0.length xc) ∧ V.cell? ⟨x1.heap.size, 1, none⟩ = some (.slice xB r0.length xd))) (by kernel_rfl) (by exact ⟨p0, p1, q0, q1⟩) (fun hHeld => ?_)
  refine wpAnyH_take (i := 0) (oi := ?_) (v := ?_) ?_ ?_ ?_ ?_ ?_ ?_ (by exact hHeld) ?_
  rotate_left 2
  · (simp only [List.getElem?_toArray, List.getElem?_cons_zero]; try rfl)
  · kernel_rfl
  · kernel_rfl
  · kernel_rfl
  · exact fun _ _ _ h => h
  · refine Or.inl ⟨by rfl, ?_⟩
    (intro V hSV; (try dsimp only at hSV); obtain ⟨q0, q1, q2, q3⟩ := hSV; go_simp; try with_reducible rfl)
  (try simp only [Act.put, List.setIfInBounds_toArray, List.set_cons_zero, List.set_cons_succ])
  refine wpAnyH_take (i := 1) (oi := ?_) (v := ?_) ?_ ?_ ?_ ?_ ?_ ?_ (by exact hHeld) ?_
  rotate_left 2
  · (simp only [List.getElem?_toArray, List.getElem?_cons_zero, List.getElem?_cons_succ]; try rfl)
  · kernel_rfl
  · kernel_rfl
  · kernel_rfl
  · exact fun _ _ _ h => h
  · refine Or.inl ⟨by rfl, ?_⟩
    (intro V hSV; (try dsimp only at hSV); obtain ⟨q0, q1, q2, q3⟩ := hSV; go_simp; try with_reducible rfl)
  (try simp only [Act.put, List.setIfInBounds_toArray, List.set_cons_zero, List.set_cons_succ])
  refine wpAnyH_ready (rs := [2]) (by kernel_rfl) (by simp) ?_
  refine AllReadyH.cons rfl (fun K hK => ?_) AllReadyH.nil
  go_simp
  refine (toStack_any A0 u0 c0 B0 r0 d0 _ (by omega) (by omega) (by exact HU.out) (by exact HR.out)).mono ?_
  rintro e y1 ⟨yA, yc, yf, yB, yd, yg, rfl, ho, hby1⟩
  have hby1 : Below h1.heap.size h1 y1 := ⟨hby1.os, hby1.tape, hby1.output, hby1.size, hby1.block⟩
  have hbR := hby1
  have ho : OwS y1 h1.heap.size yA u0 yc yf yB r0 yd yg := ⟨ho.u, ho.r, ho.dis⟩
  have yO := Lib.hid ho
  have xO1 := Lib.hid (xO.out.below hby1)
  clear ho
  go_wp2_with fail
  refine hK.out _ _ (by exact ⟨((hbR).cell (p := ⟨w.heap.size, 0, none⟩) zA).trans p0, ((hbR).cell (p := ⟨w.heap.size, 1, none⟩) zA).trans p1, ((hbR).cell (p := ⟨x1.heap.size, 0, none⟩) zX).trans q0, ((hbR).cell (p := ⟨x1.heap.size, 1, none⟩) zX).trans q1⟩) (fun hHeld => ?_)
  clear hK K
  (try simp only [Act.put, List.setIfInBounds_toArray, List.set_cons_zero, List.set_cons_succ])
  refine wpAnyH_ready (rs := [3]) (by kernel_rfl) (by simp) ?_
  refine AllReadyH.cons rfl (fun K hK => ?_) AllReadyH.nil
  go_simp
  refine (eqStack_any xA u0 xc xB r0 xd yA u0 yc yB r0 yd _ hu9 hr9 (by exact xO1.out.u.es) (by exact xO1.out.r.es) (by exact yO.out.u.es) (by exact yO.out.r.es)).mono ?_
  rintro e y2 ⟨rfl, hby2⟩
  rw [decide_eq_true (rfl : u0 = u0), decide_eq_true (rfl : r0 = r0), Bool.and_self]
  have hby2 : Below y1.heap.size y1 y2 := ⟨hby2.os, hby2.tape, hby2.output, hby2.size, hby2.block⟩
  have hbR := below_then hbR hby2
  go_wp2_with fail
  refine hK.out _ _ (by exact ⟨((hbR).cell (p := ⟨w.heap.size, 0, none⟩) zA).trans p0, ((hbR).cell (p := ⟨w.heap.size, 1, none⟩) zA).trans p1, ((hbR).cell (p := ⟨x1.heap.size, 0, none⟩) zX).trans q0, ((hbR).cell (p := ⟨x1.heap.size, 1, none⟩) zX).trans q1⟩) (fun hHeld => ?_)
  clear hK K
  (try simp only [Act.put, List.setIfInBounds_toArray, List.set_cons_zero, List.set_cons_succ])
  refine wpAnyH_take (i := 4) (oi := ?_) (v := ?_) ?_ ?_ ?_ ?_ ?_ ?_ (by exact hHeld) ?_
  rotate_left 2
  · (simp only [List.getElem?_toArray, List.getElem?_cons_zero, List.getElem?_cons_succ]; try rfl)
  · kernel_rfl
  · kernel_rfl
  · kernel_rfl
  · exact fun _ _ _ h => h
  · refine Or.inl ⟨by rfl, ?_⟩
    (intro V hSV; (try dsimp only at hSV); obtain ⟨q0, q1, q2, q3⟩ := hSV; go_simp; try with_reducible rfl)
  (try simp only [Act.put, List.setIfInBounds_toArray, List.set_cons_zero, List.set_cons_succ])
  refine wpAnyH_done (by kernel_rfl) ?_ _
  clear hHeld yO xO1 HU HR zA zX hby1 hby2
  clear p0 p1
  clear q0 q1
  have AX := Lib.hid (AX.out.below hbR)
  have oO := Lib.hid (oO.out.below hbR)
  have OB := Lib.hid (OB.out.below hbR)
  have xO := Lib.hid (xO.out.below hbR)
  have XB := Lib.hid (XB.out.below hbR)
  have gO := Lib.hid (gO.out.below hbR)
  have GB := Lib.hid (GB.out.below hbR)
  have HB := Lib.hid (below_then HB.out hbR)
  clear hbR
  have q0 := XB.out.cell 0
  have q1 := XB.out.cell 1
  go_wp2_with fail
  refine (markStack_any xA u0 xc xf xB r0 xd xg _ 1 _ (by omega) (by omega) (by exact xO.out)).mono ?_
  rintro e k1 ⟨⟨n, rfl, hn⟩, hke⟩
  have hnf : ∀ q, q < mw.heap.size ∨ x1.heap.size ≤ q → q ∉ xf ++ xg := fun q hq h => by
    rcases List.mem_append.1 h with h | h
    · have := xRu.out q h; omega
    · have := xRr.out q h; omega
  have AX := Lib.hid (AX.out.of_block (hke.block _ AX.out.lt (hnf _ (by omega))))
  have OB := Lib.hid (OB.out.of_block (hke.block _ OB.out.lt (hnf _ (by omega))))
  have GB := Lib.hid (GB.out.of_block (hke.block _ GB.out.lt (hnf _ (by omega))))
  have oO := Lib.hid (oO.out.keeps hke (fun b hb => hnf b (by have := oR.out b hb; omega)))
  have gO := Lib.hid (gO.out.keeps hke (fun b hb => hnf b (by have := gR.out b hb; omega)))
  have HB := Lib.hid (HB.out.trans (hke.below (B := w.heap.size) HB.out.size (fun q hq => by
    rcases List.mem_append.1 hq with h | h
    · have := xRu.out q h; omega
    · have := xRr.out q h; omega)))
  have hn0 : ¬ (n : Int) < 0 := by omega
  have hnd : decide ((n : Int) < 0) = false := decide_eq_false hn0
  obtain ⟨nn, hnn⟩ : ∃ nn : Int, (n : Int) = nn := ⟨_, rfl⟩
  rw [hnn] at hn0 hnd ⊢
  have zk1 := hke.size
  clear hnn hn hnf hke xO XB
  clear q0 q1
  have q0 := GB.out.cell 0
  have q1 := GB.out.cell 1
  have q2 := GB.out.cell 2
  have o0 := OB.out.cell 0
  have o1 := OB.out.cell 1
  have o2 := OB.out.cell 2
  have e1 := own_bs9 gO.out
  have e2 := own_bs9 oO.out
  have E1 := Lib.hid e1
  have E2 := Lib.hid e2
  clear e1 e2
  go_wp2_with fail
  refine (eqEdit_any Ra Rm Ra Rm gA oA R R gc oc _ (by omega) (by exact E1.out) (by exact E2.out)).mono ?_
  rintro e h2 ⟨rfl, hb⟩
  rw [decide_eq_true (⟨rfl, rfl, rfl⟩ : Ra = Ra ∧ Rm = Rm ∧ R = R)]
  clear E1 E2
  clear q0 q1 q2
  clear o0 o1 o2
  have AX := Lib.hid (AX.out.below hb)
  have oO := Lib.hid (oO.out.below hb)
  have OB := Lib.hid (OB.out.below hb)
  have gO := Lib.hid (gO.out.below hb)
  have GB := Lib.hid (GB.out.below hb)
  have HB := Lib.hid (below_then HB.out hb)
  clear hb
  have q0 := GB.out.cell 0
  have q1 := GB.out.cell 1
  have q2 := GB.out.cell 2
  go_wp2_with fail
  refine (markEdit_any Ra Rm _ R _ 1 _ (by omega) (by omega) (by exact gO.out)).mono ?_
  rintro e k2 ⟨rfl, hG, hke⟩
  have AX := Lib.hid (AX.out.of_block (hke.block _ AX.out.lt (fun h => by have := gR.out _ h; omega)))
  have OB := Lib.hid (OB.out.of_block (hke.block _ OB.out.lt (fun h => by have := gR.out _ h; omega)))
  have GB := Lib.hid (GB.out.of_block (hke.block _ GB.out.lt (fun h => by have := gR.out _ h; omega)))
  have oO := Lib.hid (oO.out.keeps hke (fun b hb h => by have := oR.out b hb; have := gR.out b h; omega))
  have HB := Lib.hid (HB.out.trans (hke.below (B := w.heap.size) HB.out.size (fun q hq => by have := gR.out q hq; omega)))
  have HM := Lib.hid (own_bs9 hG)
  have zk2 := hke.size
  clear hG hke gO
  clear q0 q1 q2
  have q0 := GB.out.cell 0
  have q1 := GB.out.cell 1
  have q2 := GB.out.cell 2
  go_wp2_with fail
  refine (heldEdit_any Ra Rm gA R.length gc 1 _ (by omega) (by omega) (by exact HM.out)).mono ?_
  rintro e h3 ⟨rfl, hb⟩
  clear q0 q1 q2
  have AX := Lib.hid (AX.out.below hb)
  have oO := Lib.hid (oO.out.below hb)
  have OB := Lib.hid (OB.out.below hb)
  have GB := Lib.hid (GB.out.below hb)
  have HM := Lib.hid (HM.out.below hb)
  have HB := Lib.hid (below_then HB.out hb)
  clear hb
  have HU := Lib.hid (hU0.below HB.out)
  have HR := Lib.hid (hR0.below HB.out)
  have p0 := AX.out.cell 0
  have p1 := AX.out.cell 1
  go_wp2_with fail
  refine (toStack_any A0 u0 c0 B0 r0 d0 _ (by omega) (by omega) (by exact HU.out) (by exact HR.out)).mono ?_
  rintro e n1 ⟨nA, nc, nf, nB, nd, ng, rfl, ho, hb⟩
  have nO := Lib.hid ho
  clear ho HU HR
  have AX := Lib.hid (AX.out.below hb)
  have oO := Lib.hid (oO.out.below hb)
  have OB := Lib.hid (OB.out.below hb)
  have GB := Lib.hid (GB.out.below hb)
  have HM := Lib.hid (HM.out.below hb)
  have HB := Lib.hid (below_then HB.out hb)
  clear hb
  clear p0 p1
  go_wp2_with fail
  refine (implStackTop_any nA u0 nc nB r0 nd a1 _ hu9 hr9 nO.out.u.es nO.out.r.es).mono ?_
  rintro e t1 ⟨tv, rfl, hown, hb⟩
  rw [HZ.out, HV.out]
  rw [HV.out] at hown
  obtain ⟨tA, tc, rfl, _, _, _⟩ := hown.form
  have hal := (Below.refl t1.heap.size t1).alloc (Nat.le_refl _) (.cells #[.int .i64 Ra, .int .i64 Rm, .slice tA R.length tc] 42)
  have hb2 := below_then hb hal
  have tO := Lib.hid (hown.below hal)
  have TB := Lib.hid (Blk.new t1 #[.int .i64 Ra, .int .i64 Rm, .slice tA R.length tc] 42)
  clear hown hb hal nO
  have AX := Lib.hid (AX.out.below hb2)
  have oO := Lib.hid (oO.out.below hb2)
  have OB := Lib.hid (OB.out.below hb2)
  have GB := Lib.hid (GB.out.below hb2)
  have HM := Lib.hid (HM.out.below hb2)
  have HB := Lib.hid (below_then HB.out hb2)
  clear hb2
  have q0 := TB.out.cell 0
  have q1 := TB.out.cell 1
  have q2 := TB.out.cell 2
  have o0 := OB.out.cell 0
  have o1 := OB.out.cell 1
  have o2 := OB.out.cell 2
  have e1 := own_bs9 tO.out
  have e2 := own_bs9 oO.out
  have E1 := Lib.hid e1
  have E2 := Lib.hid e2
  clear e1 e2
  go_wp2_with fail
  generalize t1.alloc (.cells #[.int .i64 Ra, .int .i64 Rm, .slice tA R.length tc] 42) = tw at *
  refine (eqEdit_any Ra Rm Ra Rm tA oA R R tc oc _ (by omega) (by exact E1.out) (by exact E2.out)).mono ?_
  rintro e h4 ⟨rfl, hb⟩
  rw [decide_eq_true (⟨rfl, rfl, rfl⟩ : Ra = Ra ∧ Rm = Rm ∧ R = R)]
  clear E1 E2
  clear q0 q1 q2
  clear o0 o1 o2
  have AX := Lib.hid (AX.out.below hb)
  have oO := Lib.hid (oO.out.below hb)
  have OB := Lib.hid (OB.out.below hb)
  have GB := Lib.hid (GB.out.below hb)
  have HM := Lib.hid (HM.out.below hb)
  have tO := Lib.hid (tO.out.below hb)
  have TB := Lib.hid (TB.out.below hb)
  have HB := Lib.hid (below_then HB.out hb)
  clear hb
  have q0 := GB.out.cell 0
  have q1 := GB.out.cell 1
  have q2 := GB.out.cell 2
  go_wp2_with fail
  refine (heldEdit_any Ra Rm gA R.length gc 1 _ (by omega) (by omega) (by exact HM.out)).mono ?_
  rintro e h5 ⟨rfl, hb⟩
  clear q0 q1 q2
  have AX := Lib.hid (AX.out.below hb)
  have GB := Lib.hid (GB.out.below hb)
  have HM := Lib.hid (HM.out.below hb)
  have HB := Lib.hid (below_then HB.out hb)
  clear hb
  go_wp2
  go_ret
  exact ⟨rfl, HB.out⟩

end Go.Proofs.Ytalcjgmmlmhngaa.fnExactStackTop
