/-
  FnExactStackOk, its walk. Own work.
-/
import Derived.Test.YtalcjgmmlmhngaaLaw0
import Derived.Test.YtalcjgmmlmhngaaC11
import Derived.Test.YtalcjgmmlmhngaaK01
import Derived.ProofKit
import Derived.OpenShut
import Derived.OpenVars
import Derived.ChangeOld
import Derived.Deep.DeepHandedRow
import Derived.Deep.RegionHeld3
import Derived.Deep.DeepCutAuto
namespace Go.Proofs.Ytalcjgmmlmhngaa.fnExactStackOk
open Go.ChangeShapes Go.WideShapes Go.ChangeAt Go.RowKit P
set_option linter.unusedVariables false
set_option maxRecDepth 100000

set_option maxHeartbeats 16000000 in
theorem walk (A0 : Option Addr) (u0 : List Ed) (c0 : Nat) (hc0 : u0.length ≤ c0) (hm0 : c0 ≤ maxLen) (B0 : Option Addr) (r0 : List Ed) (d0 : Nat) (hd0 : r0.length ≤ d0) (hn0 : d0 ≤ maxLen)  (w : World) (hU0 : Es w A0 u0) (hR0 : Es w B0 r0) :
    Calls Try.prog 8 #[.agg #[.slice A0 u0.length c0, .slice B0 r0.length d0]] w fun e w' => e = .returned (.bool true) ∧ Below w.heap.size w w' := by
  have hu9 : u0.length ≤ 9223372036854775807 := by unfold maxLen at hm0; omega
  have hr9 : r0.length ≤ 9223372036854775807 := by unfold maxLen at hn0; omega
  clear hc0 hm0 hd0 hn0
  have AX := Lib.hid (Blk.new w #[.slice A0 u0.length c0, .slice B0 r0.length d0] 51)
  have HB := Lib.hid ((Below.refl w.heap.size w).alloc (Nat.le_refl _) (.cells #[.slice A0 u0.length c0, .slice B0 r0.length d0] 51))
  obtain ⟨z, hz⟩ : ∃ z, stOk u0 r0 = z := ⟨_, rfl⟩
  have HZ := Lib.hid hz
  have hzz : (z != z) = false := by simp
  clear hz
  go_enter Try.func8, Try.ntmps8
  have HU := Lib.hid (hU0.below HB.out)
  have HR := Lib.hid (hR0.below HB.out)
  have p0 := AX.out.cell 0
  have p1 := AX.out.cell 1
  go_wp2_with fail
  refine (szStack_any A0 u0 c0 B0 r0 d0 1048576 _ hu9 hr9 (by omega) (by omega) HU.out HR.out).mono ?_
  rintro e s0 ⟨⟨q0, rfl, hq0⟩, hb⟩
  have AX := Lib.hid (AX.out.below hb)
  have HB := Lib.hid (below_then HB.out hb)
  clear hb
  clear p0 p1
  clear HU HR
  by_cases hneg : q0 < 0
  · go_wp2
    go_ret
    exact ⟨rfl, HB.out⟩
  have hsz : u0.length + tot (puts u0) + r0.length + tot (puts r0) ≤ 1048576 := by omega
  clear hq0
  have HU := Lib.hid (hU0.below HB.out)
  have HR := Lib.hid (hR0.below HB.out)
  have p0 := AX.out.cell 0
  have p1 := AX.out.cell 1
  go_wp2_with fail
  refine (toStack_any A0 u0 c0 B0 r0 d0 _ (by omega) (by omega) (by exact HU.out) (by exact HR.out)).mono ?_
  rintro e m1 ⟨mA, mc, mf, mB, md, mg, rfl, ho, hb⟩
  have mO := Lib.hid ho
  clear ho HU HR
  have AX := Lib.hid (AX.out.below hb)
  have HB := Lib.hid (below_then HB.out hb)
  clear hb
  clear p0 p1
  go_wp2_with fail
  refine (specStackOk_any mA mB u0 r0 mc md _ hu9 hr9 mO.out.u.es mO.out.r.es).mono ?_
  rintro e m2 ⟨rfl, hb⟩
  rw [HZ.out]
  clear mO
  have AX := Lib.hid (AX.out.below hb)
  have HB := Lib.hid (below_then HB.out hb)
  clear hb
  have HU := Lib.hid (hU0.below HB.out)
  have HR := Lib.hid (hR0.below HB.out)
  have p0 := AX.out.cell 0
  have p1 := AX.out.cell 1
  go_wp2_with fail
  refine (toStack_any A0 u0 c0 B0 r0 d0 _ (by omega) (by omega) (by exact HU.out) (by exact HR.out)).mono ?_
  rintro e x1 ⟨xA, xc, xf, xB, xd, xg, rfl, ho, hb⟩
  have hal := (Below.refl x1.heap.size x1).alloc (Nat.le_refl _) (.cells #[.slice xA u0.length xc, .slice xB r0.length xd] 56)
  have hb2 := below_then hb hal
  have xO := Lib.hid (ho.below hal)
  have XB := Lib.hid (Blk.new x1 #[.slice xA u0.length xc, .slice xB r0.length xd] 56)
  clear ho HU HR hb hal
  have AX := Lib.hid (AX.out.below hb2)
  have HB := Lib.hid (below_then HB.out hb2)
  clear hb2
  clear p0 p1
  have q0 := XB.out.cell 0
  have q1 := XB.out.cell 1
  go_wp2_with fail
  generalize x1.alloc (.cells #[.slice xA u0.length xc, .slice xB r0.length xd] 56) = xw at *
  refine (implStackOk_any xA xB u0 r0 xc xd _ hu9 hr9 xO.out.u.es xO.out.r.es).mono ?_
  rintro e g1 ⟨rfl, hb⟩
  rw [HZ.out]
  have AX := Lib.hid (AX.out.below hb)
  have xO := Lib.hid (xO.out.below hb)
  have XB := Lib.hid (XB.out.below hb)
  have HB := Lib.hid (below_then HB.out hb)
  clear hb
  clear q0 q1
  have HU := Lib.hid (hU0.below HB.out)
  have HR := Lib.hid (hR0.below HB.out)
  have p0 := AX.out.cell 0
  have p1 := AX.out.cell 1
  have q0 := XB.out.cell 0
  have q1 := XB.out.cell 1
  have zA := AX.out.lt
  have zX := XB.out.lt
  go_wp2_with fail
  refine wp_region_held_drew (S := (fun V => V.cell? ⟨w.heap.size, 0, none⟩ = some (.slice A0 u0.length c0) ∧ V.cell? ⟨w.heap.size, 1, none⟩ = some (.slice B0 r0.length d0) ∧ V.cell? ⟨x1.heap.size, 0, none⟩ = some (.slice xA u0.length xc) ∧ V.cell? ⟨x1.heap.size, 1, none⟩ = some (.slice xB r0.length xd))) (by kernel_rfl) (by exact ⟨p0, p1, q0, q1⟩) (fun hHeld => ?_)
  refine wpAnyH_take (i := 0) (oi := ?_) (v := ?_) ?_ ?_ ?_ ?_ ?_ ?_ (by exact hHeld) ?_
  rotate_left 2
  · (simp only [List.getElem?_toArray, List.getElem?_cons_zero]; try rfl)
  · kernel_rfl
  · kernel_rfl
  · kernel_rfl
  · exact fun _ _ _ h => h
  · refine Or.inl ⟨by rfl, ?_⟩
    (intro V hSV; (try dsimp only at hSV); obtain ⟨q0, q1, q2, q3⟩ := hSV; go_simp; try with_reducible rfl)
  (try simp only [Act.put, List.setIfInBounds_toArray, List.set_cons_zero, List.set_cons_succ])
  refine wpAnyH_take (i := 1) (oi := ?_) (v := ?_) ?_ ?_ ?_ ?_ ?_ ?_ (by exact hHeld) ?_
  rotate_left 2
  · (simp only [List.getElem?_toArray, List.getElem?_cons_zero, List.getElem?_cons_succ]; try rfl)
  · kernel_rfl
  · kernel_rfl
  · kernel_rfl
  · exact fun _ _ _ h => h
  · refine Or.inl ⟨by rfl, ?_⟩
    (intro V hSV; (try dsimp only at hSV); obtain ⟨q0, q1, q2, q3⟩ := hSV; go_simp; try with_reducible rfl)
  (try simp only [Act.put, List.setIfInBounds_toArray, List.set_cons_zero, List.set_cons_succ])
  refine wpAnyH_ready (rs := [2]) (by kernel_rfl) (by simp) ?_
  refine AllReadyH.cons rfl (fun K hK => ?_) AllReadyH.nil
  go_simp
  refine (toStack_any A0 u0 c0 B0 r0 d0 _ (by omega) (by omega) (by exact HU.out) (by exact HR.out)).mono ?_
  rintro e y1 ⟨yA, yc, yf, yB, yd, yg, rfl, ho, hby1⟩
  have hby1 : Below g1.heap.size g1 y1 := ⟨hby1.os, hby1.tape, hby1.output, hby1.size, hby1.block⟩
  have hbR := hby1
  have ho : OwS y1 g1.heap.size yA u0 yc yf yB r0 yd yg := ⟨ho.u, ho.r, ho.dis⟩
  have yO := Lib.hid ho
  have xO1 := Lib.hid (xO.out.below hby1)
  clear ho
  go_wp2_with fail
  refine hK.out _ _ (by exact ⟨((hbR).cell (p := ⟨w.heap.size, 0, none⟩) zA).trans p0, ((hbR).cell (p := ⟨w.heap.size, 1, none⟩) zA).trans p1, ((hbR).cell (p := ⟨x1.heap.size, 0, none⟩) zX).trans q0, ((hbR).cell (p := ⟨x1.heap.size, 1, none⟩) zX).trans q1⟩) (fun hHeld => ?_)
  clear hK K
  (try simp only [Act.put, List.setIfInBounds_toArray, List.set_cons_zero, List.set_cons_succ])
  refine wpAnyH_ready (rs := [3]) (by kernel_rfl) (by simp) ?_
  refine AllReadyH.cons rfl (fun K hK => ?_) AllReadyH.nil
  go_simp
  refine (eqStack_any xA u0 xc xB r0 xd yA u0 yc yB r0 yd _ hu9 hr9 (by exact xO1.out.u.es) (by exact xO1.out.r.es) (by exact yO.out.u.es) (by exact yO.out.r.es)).mono ?_
  rintro e y2 ⟨rfl, hby2⟩
  rw [decide_eq_true (rfl : u0 = u0), decide_eq_true (rfl : r0 = r0), Bool.and_self]
  have hby2 : Below y1.heap.size y1 y2 := ⟨hby2.os, hby2.tape, hby2.output, hby2.size, hby2.block⟩
  have hbR := below_then hbR hby2
  go_wp2_with fail
  refine hK.out _ _ (by exact ⟨((hbR).cell (p := ⟨w.heap.size, 0, none⟩) zA).trans p0, ((hbR).cell (p := ⟨w.heap.size, 1, none⟩) zA).trans p1, ((hbR).cell (p := ⟨x1.heap.size, 0, none⟩) zX).trans q0, ((hbR).cell (p := ⟨x1.heap.size, 1, none⟩) zX).trans q1⟩) (fun hHeld => ?_)
  clear hK K
  (try simp only [Act.put, List.setIfInBounds_toArray, List.set_cons_zero, List.set_cons_succ])
  refine wpAnyH_take (i := 4) (oi := ?_) (v := ?_) ?_ ?_ ?_ ?_ ?_ ?_ (by exact hHeld) ?_
  rotate_left 2
  · (simp only [List.getElem?_toArray, List.getElem?_cons_zero, List.getElem?_cons_succ]; try rfl)
  · kernel_rfl
  · kernel_rfl
  · kernel_rfl
  · exact fun _ _ _ h => h
  · refine Or.inl ⟨by rfl, ?_⟩
    (intro V hSV; (try dsimp only at hSV); obtain ⟨q0, q1, q2, q3⟩ := hSV; go_simp; try with_reducible rfl)
  (try simp only [Act.put, List.setIfInBounds_toArray, List.set_cons_zero, List.set_cons_succ])
  refine wpAnyH_done (by kernel_rfl) ?_ _
  clear hHeld yO xO1 HU HR zA zX hby1 hby2
  clear p0 p1
  clear q0 q1
  have AX := Lib.hid (AX.out.below hbR)
  have xO := Lib.hid (xO.out.below hbR)
  have XB := Lib.hid (XB.out.below hbR)
  have HB := Lib.hid (below_then HB.out hbR)
  clear hbR
  go_wp2
  go_ret
  exact ⟨rfl, HB.out⟩

end Go.Proofs.Ytalcjgmmlmhngaa.fnExactStackOk
