/-
  FnExactDocOk, its walk. Own work.
-/
import Derived.Test.YtkplfbhblbinaabGreatDoorQp0
import Derived.Test.YtkplfbhblbinaabGreatDoorQC16
import Derived.Test.YtkplfbhblbinaabGreatDoorQD06
import Derived.Test.YtkplfbhblbinaabGreatDoorQD08
import Derived.Deep.RegionHeld3
import Derived.Deep.DeepCutAuto
namespace Go.Proofs.YtkplfbhblbinaabGreatDoor.fnExactDocOk
open Go.ChangeShapes Go.WideShapes Go.ChangeAt Go.RowKit P
set_option linter.unusedVariables false
set_option maxRecDepth 100000

set_option maxHeartbeats 16000000 in
theorem walk (b0 : Da) (d0 : Dc) (w : World) (hR0 : RdD w b0 d0) (hT : Tab w) :
    Calls Tryz.prog 3 #[.agg #[.slice b0.s d0.start.length b0.cs, .slice b0.t d0.text.length b0.ct, .slice b0.l d0.log.length b0.cl, .int .i64 d0.clock, .slice b0.m d0.mem.length b0.cm, .slice b0.e d0.lea.length b0.ce]] w fun e w' => e = .returned (.bool true) ∧ Below w.heap.size w w' := by
  have AX := Lib.hid (Blk.new w #[.slice b0.s d0.start.length b0.cs, .slice b0.t d0.text.length b0.ct, .slice b0.l d0.log.length b0.cl, .int .i64 d0.clock, .slice b0.m d0.mem.length b0.cm, .slice b0.e d0.lea.length b0.ce] 27)
  have HB := Lib.hid ((Below.refl w.heap.size w).alloc (Nat.le_refl _) (.cells #[.slice b0.s d0.start.length b0.cs, .slice b0.t d0.text.length b0.ct, .slice b0.l d0.log.length b0.cl, .int .i64 d0.clock, .slice b0.m d0.mem.length b0.cm, .slice b0.e d0.lea.length b0.ce] 27))
  obtain ⟨z, hz⟩ : ∃ z, docOk d0 = z := ⟨_, rfl⟩
  have HZ := Lib.hid hz
  have hzz : (z != z) = false := by simp
  clear hz
  go_enter Tryz.func3, Tryz.ntmps3
  have HR := Lib.hid (hR0.below HB.out)
  have p0 := AX.out.cell 0
  have p1 := AX.out.cell 1
  have p2 := AX.out.cell 2
  have p3 := AX.out.cell 3
  have p4 := AX.out.cell 4
  have p5 := AX.out.cell 5
  go_wp2_with fail
  refine (szDoc_any b0 d0 1048576 _ (by omega) (by omega) HR.out).mono ?_
  rintro e s0 ⟨⟨q0, rfl, hq0⟩, hb⟩
  have AX := Lib.hid (AX.out.below hb)
  have HB := Lib.hid (below_then HB.out hb)
  clear hb HR
  clear p0 p1 p2 p3 p4 p5
  by_cases hneg : q0 < 0
  · go_wp2
    go_ret
    exact ⟨rfl, HB.out⟩
  have hsz : dtot d0 ≤ 1048576 := by omega
  clear hq0
  have HR := Lib.hid (hR0.below HB.out)
  have p0 := AX.out.cell 0
  have p1 := AX.out.cell 1
  have p2 := AX.out.cell 2
  have p3 := AX.out.cell 3
  have p4 := AX.out.cell 4
  have p5 := AX.out.cell 5
  go_wp2_with fail
  refine (toDoc_any b0 d0 _ hsz HR.out).mono ?_
  rintro e m1 ⟨ma, mfs, mft, mfl, mfm, mfe, rfl, ho, hb⟩
  have mO := Lib.hid ho
  clear ho HR
  have AX := Lib.hid (AX.out.below hb)
  have HB := Lib.hid (below_then HB.out hb)
  clear hb
  clear p0 p1 p2 p3 p4 p5
  go_wp2_with fail
  refine (specDocOk_any ma d0 _ mO.out.rd).mono ?_
  rintro e m2 ⟨rfl, hb⟩
  rw [HZ.out]
  clear mO
  have AX := Lib.hid (AX.out.below hb)
  have HB := Lib.hid (below_then HB.out hb)
  clear hb
  have HR := Lib.hid (hR0.below HB.out)
  have p0 := AX.out.cell 0
  have p1 := AX.out.cell 1
  have p2 := AX.out.cell 2
  have p3 := AX.out.cell 3
  have p4 := AX.out.cell 4
  have p5 := AX.out.cell 5
  go_wp2_with fail
  refine (toDoc_any b0 d0 _ hsz HR.out).mono ?_
  rintro e x1 ⟨xa, xfs, xft, xfl, xfm, xfe, rfl, ho, hb⟩
  have hal := (Below.refl x1.heap.size x1).alloc (Nat.le_refl _) (.cells #[.slice xa.s d0.start.length xa.cs, .slice xa.t d0.text.length xa.ct, .slice xa.l d0.log.length xa.cl, .int .i64 d0.clock, .slice xa.m d0.mem.length xa.cm, .slice xa.e d0.lea.length xa.ce] 34)
  have hb2 := below_then hb hal
  have xO := Lib.hid (ho.below hal)
  have XB := Lib.hid (Blk.new x1 #[.slice xa.s d0.start.length xa.cs, .slice xa.t d0.text.length xa.ct, .slice xa.l d0.log.length xa.cl, .int .i64 d0.clock, .slice xa.m d0.mem.length xa.cm, .slice xa.e d0.lea.length xa.ce] 34)
  clear ho HR hb hal
  have AX := Lib.hid (AX.out.below hb2)
  have HB := Lib.hid (below_then HB.out hb2)
  clear hb2
  clear p0 p1 p2 p3 p4 p5
  have q0 := XB.out.cell 0
  have q1 := XB.out.cell 1
  have q2 := XB.out.cell 2
  have q3 := XB.out.cell 3
  have q4 := XB.out.cell 4
  have q5 := XB.out.cell 5
  go_wp2_with fail
  generalize x1.alloc (.cells #[.slice xa.s d0.start.length xa.cs, .slice xa.t d0.text.length xa.ct, .slice xa.l d0.log.length xa.cl, .int .i64 d0.clock, .slice xa.m d0.mem.length xa.cm, .slice xa.e d0.lea.length xa.ce] 34) = xw at *
  refine (implDocOk_any xa d0 _ (by exact hT.below HB.out) xO.out.rd).mono ?_
  rintro e g1 ⟨rfl, hb⟩
  rw [HZ.out]
  have AX := Lib.hid (AX.out.below hb)
  have xO := Lib.hid (xO.out.below hb)
  have XB := Lib.hid (XB.out.below hb)
  have HB := Lib.hid (below_then HB.out hb)
  clear hb
  clear q0 q1 q2 q3 q4 q5
  have HR := Lib.hid (hR0.below HB.out)
  have p0 := AX.out.cell 0
  have p1 := AX.out.cell 1
  have p2 := AX.out.cell 2
  have p3 := AX.out.cell 3
  have p4 := AX.out.cell 4
  have p5 := AX.out.cell 5
  have q0 := XB.out.cell 0
  have q1 := XB.out.cell 1
  have q2 := XB.out.cell 2
  have q3 := XB.out.cell 3
  have q4 := XB.out.cell 4
  have q5 := XB.out.cell 5
  have zA := AX.out.lt
  have zX := XB.out.lt
  go_wp2_with fail
  refine wp_region_held_drew (S := (fun V => V.cell? ⟨w.heap.size, 0, none⟩ = some (.slice b0.s d0.start.length b0.cs) ∧ V.cell? ⟨w.heap.size, 1, none⟩ = some (.slice b0.t d0.text.length b0.ct) ∧ V.cell? ⟨w.heap.size, 2, none⟩ = some (.slice b0.l d0.log.length b0.cl) ∧ V.cell? ⟨w.heap.size, 3, none⟩ = some (.int .i64 d0.clock) ∧ V.cell? ⟨w.heap.size, 4, none⟩ = some (.slice b0.m d0.mem.length b0.cm) ∧ V.cell? ⟨w.heap.size, 5, none⟩ = some (.slice b0.e d0.lea.length b0.ce) ∧ V.cell? ⟨x1.heap.size, 0, none⟩ = some (.slice xa.s d0.start.length xa.cs) ∧ V.cell? ⟨x1.heap.size, 1, none⟩ = some (.slice xa.t d0.text.length xa.ct) ∧ V.cell? ⟨x1.heap.size, 2, none⟩ = some (.slice xa.l d0.log.length xa.cl) ∧ V.cell? ⟨x1.heap.size, 3, none⟩ = some (.int .i64 d0.clock) ∧ V.cell? ⟨x1.heap.size, 4, none⟩ = some (.slice xa.m d0.mem.length xa.cm) ∧ V.cell? ⟨x1.heap.size, 5, none⟩ = some (.slice xa.e d0.lea.length xa.ce))) (by kernel_rfl) (by exact ⟨p0, p1, p2, p3, p4, p5, q0, q1, q2, q3, q4, q5⟩) (fun hHeld => ?_)
  refine wpAnyH_take (i := 0) (oi := ?_) (v := ?_) ?_ ?_ ?_ ?_ ?_ ?_ (by exact hHeld) ?_
  rotate_left 2
  · (simp only [List.getElem?_toArray, List.getElem?_cons_zero]; try rfl)
  · kernel_rfl
  · kernel_rfl
  · kernel_rfl
  · exact fun _ _ _ h => h
  · refine Or.inl ⟨by rfl, ?_⟩
    (intro V hSV; (try dsimp only at hSV); obtain ⟨q0, q1, q2, q3, q4, q5, q6, q7, q8, q9, q10, q11⟩ := hSV; go_simp; try with_reducible rfl)
  (try simp only [Act.put, List.setIfInBounds_toArray, List.set_cons_zero, List.set_cons_succ])
  refine wpAnyH_take (i := 1) (oi := ?_) (v := ?_) ?_ ?_ ?_ ?_ ?_ ?_ (by exact hHeld) ?_
  rotate_left 2
  · (simp only [List.getElem?_toArray, List.getElem?_cons_zero, List.getElem?_cons_succ]; try rfl)
  · kernel_rfl
  · kernel_rfl
  · kernel_rfl
  · exact fun _ _ _ h => h
  · refine Or.inl ⟨by rfl, ?_⟩
    (intro V hSV; (try dsimp only at hSV); obtain ⟨q0, q1, q2, q3, q4, q5, q6, q7, q8, q9, q10, q11⟩ := hSV; go_simp; try with_reducible rfl)
  (try simp only [Act.put, List.setIfInBounds_toArray, List.set_cons_zero, List.set_cons_succ])
  refine wpAnyH_ready (rs := [2]) (by kernel_rfl) (by simp) ?_
  refine AllReadyH.cons rfl (fun K hK => ?_) AllReadyH.nil
  go_simp
  refine (toDoc_any b0 d0 _ hsz (by first | exact HR.out | exact HR.out.below (bsk4 _))).mono ?_
  rintro e y1 ⟨ya, yfs, yft, yfl, yfm, yfe, rfl, ho, hby1⟩
  have hby1 : Below g1.heap.size g1 y1 := ⟨hby1.os, hby1.tape, hby1.output, hby1.size, hby1.block⟩
  have hbR := hby1
  have yO := Lib.hid ho.rd
  have xO1 := Lib.hid (xO.out.below hby1)
  clear ho
  go_wp2_with fail
  refine hK.out _ _ (by exact ⟨((hbR).cell (p := ⟨w.heap.size, 0, none⟩) zA).trans p0, ((hbR).cell (p := ⟨w.heap.size, 1, none⟩) zA).trans p1, ((hbR).cell (p := ⟨w.heap.size, 2, none⟩) zA).trans p2, ((hbR).cell (p := ⟨w.heap.size, 3, none⟩) zA).trans p3, ((hbR).cell (p := ⟨w.heap.size, 4, none⟩) zA).trans p4, ((hbR).cell (p := ⟨w.heap.size, 5, none⟩) zA).trans p5, ((hbR).cell (p := ⟨x1.heap.size, 0, none⟩) zX).trans q0, ((hbR).cell (p := ⟨x1.heap.size, 1, none⟩) zX).trans q1, ((hbR).cell (p := ⟨x1.heap.size, 2, none⟩) zX).trans q2, ((hbR).cell (p := ⟨x1.heap.size, 3, none⟩) zX).trans q3, ((hbR).cell (p := ⟨x1.heap.size, 4, none⟩) zX).trans q4, ((hbR).cell (p := ⟨x1.heap.size, 5, none⟩) zX).trans q5⟩) (fun hHeld => ?_)
  clear hK K
  (try simp only [Act.put, List.setIfInBounds_toArray, List.set_cons_zero, List.set_cons_succ])
  refine wpAnyH_ready (rs := [3]) (by kernel_rfl) (by simp) ?_
  refine AllReadyH.cons rfl (fun K hK => ?_) AllReadyH.nil
  go_simp
  refine (eqDoc_any xa ya d0 d0 _ (by first | exact xO1.out.rd | exact xO1.out.rd.below (bsk4 _)) (by first | exact yO.out | exact yO.out.below (bsk4 _))).mono ?_
  rintro e y2 ⟨rfl, hby2⟩
  rw [decide_eq_true (rfl : d0 = d0)]
  have hby2 : Below y1.heap.size y1 y2 := ⟨hby2.os, hby2.tape, hby2.output, hby2.size, hby2.block⟩
  have hbR := below_then hbR hby2
  go_wp2_with fail
  refine hK.out _ _ (by exact ⟨((hbR).cell (p := ⟨w.heap.size, 0, none⟩) zA).trans p0, ((hbR).cell (p := ⟨w.heap.size, 1, none⟩) zA).trans p1, ((hbR).cell (p := ⟨w.heap.size, 2, none⟩) zA).trans p2, ((hbR).cell (p := ⟨w.heap.size, 3, none⟩) zA).trans p3, ((hbR).cell (p := ⟨w.heap.size, 4, none⟩) zA).trans p4, ((hbR).cell (p := ⟨w.heap.size, 5, none⟩) zA).trans p5, ((hbR).cell (p := ⟨x1.heap.size, 0, none⟩) zX).trans q0, ((hbR).cell (p := ⟨x1.heap.size, 1, none⟩) zX).trans q1, ((hbR).cell (p := ⟨x1.heap.size, 2, none⟩) zX).trans q2, ((hbR).cell (p := ⟨x1.heap.size, 3, none⟩) zX).trans q3, ((hbR).cell (p := ⟨x1.heap.size, 4, none⟩) zX).trans q4, ((hbR).cell (p := ⟨x1.heap.size, 5, none⟩) zX).trans q5⟩) (fun hHeld => ?_)
  clear hK K
  (try simp only [Act.put, List.setIfInBounds_toArray, List.set_cons_zero, List.set_cons_succ])
  refine wpAnyH_take (i := 4) (oi := ?_) (v := ?_) ?_ ?_ ?_ ?_ ?_ ?_ (by exact hHeld) ?_
  rotate_left 2
  · (simp only [List.getElem?_toArray, List.getElem?_cons_zero, List.getElem?_cons_succ]; try rfl)
  · kernel_rfl
  · kernel_rfl
  · kernel_rfl
  · exact fun _ _ _ h => h
  · refine Or.inl ⟨by rfl, ?_⟩
    (intro V hSV; (try dsimp only at hSV); obtain ⟨q0, q1, q2, q3, q4, q5, q6, q7, q8, q9, q10, q11⟩ := hSV; go_simp; try with_reducible rfl)
  (try simp only [Act.put, List.setIfInBounds_toArray, List.set_cons_zero, List.set_cons_succ])
  refine wpAnyH_done (by kernel_rfl) ?_ _
  clear hHeld yO xO1 HR zA zX hby1 hby2
  clear p0 p1 p2 p3 p4 p5
  clear q0 q1 q2 q3 q4 q5
  have AX := Lib.hid (AX.out.below hbR)
  have xO := Lib.hid (xO.out.below hbR)
  have XB := Lib.hid (XB.out.below hbR)
  have HB := Lib.hid (below_then HB.out hbR)
  clear hbR
  go_wp2
  go_ret
  exact ⟨rfl, HB.out⟩

end Go.Proofs.YtkplfbhblbinaabGreatDoor.fnExactDocOk
