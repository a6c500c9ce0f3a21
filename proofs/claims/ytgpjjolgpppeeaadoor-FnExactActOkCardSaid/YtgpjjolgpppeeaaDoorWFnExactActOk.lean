/-
  FnExactActOk, its walk. Own work.
-/
import Derived.Test.YtgpjjolgpppeeaaDoorC23
import Derived.Test.YtgpjjolgpppeeaaDoorC05
import Derived.Test.YtgpjjolgpppeeaaDoorEB
import Derived.Test.YtgpjjolgpppeeaaDoorM03
import Derived.Deep.RegionHeld3
import Derived.Deep.DeepCutAuto
namespace Go.Proofs.YtgpjjolgpppeeaaDoor.fnExactActOk
open Go.ChangeShapes Go.WideShapes Go.ChangeAt Go.RowKit P
set_option linter.unusedVariables false
set_option maxRecDepth 100000

set_option maxHeartbeats 16000000 in
theorem walk (k n b x s p q r : Int) (A : Option Addr) (l : List UInt8) (c : Nat) (hc : l.length ≤ c) (hm : c ≤ maxLen) (w : World) (hL : Bs w A l) (hT : Tab w) :
    Calls Tryd.prog 3 #[.agg #[.int .i64 k, .int .i64 n, .int .i64 b, .int .i64 x, .int .i64 s, .int .i64 p, .int .i64 q, .int .i64 r, .slice A l.length c]] w fun e w' => e = .returned (.bool true) ∧ Below w.heap.size w w' := by
  have hn9 : l.length ≤ 9223372036854775807 := by unfold maxLen at hm; omega
  clear hc hm
  have hb0 := bsk13 w (.cells #[.int .i64 k, .int .i64 n, .int .i64 b, .int .i64 x, .int .i64 s, .int .i64 p, .int .i64 q, .int .i64 r, .slice A l.length c] 26)
  have BA := Lib.hid (Blk.new w #[.int .i64 k, .int .i64 n, .int .i64 b, .int .i64 x, .int .i64 s, .int .i64 p, .int .i64 q, .int .i64 r, .slice A l.length c] 26)
  obtain ⟨z, hze⟩ : ∃ z, actOk k n b x s p q r l = z := ⟨_, rfl⟩
  have HZE := Lib.hid hze
  have hzz : (z != z) = false := by simp
  clear hze
  go_enter Tryd.func3, Tryd.ntmps3
  go_wp2_with fail
  generalize w.alloc (.cells #[.int .i64 k, .int .i64 n, .int .i64 b, .int .i64 x, .int .i64 s, .int .i64 p, .int .i64 q, .int .i64 r, .slice A l.length c] 26) = W0 at *
  have HB := Lib.hid hb0
  clear hb0
  refine (szAct_any k n b x s p q r A l.length c 1048576 _ hn9 (by omega) (by omega)).mono ?_
  rintro e s1 ⟨⟨n1, rfl, hr⟩, hb⟩
  have z1 := hb.size
  have BA := Lib.hid (BA.out.below hb)
  have HB := Lib.hid (below_then HB.out hb)
  clear hb
  by_cases hneg : n1 < 0
  · go_wp2
    go_ret
    exact ⟨rfl, HB.out⟩
  have hl : l.length ≤ 1048576 := by omega
  clear hr
  have zA : w.heap.size < s1.heap.size := BA.out.lt
  have q0 := BA.out.cell 0
  have q1 := BA.out.cell 1
  have q2 := BA.out.cell 2
  have q3 := BA.out.cell 3
  have q4 := BA.out.cell 4
  have q5 := BA.out.cell 5
  have q6 := BA.out.cell 6
  have q7 := BA.out.cell 7
  have q8 := BA.out.cell 8
  have HL := Lib.hid (hL.below HB.out)
  go_wp2_with fail
  refine (toAct_any k n b x s p q r A l c _ hl (by exact HL.out)).mono ?_
  rintro e m1 ⟨v, rfl, hown, hb⟩
  obtain ⟨MA, Mc, rfl, Mh, Mk, _, _, _⟩ := own_plain9 hown
  have RM := Lib.hid hown.range
  have z2 := hb.size
  have BA := Lib.hid (BA.out.below hb)
  have HB := Lib.hid (below_then HB.out hb)
  have M := Lib.hid hown
  clear hown HL
  clear hb
  clear q0 q1 q2 q3 q4 q5 q6 q7 q8
  go_wp2_with fail
  refine (specActOk_any k n b x s p q r MA l Mc _ Mh Mk (by exact own_bs9 M.out)).mono ?_
  rintro e m2 ⟨rfl, hb⟩
  rw [HZE.out]
  have z3 := hb.size
  have BA := Lib.hid (BA.out.below hb)
  have M := Lib.hid (M.out.below hb)
  have HB := Lib.hid (below_then HB.out hb)
  clear hb
  clear M
  have q0 := BA.out.cell 0
  have q1 := BA.out.cell 1
  have q2 := BA.out.cell 2
  have q3 := BA.out.cell 3
  have q4 := BA.out.cell 4
  have q5 := BA.out.cell 5
  have q6 := BA.out.cell 6
  have q7 := BA.out.cell 7
  have q8 := BA.out.cell 8
  have HL := Lib.hid (hL.below HB.out)
  go_wp2_with fail
  refine (toAct_any k n b x s p q r A l c _ hl (by exact HL.out)).mono ?_
  rintro e x1 ⟨v, rfl, hown, hb⟩
  obtain ⟨XA, Xc, rfl, Xh, Xk, _, _, _⟩ := own_plain9 hown
  have RX := Lib.hid hown.range
  have z4 := hb.size
  have BA := Lib.hid (BA.out.below hb)
  have HB := Lib.hid (below_then HB.out hb)
  have X := Lib.hid hown
  clear hown HL
  clear hb
  clear q0 q1 q2 q3 q4 q5 q6 q7 q8
  have hal := (Below.refl x1.heap.size x1).alloc (Nat.le_refl _) (.cells #[.int .i64 k, .int .i64 n, .int .i64 b, .int .i64 x, .int .i64 s, .int .i64 p, .int .i64 q, .int .i64 r, .slice XA l.length Xc] 31)
  have hbx := Blk.new x1 #[.int .i64 k, .int .i64 n, .int .i64 b, .int .i64 x, .int .i64 s, .int .i64 p, .int .i64 q, .int .i64 r, .slice XA l.length Xc] 31
  have zbXB : x1.heap.size < (x1.alloc (.cells #[.int .i64 k, .int .i64 n, .int .i64 b, .int .i64 x, .int .i64 s, .int .i64 p, .int .i64 q, .int .i64 r, .slice XA l.length Xc] 31)).heap.size := by simp
  have BA := Lib.hid (BA.out.below hal)
  have X := Lib.hid (X.out.below hal)
  have HB := Lib.hid (below_then HB.out hal)
  have z5 := hal.size
  have XB := Lib.hid hbx
  clear hbx hal
  have q0 := XB.out.cell 0
  have q1 := XB.out.cell 1
  have q2 := XB.out.cell 2
  have q3 := XB.out.cell 3
  have q4 := XB.out.cell 4
  have q5 := XB.out.cell 5
  have q6 := XB.out.cell 6
  have q7 := XB.out.cell 7
  have q8 := XB.out.cell 8
  have HT := Lib.hid (hT.below HB.out)
  have HX := Lib.hid (own_bs9 X.out)
  go_wp2_with fail
  generalize x1.alloc (.cells #[.int .i64 k, .int .i64 n, .int .i64 b, .int .i64 x, .int .i64 s, .int .i64 p, .int .i64 q, .int .i64 r, .slice XA l.length Xc] 31) = xw at *
  refine (implActOk_any k n b x s p q r XA l Xc _ Xh Xk (by exact HT.out) (by exact HX.out)).mono ?_
  rintro e g1 ⟨rfl, hb⟩
  rw [HZE.out]
  have z6 := hb.size
  have BA := Lib.hid (BA.out.below hb)
  have X := Lib.hid (X.out.below hb)
  have XB := Lib.hid (XB.out.below hb)
  have HB := Lib.hid (below_then HB.out hb)
  clear hb
  clear q0 q1 q2 q3 q4 q5 q6 q7 q8
  clear HX HT
  have HL := Lib.hid (hL.below HB.out)
  have HV := Lib.hid (own_bs9 X.out)
  have a0 := BA.out.cell 0
  have a1 := BA.out.cell 1
  have a2 := BA.out.cell 2
  have a3 := BA.out.cell 3
  have a4 := BA.out.cell 4
  have a5 := BA.out.cell 5
  have a6 := BA.out.cell 6
  have a7 := BA.out.cell 7
  have a8 := BA.out.cell 8
  have b0 := XB.out.cell 0
  have b1 := XB.out.cell 1
  have b2 := XB.out.cell 2
  have b3 := XB.out.cell 3
  have b4 := XB.out.cell 4
  have b5 := XB.out.cell 5
  have b6 := XB.out.cell 6
  have b7 := XB.out.cell 7
  have b8 := XB.out.cell 8
  have la := BA.out.lt
  have lb := XB.out.lt
  go_wp2_with fail
  refine wp_region_held_drew (S := (fun V => V.cell? ⟨w.heap.size, 0, none⟩ = some (.int .i64 k) ∧ V.cell? ⟨w.heap.size, 1, none⟩ = some (.int .i64 n) ∧ V.cell? ⟨w.heap.size, 2, none⟩ = some (.int .i64 b) ∧ V.cell? ⟨w.heap.size, 3, none⟩ = some (.int .i64 x) ∧ V.cell? ⟨w.heap.size, 4, none⟩ = some (.int .i64 s) ∧ V.cell? ⟨w.heap.size, 5, none⟩ = some (.int .i64 p) ∧ V.cell? ⟨w.heap.size, 6, none⟩ = some (.int .i64 q) ∧ V.cell? ⟨w.heap.size, 7, none⟩ = some (.int .i64 r) ∧ V.cell? ⟨w.heap.size, 8, none⟩ = some (.slice A l.length c) ∧ V.cell? ⟨x1.heap.size, 0, none⟩ = some (.int .i64 k) ∧ V.cell? ⟨x1.heap.size, 1, none⟩ = some (.int .i64 n) ∧ V.cell? ⟨x1.heap.size, 2, none⟩ = some (.int .i64 b) ∧ V.cell? ⟨x1.heap.size, 3, none⟩ = some (.int .i64 x) ∧ V.cell? ⟨x1.heap.size, 4, none⟩ = some (.int .i64 s) ∧ V.cell? ⟨x1.heap.size, 5, none⟩ = some (.int .i64 p) ∧ V.cell? ⟨x1.heap.size, 6, none⟩ = some (.int .i64 q) ∧ V.cell? ⟨x1.heap.size, 7, none⟩ = some (.int .i64 r) ∧ V.cell? ⟨x1.heap.size, 8, none⟩ = some (.slice XA l.length Xc))) (by kernel_rfl) (by exact ⟨a0, a1, a2, a3, a4, a5, a6, a7, a8, b0, b1, b2, b3, b4, b5, b6, b7, b8⟩) (fun hHeld => ?_)
  refine wpAnyH_take (i := 0) (oi := ?_) (v := ?_) ?_ ?_ ?_ ?_ ?_ ?_ (by exact hHeld) ?_
  rotate_left 2
  · (simp only [List.getElem?_toArray, List.getElem?_cons_zero]; try rfl)
  · kernel_rfl
  · kernel_rfl
  · kernel_rfl
  · exact fun _ _ _ h => h
  · refine Or.inl ⟨by rfl, ?_⟩
    (intro V hSV; (try dsimp only at hSV); obtain ⟨q0, q1, q2, q3, q4, q5, q6, q7, q8, q9, q10, q11, q12, q13, q14, q15, q16, q17⟩ := hSV; go_simp; try with_reducible rfl)
  (try simp only [Act.put, List.setIfInBounds_toArray, List.set_cons_zero, List.set_cons_succ])
  refine wpAnyH_take (i := 1) (oi := ?_) (v := ?_) ?_ ?_ ?_ ?_ ?_ ?_ (by exact hHeld) ?_
  rotate_left 2
  · (simp only [List.getElem?_toArray, List.getElem?_cons_zero, List.getElem?_cons_succ]; try rfl)
  · kernel_rfl
  · kernel_rfl
  · kernel_rfl
  · exact fun _ _ _ h => h
  · refine Or.inl ⟨by rfl, ?_⟩
    (intro V hSV; (try dsimp only at hSV); obtain ⟨q0, q1, q2, q3, q4, q5, q6, q7, q8, q9, q10, q11, q12, q13, q14, q15, q16, q17⟩ := hSV; go_simp; try with_reducible rfl)
  (try simp only [Act.put, List.setIfInBounds_toArray, List.set_cons_zero, List.set_cons_succ])
  refine wpAnyH_ready (rs := [2]) (by kernel_rfl) (by simp) ?_
  refine AllReadyH.cons rfl (fun K hK => ?_) AllReadyH.nil
  go_simp
  refine (toAct_any k n b x s p q r A l c _ hl (by exact HL.out)).mono ?_
  rintro e u1 ⟨v, rfl, hown, hb⟩
  obtain ⟨uA, uc, rfl, _, _, _, _, _⟩ := own_plain9 hown
  have hb : Below g1.heap.size g1 u1 := ⟨hb.os, hb.tape, hb.output, hb.size, hb.block⟩
  have HU := Lib.hid (own_bs9 hown)
  have HV := Lib.hid (HV.out.below hb)
  have HB1 := Lib.hid hb
  clear hown hb
  go_wp2_with fail
  refine hK.out _ _ (by exact ⟨((HB1.out).cell (p := ⟨w.heap.size, 0, none⟩) la).trans a0, ((HB1.out).cell (p := ⟨w.heap.size, 1, none⟩) la).trans a1, ((HB1.out).cell (p := ⟨w.heap.size, 2, none⟩) la).trans a2, ((HB1.out).cell (p := ⟨w.heap.size, 3, none⟩) la).trans a3, ((HB1.out).cell (p := ⟨w.heap.size, 4, none⟩) la).trans a4, ((HB1.out).cell (p := ⟨w.heap.size, 5, none⟩) la).trans a5, ((HB1.out).cell (p := ⟨w.heap.size, 6, none⟩) la).trans a6, ((HB1.out).cell (p := ⟨w.heap.size, 7, none⟩) la).trans a7, ((HB1.out).cell (p := ⟨w.heap.size, 8, none⟩) la).trans a8, ((HB1.out).cell (p := ⟨x1.heap.size, 0, none⟩) lb).trans b0, ((HB1.out).cell (p := ⟨x1.heap.size, 1, none⟩) lb).trans b1, ((HB1.out).cell (p := ⟨x1.heap.size, 2, none⟩) lb).trans b2, ((HB1.out).cell (p := ⟨x1.heap.size, 3, none⟩) lb).trans b3, ((HB1.out).cell (p := ⟨x1.heap.size, 4, none⟩) lb).trans b4, ((HB1.out).cell (p := ⟨x1.heap.size, 5, none⟩) lb).trans b5, ((HB1.out).cell (p := ⟨x1.heap.size, 6, none⟩) lb).trans b6, ((HB1.out).cell (p := ⟨x1.heap.size, 7, none⟩) lb).trans b7, ((HB1.out).cell (p := ⟨x1.heap.size, 8, none⟩) lb).trans b8⟩) (fun hHeld => ?_)
  clear hK K
  (try simp only [Act.put, List.setIfInBounds_toArray, List.set_cons_zero, List.set_cons_succ])
  refine wpAnyH_ready (rs := [3]) (by kernel_rfl) (by simp) ?_
  refine AllReadyH.cons rfl (fun K hK => ?_) AllReadyH.nil
  go_simp
  refine (eqAct_same k n b x s p q r XA uA l Xc uc _ hn9 (by exact HV.out) (by exact HU.out)).mono ?_
  rintro e v1 ⟨rfl, hb⟩
  have hb : Below u1.heap.size u1 v1 := ⟨hb.os, hb.tape, hb.output, hb.size, hb.block⟩
  have HB2 := Lib.hid (below_then HB1.out hb)
  clear hb
  go_wp2_with fail
  refine hK.out _ _ (by exact ⟨((HB2.out).cell (p := ⟨w.heap.size, 0, none⟩) la).trans a0, ((HB2.out).cell (p := ⟨w.heap.size, 1, none⟩) la).trans a1, ((HB2.out).cell (p := ⟨w.heap.size, 2, none⟩) la).trans a2, ((HB2.out).cell (p := ⟨w.heap.size, 3, none⟩) la).trans a3, ((HB2.out).cell (p := ⟨w.heap.size, 4, none⟩) la).trans a4, ((HB2.out).cell (p := ⟨w.heap.size, 5, none⟩) la).trans a5, ((HB2.out).cell (p := ⟨w.heap.size, 6, none⟩) la).trans a6, ((HB2.out).cell (p := ⟨w.heap.size, 7, none⟩) la).trans a7, ((HB2.out).cell (p := ⟨w.heap.size, 8, none⟩) la).trans a8, ((HB2.out).cell (p := ⟨x1.heap.size, 0, none⟩) lb).trans b0, ((HB2.out).cell (p := ⟨x1.heap.size, 1, none⟩) lb).trans b1, ((HB2.out).cell (p := ⟨x1.heap.size, 2, none⟩) lb).trans b2, ((HB2.out).cell (p := ⟨x1.heap.size, 3, none⟩) lb).trans b3, ((HB2.out).cell (p := ⟨x1.heap.size, 4, none⟩) lb).trans b4, ((HB2.out).cell (p := ⟨x1.heap.size, 5, none⟩) lb).trans b5, ((HB2.out).cell (p := ⟨x1.heap.size, 6, none⟩) lb).trans b6, ((HB2.out).cell (p := ⟨x1.heap.size, 7, none⟩) lb).trans b7, ((HB2.out).cell (p := ⟨x1.heap.size, 8, none⟩) lb).trans b8⟩) (fun hHeld => ?_)
  clear hK K
  (try simp only [Act.put, List.setIfInBounds_toArray, List.set_cons_zero, List.set_cons_succ])
  refine wpAnyH_take (i := 4) (oi := ?_) (v := ?_) ?_ ?_ ?_ ?_ ?_ ?_ (by exact hHeld) ?_
  rotate_left 2
  · (simp only [List.getElem?_toArray, List.getElem?_cons_zero, List.getElem?_cons_succ]; try rfl)
  · kernel_rfl
  · kernel_rfl
  · kernel_rfl
  · exact fun _ _ _ h => h
  · refine Or.inl ⟨by rfl, ?_⟩
    (intro V hSV; (try dsimp only at hSV); obtain ⟨q0, q1, q2, q3, q4, q5, q6, q7, q8, q9, q10, q11, q12, q13, q14, q15, q16, q17⟩ := hSV; go_simp; try with_reducible rfl)
  (try simp only [Act.put, List.setIfInBounds_toArray, List.set_cons_zero, List.set_cons_succ])
  refine wpAnyH_done (by kernel_rfl) ?_ _
  clear hHeld la lb a0 b0 a1 b1 a2 b2 a3 b3 a4 b4 a5 b5 a6 b6 a7 b7 a8 b8
  have hb := HB2.out
  have z7 := hb.size
  have BA := Lib.hid (BA.out.below hb)
  have X := Lib.hid (X.out.below hb)
  have XB := Lib.hid (XB.out.below hb)
  have HB := Lib.hid (below_then HB.out hb)
  clear hb HB1 HB2 HU HV HL
  go_wp2
  go_ret
  exact ⟨rfl, HB.out⟩

end Go.Proofs.YtgpjjolgpppeeaaDoor.fnExactActOk
