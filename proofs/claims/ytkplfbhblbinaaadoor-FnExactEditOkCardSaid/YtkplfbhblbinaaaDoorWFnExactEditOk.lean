/-
  FnExactEditOk, its walk. Own work.
-/
import Derived.Test.YtkplfbhblbinaaaDoorLaw
import Derived.Test.YtkplfbhblbinaaaDoorC05
import Derived.Test.YtkplfbhblbinaaaDoorS08
import Derived.Test.YtkplfbhblbinaaaDoorI08
import Derived.Deep.RegionHeld3
namespace Go.Proofs.YtkplfbhblbinaaaDoor.fnExactEditOk
open Go.ChangeShapes Go.WideShapes Go.ChangeAt Go.RowKit P
set_option linter.unusedVariables false
set_option maxRecDepth 100000

set_option maxHeartbeats 8000000 in
theorem walk (A : Option Addr) (l : List UInt8) (c : Nat) (hc : l.length ≤ c) (hm : c ≤ maxLen) (a m : Int) (ha : -9223372036854775808 ≤ a ∧ a ≤ 9223372036854775807) (hmm : -9223372036854775808 ≤ m ∧ m ≤ 9223372036854775807) (Ap : Option Addr) (p : List UInt8) (cp : Nat) (hcp : p.length ≤ cp) (hmp : cp ≤ maxLen) (w : World) (hL : Bs w A l) (hP : Bs w Ap p) (hT : Tab w) :
    Calls Tryd.prog 8 #[.slice A l.length c, .agg #[.int .i64 a, .int .i64 m, .slice Ap p.length cp]] w fun e w' => e = .returned (.bool true) ∧ Below w.heap.size w w' := by
  have hn9 : l.length ≤ 9223372036854775807 := by unfold maxLen at hm; omega
  have hp9 : p.length ≤ 9223372036854775807 := by unfold maxLen at hmp; omega
  clear hc hm hcp hmp
  have hb0 := (Below.refl w.heap.size w).alloc (Nat.le_refl _) (.cells #[.int .i64 a, .int .i64 m, .slice Ap p.length cp] 49)
  have BA := Lib.hid (Blk.new w #[.int .i64 a, .int .i64 m, .slice Ap p.length cp] 49)
  obtain ⟨z, hz⟩ : ∃ z, edOk l a m p = z := ⟨_, rfl⟩
  have HZ := Lib.hid hz
  have hzz : (z != z) = false := by simp
  clear hz
  by_cases hbig : 1048576 < (l.length : Int)
  · go_enter Tryd.func8, Tryd.ntmps8
    go_wp2
    go_ret
    exact ⟨rfl, hb0⟩
  have hl : l.length ≤ 1048576 := by omega
  clear hbig
  go_enter Tryd.func8, Tryd.ntmps8
  go_wp2_with fail
  generalize w.alloc (.cells #[.int .i64 a, .int .i64 m, .slice Ap p.length cp] 49) = W0 at *
  refine (szEdit_any a m Ap p.length cp 1048576 _ hp9 (by omega) (by omega)).mono ?_
  rintro e w1 ⟨⟨r, rfl, hr⟩, hb1⟩
  have BA := Lib.hid (BA.out.below hb1)
  have HB := Lib.hid (below_then hb0 hb1)
  clear hb0 hb1
  by_cases hneg : r < 0
  · go_wp2
    go_ret
    exact ⟨rfl, HB.out⟩
  have hp : p.length ≤ 1048576 := by omega
  clear hr
  have hsA := BA.out.lt
  have a0 : w1.cell? ⟨w.heap.size, 0, none⟩ = some (.int .i64 a) := BA.out.cell 0
  have b0 : w1.cell? ⟨w.heap.size, 1, none⟩ = some (.int .i64 m) := BA.out.cell 1
  have c0 : w1.cell? ⟨w.heap.size, 2, none⟩ = some (.slice Ap p.length cp) := BA.out.cell 2
  have HL1 := Lib.hid (hL.below HB.out)
  have HP1 := Lib.hid (hP.below HB.out)
  -- what the model answers
  go_wp2_with fail
  go_region_held3 (fun V => V.cell? ⟨w.heap.size, 0, none⟩ = some (.int .i64 a) ∧ V.cell? ⟨w.heap.size, 1, none⟩ = some (.int .i64 m) ∧ V.cell? ⟨w.heap.size, 2, none⟩ = some (.slice Ap p.length cp)) (exact ⟨(by first | exact a0 | exact a1 | exact a2 | exact a3), (by first | exact b0 | exact b1 | exact b2 | exact b3), (by first | exact c0 | exact c1 | exact c2 | exact c3)⟩) (first
    | (go_at_call 39; refine (toByteS_any A l c _ hl (by exact HL1.out)).mono ?_; rintro e w2 ⟨rfl, hrow2, hb2⟩; have hb2 : Below w1.heap.size w1 w2 := ⟨hb2.os, hb2.tape, hb2.output, hb2.size, hb2.block⟩; have a1 := (hb2.cell (p := ⟨w.heap.size, 0, none⟩) hsA).trans a0; have b1 := (hb2.cell (p := ⟨w.heap.size, 1, none⟩) hsA).trans b0; have c1 := (hb2.cell (p := ⟨w.heap.size, 2, none⟩) hsA).trans c0; have hsA1 := Nat.lt_of_lt_of_le hsA hb2.size; have HX2 := Lib.hid hrow2.bs; have HP2 := Lib.hid (HP1.out.below hb2); have HB2 := Lib.hid hb2; clear hrow2 hb2)
    | (go_at_call 40; refine (toEdit_any a m Ap p cp _ hp (by exact HP2.out)).mono ?_; rintro e w3 ⟨v3, rfl, hown3, hb3⟩; have hb3 : Below w2.heap.size w2 w3 := ⟨hb3.os, hb3.tape, hb3.output, hb3.size, hb3.block⟩; obtain ⟨A3, c3', rfl, hc3, hm3, hB3⟩ := hown3.form; have hm39 : c3' ≤ 9223372036854775807 := (by unfold maxLen at hm3; omega); have a2 := (hb3.cell (p := ⟨w.heap.size, 0, none⟩) hsA1).trans a1; have b2 := (hb3.cell (p := ⟨w.heap.size, 1, none⟩) hsA1).trans b1; have c2 := (hb3.cell (p := ⟨w.heap.size, 2, none⟩) hsA1).trans c1; have hsA2 := Nat.lt_of_lt_of_le hsA1 hb3.size; have HX3 := Lib.hid (HX2.out.below hb3); have HB3 := Lib.hid hB3; have HBB3 := Lib.hid (below_then HB2.out hb3); clear hown3 hb3 hB3)
    | (go_at_call 34; refine (specEditOk_any _ l l.length a m A3 p c3' _ (Nat.le_refl _) hn9 hc3 hm39 (by exact HX3.out) (by exact HB3.out)).mono ?_; rintro e w4 ⟨rfl, hb4⟩; have hb4 : Below w3.heap.size w3 w4 := ⟨hb4.os, hb4.tape, hb4.output, hb4.size, hb4.block⟩; rw [HZ.out]; have a3 := (hb4.cell (p := ⟨w.heap.size, 0, none⟩) hsA2).trans a2; have b3 := (hb4.cell (p := ⟨w.heap.size, 1, none⟩) hsA2).trans b2; have c3 := (hb4.cell (p := ⟨w.heap.size, 2, none⟩) hsA2).trans c2; have HB4 := Lib.hid (below_then HBB3.out hb4); clear hb4))
  have hb4 := HB4.out
  have BA := Lib.hid (BA.out.below hb4)
  have HB := Lib.hid (below_then HB.out hb4)
  have HLc := Lib.hid (hL.below HB.out)
  clear hb4 HB4 HBB3 HB3 HX3 hsA2 hsA1 HX2 HP2 HB2 HL1 HP1 a0 a1 a2 a3 b0 b1 b2 b3 c0 c1 c2 c3 hc3 hm3 hm39 hsA
  -- the copies of the arguments
  go_wp2_with fail
  refine (toByteS_any A l c _ hl (by exact HLc.out)).mono ?_
  rintro e y6 ⟨rfl, hrow6, hb6⟩
  have X0 := Lib.hid (hrow6.own w4.heap.size (Nat.le_refl _) (by unfold maxLen; omega))
  have BA := Lib.hid (BA.out.below hb6)
  have HB := Lib.hid (below_then HB.out hb6)
  have a0 : y6.cell? ⟨w.heap.size, 0, none⟩ = some (.int .i64 a) := BA.out.cell 0
  have b0 : y6.cell? ⟨w.heap.size, 1, none⟩ = some (.int .i64 m) := BA.out.cell 1
  have c0 : y6.cell? ⟨w.heap.size, 2, none⟩ = some (.slice Ap p.length cp) := BA.out.cell 2
  have HPc := Lib.hid (hP.below HB.out)
  clear hrow6 hb6 HLc
  go_wp2_with fail
  refine (toEdit_any a m Ap p cp _ hp (by exact HPc.out)).mono ?_
  rintro e y7 ⟨v7, rfl, hown7, hb7⟩
  obtain ⟨A7, c7, rfl, hc7, hm7, hB7⟩ := hown7.form
  have hm79 : c7 ≤ 9223372036854775807 := by unfold maxLen at hm7; omega
  have hal := (Below.refl y7.heap.size y7).alloc (Nat.le_refl _) (.cells #[.int .i64 a, .int .i64 m, .slice A7 p.length c7] 25)
  have hb7' := below_then hb7 hal
  have X0 := Lib.hid (X0.out.below hb7')
  have X1 := Lib.hid (EBox.new y7 a m A7 p.length c7)
  have P1 := Lib.hid (hB7.below hal)
  have BA := Lib.hid (BA.out.below hb7')
  have HB := Lib.hid (below_then HB.out hb7')
  clear hown7 hB7 hb7 hb7' hal a0 b0 c0 HPc
  go_wp2_with fail
  generalize y7.alloc (.cells #[.int .i64 a, .int .i64 m, .slice A7 p.length c7] 25) = Y7 at *
  have HTc := Lib.hid (hT.below HB.out)
  have k0 := X1.out.c0
  have k1 := X1.out.c1
  have k2 := X1.out.c2
  obtain ⟨_, _, e0, _, _, hX0⟩ := X0.out.form
  cases e0
  go_wp2_with fail
  refine (implEditOk_any _ l l.length a m A7 p c7 _ (Nat.le_refl _) hn9 hc7 hm79 hmm.2 (by exact HTc.out) (by exact hX0) (by exact P1.out)).mono ?_
  rintro e y8 ⟨rfl, hb8⟩
  rw [HZ.out]
  have X0 := Lib.hid (X0.out.below hb8)
  have X1 := Lib.hid (X1.out.below hb8)
  have P1 := Lib.hid (P1.out.below hb8)
  have BA := Lib.hid (BA.out.below hb8)
  have HB := Lib.hid (below_then HB.out hb8)
  have HLc := Lib.hid (hL.below HB.out)
  clear k0 k1 k2 hb8 HTc hX0
  -- the arguments' copies are unchanged
  go_wp2_with fail
  refine (toByteS_any A l c _ hl (by exact HLc.out)).mono ?_
  rintro e y9 ⟨rfl, hrow9, hb9⟩
  have X0 := Lib.hid (X0.out.below hb9)
  have X1 := Lib.hid (X1.out.below hb9)
  have P1 := Lib.hid (P1.out.below hb9)
  have BA := Lib.hid (BA.out.below hb9)
  have HB := Lib.hid (below_then HB.out hb9)
  obtain ⟨_, _, e0, _, _, hX0⟩ := X0.out.form
  cases e0
  have HR9 := Lib.hid hrow9.bs
  have HX0 := Lib.hid hX0
  clear hrow9 hb9 HLc hX0
  go_wp2_with fail
  refine (eqByteS_any _ _ l l _ _ _ hn9 (by exact HX0.out) (by exact HR9.out)).mono ?_
  rintro e y10 ⟨rfl, n10, rfl⟩
  rw [decide_eq_true (rfl : l = l)]
  have hb10 := below_drewN (Below.refl y9.heap.size y9) n10
  have X1 := Lib.hid (X1.out.below hb10)
  have P1 := Lib.hid (P1.out.below hb10)
  have BA := Lib.hid (BA.out.below hb10)
  have HB := Lib.hid (below_then HB.out hb10)
  generalize y9.drewN n10 = y10 at *
  have a0 : y10.cell? ⟨w.heap.size, 0, none⟩ = some (.int .i64 a) := BA.out.cell 0
  have b0 : y10.cell? ⟨w.heap.size, 1, none⟩ = some (.int .i64 m) := BA.out.cell 1
  have c0 : y10.cell? ⟨w.heap.size, 2, none⟩ = some (.slice Ap p.length cp) := BA.out.cell 2
  have d0 := X1.out.c0
  have e0 := X1.out.c1
  have f0 := X1.out.c2
  have hsA := BA.out.lt
  have hsX := X1.out.lt
  have HPc := Lib.hid (hP.below HB.out)
  clear hb10 HR9 HX0 X0
  go_wp2_with fail
  go_region_held3 (fun V => V.cell? ⟨w.heap.size, 0, none⟩ = some (.int .i64 a) ∧ V.cell? ⟨w.heap.size, 1, none⟩ = some (.int .i64 m) ∧ V.cell? ⟨w.heap.size, 2, none⟩ = some (.slice Ap p.length cp) ∧ V.cell? ⟨y7.heap.size, 0, none⟩ = some (.int .i64 a) ∧ V.cell? ⟨y7.heap.size, 1, none⟩ = some (.int .i64 m) ∧ V.cell? ⟨y7.heap.size, 2, none⟩ = some (.slice A7 p.length c7))
    (exact ⟨(by first | exact a0 | exact a1 | exact a2), (by first | exact b0 | exact b1 | exact b2), (by first | exact c0 | exact c1 | exact c2), (by first | exact d0 | exact d1 | exact d2), (by first | exact e0 | exact e1 | exact e2), (by first | exact f0 | exact f1 | exact f2)⟩) (first
    | (go_at_call 40; refine (toEdit_any a m Ap p cp _ hp (by exact HPc.out)).mono ?_; rintro e y11 ⟨v11, rfl, hown11, hb11⟩; have hb11 : Below y10.heap.size y10 y11 := ⟨hb11.os, hb11.tape, hb11.output, hb11.size, hb11.block⟩; obtain ⟨A11, c11, rfl, _, _, hB11⟩ := hown11.form; have a1 := (hb11.cell (p := ⟨w.heap.size, 0, none⟩) hsA).trans a0; have b1 := (hb11.cell (p := ⟨w.heap.size, 1, none⟩) hsA).trans b0; have c1 := (hb11.cell (p := ⟨w.heap.size, 2, none⟩) hsA).trans c0; have d1 := (hb11.cell (p := ⟨y7.heap.size, 0, none⟩) hsX).trans d0; have e1 := (hb11.cell (p := ⟨y7.heap.size, 1, none⟩) hsX).trans e0; have f1 := (hb11.cell (p := ⟨y7.heap.size, 2, none⟩) hsX).trans f0; have hsA1 := Nat.lt_of_lt_of_le hsA hb11.size; have hsX1 := Nat.lt_of_lt_of_le hsX hb11.size; have HQ11 := Lib.hid hB11; have HP11 := Lib.hid (P1.out.below hb11); have HB11 := Lib.hid hb11; clear hown11 hb11 hB11)
    | (go_at_call 42; refine (eqEdit_any a m a m A7 A11 p p c7 c11 _ hp9 (by exact HP11.out) (by exact HQ11.out)).mono ?_; rintro e y12 ⟨rfl, hb12⟩; have hb12 : Below y11.heap.size y11 y12 := ⟨hb12.os, hb12.tape, hb12.output, hb12.size, hb12.block⟩; rw [decide_eq_true (⟨rfl, rfl, rfl⟩ : a = a ∧ m = m ∧ p = p)]; have a2 := (hb12.cell (p := ⟨w.heap.size, 0, none⟩) hsA1).trans a1; have b2 := (hb12.cell (p := ⟨w.heap.size, 1, none⟩) hsA1).trans b1; have c2 := (hb12.cell (p := ⟨w.heap.size, 2, none⟩) hsA1).trans c1; have d2 := (hb12.cell (p := ⟨y7.heap.size, 0, none⟩) hsX1).trans d1; have e2 := (hb12.cell (p := ⟨y7.heap.size, 1, none⟩) hsX1).trans e1; have f2 := (hb12.cell (p := ⟨y7.heap.size, 2, none⟩) hsX1).trans f1; have HB12 := Lib.hid (below_then HB11.out hb12); clear hb12))
  have hb12 := below_then HB.out HB12.out
  go_wp2
  go_ret
  exact ⟨rfl, hb12⟩

end Go.Proofs.YtkplfbhblbinaaaDoor.fnExactEditOk
