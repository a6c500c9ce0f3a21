/-
  Chapter 12, the laws' helpers on actions: contracts. Own work.
-/
import Derived.Test.YtgpjjolgpppeeaaDoorC13
import Derived.Test.YtgpjjolgpppeeaaDoorKst
import Derived.Deep.DeepCutAuto
namespace Go.Proofs.YtgpjjolgpppeeaaDoor
open Go.RowKit P
set_option linter.unusedVariables false
set_option linter.unusedSimpArgs false
set_option maxRecDepth 100000

set_option maxHeartbeats 400000 in
theorem szAct_any (k n b x s p q r : Int) (A : Option Addr) (m c : Nat) (left : Int) (w : World) (hn : m ≤ 9223372036854775807) (h0 : 0 ≤ left) (h1 : left ≤ 1048576) :
    Calls Tryd.prog 8 #[.agg #[.int .i64 k, .int .i64 n, .int .i64 b, .int .i64 x, .int .i64 s, .int .i64 p, .int .i64 q, .int .i64 r, .slice A m c], .int .i64 left] w fun e w' => (∃ r : Int, e = .returned (.int .i64 r) ∧ ((r = -1 ∧ left < m) ∨ (0 ≤ r ∧ r = left - m))) ∧ Below w.heap.size w w' := by
  go_enter Tryd.func8, Tryd.ntmps8
  go_wp2_with fail
  refine (szReq_any x s p q r A m c left _ hn h0 h1).mono ?_
  rintro e w1 ⟨⟨r, rfl, hr⟩, hb1⟩
  have hb2 : Below w.heap.size w w1 := by first | exact hb1 | exact below_then (bsk13 _ _) hb1
  by_cases hneg : r < 0
  · go_wp2
    go_ret
    exact ⟨⟨_, rfl, .inl ⟨rfl, by omega⟩⟩, hb2⟩
  · go_wp2
    go_ret
    exact ⟨⟨_, rfl, by omega⟩, hb2⟩

set_option maxHeartbeats 4000000 in
theorem toAct_any (k n b x s p q r : Int) (A : Option Addr) (l : List UInt8) (c : Nat) (w : World) (hl : l.length ≤ 1048576) (h : Bs w A l) :
    Calls Tryd.prog 10 #[.agg #[.int .i64 k, .int .i64 n, .int .i64 b, .int .i64 x, .int .i64 s, .int .i64 p, .int .i64 q, .int .i64 r, .slice A l.length c]] w fun e w' => ∃ v, e = .returned (.agg #[.int .i64 k, .int .i64 n, .int .i64 b, .int .i64 x, .int .i64 s, .int .i64 p, .int .i64 q, .int .i64 r, v]) ∧ Own w' w.heap.size v l ∧ Below w.heap.size w w' := by
  have hal := (((Below.refl w.heap.size w).alloc (Nat.le_refl _) (.cells #[.int .i64 k, .int .i64 n, .int .i64 b, .int .i64 x, .int .i64 s, .int .i64 p, .int .i64 q, .int .i64 r, .slice A l.length c] 26)).alloc (by simp) (.cells #[.int .i64 0, .int .i64 0, .int .i64 0, .int .i64 0, .int .i64 0, .int .i64 0, .int .i64 0, .int .i64 0, .slice none 0 0] 31)).alloc (by simp; omega) (.cells #[.int .i64 k, .int .i64 n, .int .i64 b, .int .i64 0, .int .i64 0, .int .i64 0, .int .i64 0, .int .i64 0, .slice none 0 0] 31)
  have hbx := ((Blk.new w #[.int .i64 k, .int .i64 n, .int .i64 b, .int .i64 x, .int .i64 s, .int .i64 p, .int .i64 q, .int .i64 r, .slice A l.length c] 26).alloc (.cells #[.int .i64 0, .int .i64 0, .int .i64 0, .int .i64 0, .int .i64 0, .int .i64 0, .int .i64 0, .int .i64 0, .slice none 0 0] 31)).alloc (.cells #[.int .i64 k, .int .i64 n, .int .i64 b, .int .i64 0, .int .i64 0, .int .i64 0, .int .i64 0, .int .i64 0, .slice none 0 0] 31)
  have hb1 := (Blk.new (w.alloc (.cells #[.int .i64 k, .int .i64 n, .int .i64 b, .int .i64 x, .int .i64 s, .int .i64 p, .int .i64 q, .int .i64 r, .slice A l.length c] 26)) #[.int .i64 0, .int .i64 0, .int .i64 0, .int .i64 0, .int .i64 0, .int .i64 0, .int .i64 0, .int .i64 0, .slice none 0 0] 31).alloc (.cells #[.int .i64 k, .int .i64 n, .int .i64 b, .int .i64 0, .int .i64 0, .int .i64 0, .int .i64 0, .int .i64 0, .slice none 0 0] 31)
  have hb2 := Blk.new ((w.alloc (.cells #[.int .i64 k, .int .i64 n, .int .i64 b, .int .i64 x, .int .i64 s, .int .i64 p, .int .i64 q, .int .i64 r, .slice A l.length c] 26)).alloc (.cells #[.int .i64 0, .int .i64 0, .int .i64 0, .int .i64 0, .int .i64 0, .int .i64 0, .int .i64 0, .int .i64 0, .slice none 0 0] 31)) #[.int .i64 k, .int .i64 n, .int .i64 b, .int .i64 0, .int .i64 0, .int .i64 0, .int .i64 0, .int .i64 0, .slice none 0 0] 31
  simp only [World.size_alloc] at hb1 hb2
  have HB := Lib.hid hal
  have BX := Lib.hid hbx
  have R1 := Lib.hid hb1
  have R2 := Lib.hid hb2
  have HL := Lib.hid (h.below hal)
  have hzw : (((w.alloc (.cells #[.int .i64 k, .int .i64 n, .int .i64 b, .int .i64 x, .int .i64 s, .int .i64 p, .int .i64 q, .int .i64 r, .slice A l.length c] 26)).alloc (.cells #[.int .i64 0, .int .i64 0, .int .i64 0, .int .i64 0, .int .i64 0, .int .i64 0, .int .i64 0, .int .i64 0, .slice none 0 0] 31)).alloc (.cells #[.int .i64 k, .int .i64 n, .int .i64 b, .int .i64 0, .int .i64 0, .int .i64 0, .int .i64 0, .int .i64 0, .slice none 0 0] 31)).heap.size = w.heap.size + 3 := by simp
  have p0 := BX.out.cell 0
  have p1 := BX.out.cell 1
  have p2 := BX.out.cell 2
  have p3 := BX.out.cell 3
  have p4 := BX.out.cell 4
  have p5 := BX.out.cell 5
  have p6 := BX.out.cell 6
  have p7 := BX.out.cell 7
  have p8 := BX.out.cell 8
  clear hal hbx hb1 hb2 h
  go_enter Tryd.func10, Tryd.ntmps10
  go_wp2_with fail
  generalize (((w.alloc (.cells #[.int .i64 k, .int .i64 n, .int .i64 b, .int .i64 x, .int .i64 s, .int .i64 p, .int .i64 q, .int .i64 r, .slice A l.length c] 26)).alloc (.cells #[.int .i64 0, .int .i64 0, .int .i64 0, .int .i64 0, .int .i64 0, .int .i64 0, .int .i64 0, .int .i64 0, .slice none 0 0] 31)).alloc (.cells #[.int .i64 k, .int .i64 n, .int .i64 b, .int .i64 0, .int .i64 0, .int .i64 0, .int .i64 0, .int .i64 0, .slice none 0 0] 31)) = W at *
  refine (toReq_any x s p q r A l c _ hl HL.out).mono ?_
  rintro e w3 ⟨v, rfl, ho3, hbl3⟩
  obtain ⟨A3, c3, e3, _, _, _⟩ := ho3.form
  subst e3
  have HR3 := Lib.hid ho3.range
  have HO3 := Lib.hid ho3
  have HB3 := Lib.hid (below_then HB.out hbl3)
  have R13 := Lib.hid (R1.out.below hbl3)
  have R23 := Lib.hid (R2.out.below hbl3)
  have hz3 := hbl3.size
  clear ho3 hbl3 p0 p1 p2 p3 p4 p5 p6 p7 p8 BX R1 R2 HB HL
  have hk := (((((((Keeps.refl [w.heap.size + 2] w3).put1 (List.mem_singleton.2 rfl) 3 (.int .i64 x)).put1 (List.mem_singleton.2 rfl) 4 (.int .i64 s)).put1 (List.mem_singleton.2 rfl) 5 (.int .i64 p)).put1 (List.mem_singleton.2 rfl) 6 (.int .i64 q)).put1 (List.mem_singleton.2 rfl) 7 (.int .i64 r)).put1 (List.mem_singleton.2 rfl) 8 (.slice A3 l.length c3))
  have f23 := R23.out.frozen 3
  have c23 := R23.out.cell 3
  have f24 := R23.out.frozen 4
  have c24 := R23.out.cell 4
  have f25 := R23.out.frozen 5
  have c25 := R23.out.cell 5
  have f26 := R23.out.frozen 6
  have c26 := R23.out.cell 6
  have f27 := R23.out.frozen 7
  have c27 := R23.out.cell 7
  have f28 := R23.out.frozen 8
  have c28 := R23.out.cell 8
  have R14 := Lib.hid (R13.out.of_block (hk.block _ R13.out.lt (by simp)))
  have R24 := Lib.hid (show Blk ((((((w3.setCell ⟨w.heap.size + 2, 3, none⟩ (.int .i64 x)).setCell ⟨w.heap.size + 2, 4, none⟩ (.int .i64 s)).setCell ⟨w.heap.size + 2, 5, none⟩ (.int .i64 p)).setCell ⟨w.heap.size + 2, 6, none⟩ (.int .i64 q)).setCell ⟨w.heap.size + 2, 7, none⟩ (.int .i64 r)).setCell ⟨w.heap.size + 2, 8, none⟩ (.slice A3 l.length c3)) (w.heap.size + 2) #[.int .i64 k, .int .i64 n, .int .i64 b, .int .i64 x, .int .i64 s, .int .i64 p, .int .i64 q, .int .i64 r, .slice A3 l.length c3] 31 by simpa using ((((((R23.out.set 3 (.int .i64 x)).set 4 (.int .i64 s)).set 5 (.int .i64 p)).set 6 (.int .i64 q)).set 7 (.int .i64 r)).set 8 (.slice A3 l.length c3)))
  have HB4 := Lib.hid ((((((HB3.out.setCell (p := ⟨w.heap.size + 2, 3, none⟩) (by simp) (.int .i64 x)).setCell (p := ⟨w.heap.size + 2, 4, none⟩) (by simp) (.int .i64 s)).setCell (p := ⟨w.heap.size + 2, 5, none⟩) (by simp) (.int .i64 p)).setCell (p := ⟨w.heap.size + 2, 6, none⟩) (by simp) (.int .i64 q)).setCell (p := ⟨w.heap.size + 2, 7, none⟩) (by simp) (.int .i64 r)).setCell (p := ⟨w.heap.size + 2, 8, none⟩) (by simp) (.slice A3 l.length c3))
  have HO4 := Lib.hid (HO3.out.keeps hk (fun k hk => by have := (HR3.out k hk).1; simp; omega))
  clear hk R13 R23 HO3 HB3
  go_upto_region 6 with fail
  generalize hW4 : ((((((w3.setCell ⟨w.heap.size + 2, 3, none⟩ (.int .i64 x)).setCell ⟨w.heap.size + 2, 4, none⟩ (.int .i64 s)).setCell ⟨w.heap.size + 2, 5, none⟩ (.int .i64 p)).setCell ⟨w.heap.size + 2, 6, none⟩ (.int .i64 q)).setCell ⟨w.heap.size + 2, 7, none⟩ (.int .i64 r)).setCell ⟨w.heap.size + 2, 8, none⟩ (.slice A3 l.length c3)) = w4 at *
  have hz4 : w4.heap.size = w3.heap.size := by rw [← hW4]; simp
  clear hW4 f23 c23 f24 c24 f25 c25 f26 c26 f27 c27 f28 c28
  have hk := ((((((((((Keeps.refl [w.heap.size + 1] w4).put1 (List.mem_singleton.2 rfl) 0 (.int .i64 k)).put1 (List.mem_singleton.2 rfl) 1 (.int .i64 n)).put1 (List.mem_singleton.2 rfl) 2 (.int .i64 b)).put1 (List.mem_singleton.2 rfl) 3 (.int .i64 x)).put1 (List.mem_singleton.2 rfl) 4 (.int .i64 s)).put1 (List.mem_singleton.2 rfl) 5 (.int .i64 p)).put1 (List.mem_singleton.2 rfl) 6 (.int .i64 q)).put1 (List.mem_singleton.2 rfl) 7 (.int .i64 r)).put1 (List.mem_singleton.2 rfl) 8 (.slice A3 l.length c3))
  have HO9 := Lib.hid (HO4.out.keeps hk (fun k hk => by have := (HR3.out k hk).1; simp; omega))
  have HB9 := Lib.hid (((((((((HB4.out.setCell (p := ⟨w.heap.size + 1, 0, none⟩) (by simp) (.int .i64 k)).setCell (p := ⟨w.heap.size + 1, 1, none⟩) (by simp) (.int .i64 n)).setCell (p := ⟨w.heap.size + 1, 2, none⟩) (by simp) (.int .i64 b)).setCell (p := ⟨w.heap.size + 1, 3, none⟩) (by simp) (.int .i64 x)).setCell (p := ⟨w.heap.size + 1, 4, none⟩) (by simp) (.int .i64 s)).setCell (p := ⟨w.heap.size + 1, 5, none⟩) (by simp) (.int .i64 p)).setCell (p := ⟨w.heap.size + 1, 6, none⟩) (by simp) (.int .i64 q)).setCell (p := ⟨w.heap.size + 1, 7, none⟩) (by simp) (.int .i64 r)).setCell (p := ⟨w.heap.size + 1, 8, none⟩) (by simp) (.slice A3 l.length c3))
  have q0 := R24.out.cell 0
  have r0 := R14.out.cell 0
  have g0 := R24.out.frozen 0
  have k0 := R14.out.frozen 0
  have q1 := R24.out.cell 1
  have r1 := R14.out.cell 1
  have g1 := R24.out.frozen 1
  have k1 := R14.out.frozen 1
  have q2 := R24.out.cell 2
  have r2 := R14.out.cell 2
  have g2 := R24.out.frozen 2
  have k2 := R14.out.frozen 2
  have q3 := R24.out.cell 3
  have r3 := R14.out.cell 3
  have g3 := R24.out.frozen 3
  have k3 := R14.out.frozen 3
  have q4 := R24.out.cell 4
  have r4 := R14.out.cell 4
  have g4 := R24.out.frozen 4
  have k4 := R14.out.frozen 4
  have q5 := R24.out.cell 5
  have r5 := R14.out.cell 5
  have g5 := R24.out.frozen 5
  have k5 := R14.out.frozen 5
  have q6 := R24.out.cell 6
  have r6 := R14.out.cell 6
  have g6 := R24.out.frozen 6
  have k6 := R14.out.frozen 6
  have q7 := R24.out.cell 7
  have r7 := R14.out.cell 7
  have g7 := R24.out.frozen 7
  have k7 := R14.out.frozen 7
  have q8 := R24.out.cell 8
  have r8 := R14.out.cell 8
  have g8 := R24.out.frozen 8
  have k8 := R14.out.frozen 8
  clear hk R14 R24
  go_wp2
  refine bodyPost_ret (v := .agg #[.int .i64 k, .int .i64 n, .int .i64 b, .int .i64 x, .int .i64 s, .int .i64 p, .int .i64 q, .int .i64 r, .slice A3 l.length c3]) (by simp [results, Tryd.results10, go_sem, q0, r0, q1, r1, q2, r2, q3, r3, q4, r4, q5, r5, q6, r6, q7, r7, q8, r8]) rfl ?_
  exact ⟨_, rfl, HO9.out.mono (by omega), HB9.out⟩

set_option maxHeartbeats 1000000 in
theorem eqAct_same (k n b x s p q r : Int) (A B : Option Addr) (l : List UInt8) (c d : Nat) (w : World) (hl : l.length ≤ 9223372036854775807) (hA : Bs w A l) (hB : Bs w B l) :
    Calls Tryd.prog 12 #[.agg #[.int .i64 k, .int .i64 n, .int .i64 b, .int .i64 x, .int .i64 s, .int .i64 p, .int .i64 q, .int .i64 r, .slice A l.length c], .agg #[.int .i64 k, .int .i64 n, .int .i64 b, .int .i64 x, .int .i64 s, .int .i64 p, .int .i64 q, .int .i64 r, .slice B l.length d]] w fun e w' => e = .returned (.bool true) ∧ Below w.heap.size w w' := by
  have hb0 := (bsk13 w (.cells #[.int .i64 k, .int .i64 n, .int .i64 b, .int .i64 x, .int .i64 s, .int .i64 p, .int .i64 q, .int .i64 r, .slice A l.length c] 31)).alloc (by simp) (.cells #[.int .i64 k, .int .i64 n, .int .i64 b, .int .i64 x, .int .i64 s, .int .i64 p, .int .i64 q, .int .i64 r, .slice B l.length d] 31)
  have hA2 := Lib.hid (hA.below hb0)
  have hB2 := Lib.hid (hB.below hb0)
  have ek : (k != k) = false := by simp
  have en : (n != n) = false := by simp
  have eb : (b != b) = false := by simp
  go_enter Tryd.func12, Tryd.ntmps12
  go_wp2_with fail
  refine (eqReq_same x s p q r A B l c d _ hl (by exact hA2.out) (by exact hB2.out)).mono ?_
  rintro e w1 ⟨rfl, hb1⟩
  have hfin := below_then hb0 hb1
  go_wp2
  go_ret
  exact ⟨rfl, hfin⟩
end Go.Proofs.YtgpjjolgpppeeaaDoor
