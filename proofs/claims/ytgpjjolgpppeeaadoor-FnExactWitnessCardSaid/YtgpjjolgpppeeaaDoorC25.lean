/-
  Chapter 12, the laws' helpers on outputs and lists of them: contracts (sizes, copies, equality). Own work.
-/
import Derived.Test.YtgpjjolgpppeeaaDoorC24
namespace Go.Proofs.YtgpjjolgpppeeaaDoor
open Go.RowKit P
set_option linter.unusedVariables false
set_option linter.unusedSimpArgs false
set_option maxRecDepth 100000

set_option maxHeartbeats 1000000 in
theorem szOut_e (a u x s p q r f y i j : Int) (A : Option Addr) (l : List UInt8) (c : Nat) (C : Option Addr) (m : List UInt8) (d : Nat) (left : Int) (w : World) (hl9 : l.length ≤ 9223372036854775807) (hm9 : m.length ≤ 9223372036854775807) (h0 : 0 ≤ left) (h1 : left ≤ 1048576) :
    Calls Tryd.prog 49 #[.agg #[.int .i64 a, .int .i64 u, .int .i64 x, .int .i64 s, .int .i64 p, .int .i64 q, .int .i64 r, .slice A l.length c, .int .i64 f, .int .i64 y, .int .i64 i, .int .i64 j, .slice C m.length d], .int .i64 left] w fun e w' => (∃ t : Int, e = .returned (.int .i64 t) ∧ (t < 0 ∨ (0 ≤ t ∧ t + obt (a, u, (x, s, p, q, r, l), f, (y, i, j, m)) ≤ left))) ∧ Below w.heap.size w w' := by
  have hal := (Below.refl w.heap.size w).alloc (Nat.le_refl _) (.cells #[.int .i64 a, .int .i64 u, .int .i64 x, .int .i64 s, .int .i64 p, .int .i64 q, .int .i64 r, .slice A l.length c, .int .i64 f, .int .i64 y, .int .i64 i, .int .i64 j, .slice C m.length d] 81)
  have BX := Lib.hid (Blk.new w #[.int .i64 a, .int .i64 u, .int .i64 x, .int .i64 s, .int .i64 p, .int .i64 q, .int .i64 r, .slice A l.length c, .int .i64 f, .int .i64 y, .int .i64 i, .int .i64 j, .slice C m.length d] 81)
  have HM := Lib.hid (show ∀ t : Int, t + l.length + m.length ≤ left → t + obt (a, u, (x, s, p, q, r, l), f, (y, i, j, m)) ≤ left from fun t h => by unfold obt; simp only; omega)
  have HB := Lib.hid hal
  have p0 := BX.out.cell 0
  have p1 := BX.out.cell 1
  have p2 := BX.out.cell 2
  have p3 := BX.out.cell 3
  have p4 := BX.out.cell 4
  have p5 := BX.out.cell 5
  have p6 := BX.out.cell 6
  have p7 := BX.out.cell 7
  have p8 := BX.out.cell 8
  have p9 := BX.out.cell 9
  have p10 := BX.out.cell 10
  have p11 := BX.out.cell 11
  have p12 := BX.out.cell 12
  clear hal
  go_enter Tryd.func49, Tryd.ntmps49
  go_wp2_with fail
  generalize w.alloc (.cells #[.int .i64 a, .int .i64 u, .int .i64 x, .int .i64 s, .int .i64 p, .int .i64 q, .int .i64 r, .slice A l.length c, .int .i64 f, .int .i64 y, .int .i64 i, .int .i64 j, .slice C m.length d] 81) = W0 at *
  refine (szReq_any x s p q r A l.length c left _ hl9 h0 h1).mono ?_
  rintro e w1 ⟨⟨t, rfl, ht⟩, hb1⟩
  have BX1 := Lib.hid (BX.out.below hb1)
  have HB1 := Lib.hid (below_then HB.out hb1)
  clear BX HB hb1 p0 p1 p2 p3 p4 p5 p6 p7 p8 p9 p10 p11 p12
  by_cases hneg : t < 0
  · go_wp2
    go_ret
    exact ⟨⟨_, rfl, .inl (by omega)⟩, HB1.out⟩
  have p0 := BX1.out.cell 0
  have p1 := BX1.out.cell 1
  have p2 := BX1.out.cell 2
  have p3 := BX1.out.cell 3
  have p4 := BX1.out.cell 4
  have p5 := BX1.out.cell 5
  have p6 := BX1.out.cell 6
  have p7 := BX1.out.cell 7
  have p8 := BX1.out.cell 8
  have p9 := BX1.out.cell 9
  have p10 := BX1.out.cell 10
  have p11 := BX1.out.cell 11
  have p12 := BX1.out.cell 12
  have ht0 : 0 ≤ t := by omega
  have ht1 : t ≤ 1048576 := by omega
  go_wp2_with fail
  refine (szReply_any y i j C m.length d t _ hm9 ht0 ht1).mono ?_
  rintro e w2 ⟨⟨v, rfl, hv⟩, hb2⟩
  have HB2 := Lib.hid (below_then HB1.out hb2)
  clear BX1 HB1 hb2 p0 p1 p2 p3 p4 p5 p6 p7 p8 p9 p10 p11 p12
  by_cases hneg2 : v < 0
  · go_wp2
    go_ret
    exact ⟨⟨_, rfl, .inl (by omega)⟩, HB2.out⟩
  · have hv2 : 0 ≤ v ∧ v + obt (a, u, (x, s, p, q, r, l), f, (y, i, j, m)) ≤ left := ⟨by omega, HM.out v (by omega)⟩
    go_wp2
    go_ret
    exact ⟨⟨_, rfl, .inr hv2⟩, HB2.out⟩

set_option maxHeartbeats 8000000 in
theorem toOut_e (a u x s p q r f y i j : Int) (A : Option Addr) (l : List UInt8) (c : Nat) (C : Option Addr) (m : List UInt8) (d : Nat) (w : World) (hl : l.length ≤ 1048576) (hm : m.length ≤ 1048576) (hA : Bs w A l) (hC : Bs w C m) :
    Calls Tryd.prog 53 #[.agg #[.int .i64 a, .int .i64 u, .int .i64 x, .int .i64 s, .int .i64 p, .int .i64 q, .int .i64 r, .slice A l.length c, .int .i64 f, .int .i64 y, .int .i64 i, .int .i64 j, .slice C m.length d]] w fun e w' => ∃ A' c' C' d', e = .returned (.agg #[.int .i64 a, .int .i64 u, .int .i64 x, .int .i64 s, .int .i64 p, .int .i64 q, .int .i64 r, .slice A' l.length c', .int .i64 f, .int .i64 y, .int .i64 i, .int .i64 j, .slice C' m.length d']) ∧ Own2 w' w.heap.size A' l c' C' m d' ∧ Below w.heap.size w w' := by
  have hal := (((Below.refl w.heap.size w).alloc (Nat.le_refl _) (.cells #[.int .i64 a, .int .i64 u, .int .i64 x, .int .i64 s, .int .i64 p, .int .i64 q, .int .i64 r, .slice A l.length c, .int .i64 f, .int .i64 y, .int .i64 i, .int .i64 j, .slice C m.length d] 81)).alloc (by simp) (.cells #[.int .i64 0, .int .i64 0, .int .i64 0, .int .i64 0, .int .i64 0, .int .i64 0, .int .i64 0, .slice none 0 0, .int .i64 0, .int .i64 0, .int .i64 0, .int .i64 0, .slice none 0 0] 85)).alloc (by simp; omega) (.cells #[.int .i64 a, .int .i64 u, .int .i64 0, .int .i64 0, .int .i64 0, .int .i64 0, .int .i64 0, .slice none 0 0, .int .i64 0, .int .i64 0, .int .i64 0, .int .i64 0, .slice none 0 0] 85)
  have hbx := ((Blk.new w #[.int .i64 a, .int .i64 u, .int .i64 x, .int .i64 s, .int .i64 p, .int .i64 q, .int .i64 r, .slice A l.length c, .int .i64 f, .int .i64 y, .int .i64 i, .int .i64 j, .slice C m.length d] 81).alloc (.cells #[.int .i64 0, .int .i64 0, .int .i64 0, .int .i64 0, .int .i64 0, .int .i64 0, .int .i64 0, .slice none 0 0, .int .i64 0, .int .i64 0, .int .i64 0, .int .i64 0, .slice none 0 0] 85)).alloc (.cells #[.int .i64 a, .int .i64 u, .int .i64 0, .int .i64 0, .int .i64 0, .int .i64 0, .int .i64 0, .slice none 0 0, .int .i64 0, .int .i64 0, .int .i64 0, .int .i64 0, .slice none 0 0] 85)
  have hb1 := (Blk.new (w.alloc (.cells #[.int .i64 a, .int .i64 u, .int .i64 x, .int .i64 s, .int .i64 p, .int .i64 q, .int .i64 r, .slice A l.length c, .int .i64 f, .int .i64 y, .int .i64 i, .int .i64 j, .slice C m.length d] 81)) #[.int .i64 0, .int .i64 0, .int .i64 0, .int .i64 0, .int .i64 0, .int .i64 0, .int .i64 0, .slice none 0 0, .int .i64 0, .int .i64 0, .int .i64 0, .int .i64 0, .slice none 0 0] 85).alloc (.cells #[.int .i64 a, .int .i64 u, .int .i64 0, .int .i64 0, .int .i64 0, .int .i64 0, .int .i64 0, .slice none 0 0, .int .i64 0, .int .i64 0, .int .i64 0, .int .i64 0, .slice none 0 0] 85)
  have hb2 := Blk.new ((w.alloc (.cells #[.int .i64 a, .int .i64 u, .int .i64 x, .int .i64 s, .int .i64 p, .int .i64 q, .int .i64 r, .slice A l.length c, .int .i64 f, .int .i64 y, .int .i64 i, .int .i64 j, .slice C m.length d] 81)).alloc (.cells #[.int .i64 0, .int .i64 0, .int .i64 0, .int .i64 0, .int .i64 0, .int .i64 0, .int .i64 0, .slice none 0 0, .int .i64 0, .int .i64 0, .int .i64 0, .int .i64 0, .slice none 0 0] 85)) #[.int .i64 a, .int .i64 u, .int .i64 0, .int .i64 0, .int .i64 0, .int .i64 0, .int .i64 0, .slice none 0 0, .int .i64 0, .int .i64 0, .int .i64 0, .int .i64 0, .slice none 0 0] 85
  simp only [World.size_alloc] at hb1 hb2
  have HB := Lib.hid hal
  have BX := Lib.hid hbx
  have R1 := Lib.hid hb1
  have R2 := Lib.hid hb2
  have HAK := Lib.hid (show ∀ W, Below w.heap.size w W → Bs W A l from fun W h => hA.below h)
  have HCK := Lib.hid (show ∀ W, Below w.heap.size w W → Bs W C m from fun W h => hC.below h)
  have hzw : (((w.alloc (.cells #[.int .i64 a, .int .i64 u, .int .i64 x, .int .i64 s, .int .i64 p, .int .i64 q, .int .i64 r, .slice A l.length c, .int .i64 f, .int .i64 y, .int .i64 i, .int .i64 j, .slice C m.length d] 81)).alloc (.cells #[.int .i64 0, .int .i64 0, .int .i64 0, .int .i64 0, .int .i64 0, .int .i64 0, .int .i64 0, .slice none 0 0, .int .i64 0, .int .i64 0, .int .i64 0, .int .i64 0, .slice none 0 0] 85)).alloc (.cells #[.int .i64 a, .int .i64 u, .int .i64 0, .int .i64 0, .int .i64 0, .int .i64 0, .int .i64 0, .slice none 0 0, .int .i64 0, .int .i64 0, .int .i64 0, .int .i64 0, .slice none 0 0] 85)).heap.size = w.heap.size + 3 := by simp
  have p0 := BX.out.cell 0
  have p1 := BX.out.cell 1
  have p2 := BX.out.cell 2
  have p3 := BX.out.cell 3
  have p4 := BX.out.cell 4
  have p5 := BX.out.cell 5
  have p6 := BX.out.cell 6
  have p7 := BX.out.cell 7
  have p8 := BX.out.cell 8
  have p9 := BX.out.cell 9
  have p10 := BX.out.cell 10
  have p11 := BX.out.cell 11
  have p12 := BX.out.cell 12
  have HA0 := Lib.hid (HAK.out _ HB.out)
  clear hal hbx hb1 hb2 hA hC
  go_enter Tryd.func53, Tryd.ntmps53
  go_wp2_with fail
  generalize (((w.alloc (.cells #[.int .i64 a, .int .i64 u, .int .i64 x, .int .i64 s, .int .i64 p, .int .i64 q, .int .i64 r, .slice A l.length c, .int .i64 f, .int .i64 y, .int .i64 i, .int .i64 j, .slice C m.length d] 81)).alloc (.cells #[.int .i64 0, .int .i64 0, .int .i64 0, .int .i64 0, .int .i64 0, .int .i64 0, .int .i64 0, .slice none 0 0, .int .i64 0, .int .i64 0, .int .i64 0, .int .i64 0, .slice none 0 0] 85)).alloc (.cells #[.int .i64 a, .int .i64 u, .int .i64 0, .int .i64 0, .int .i64 0, .int .i64 0, .int .i64 0, .slice none 0 0, .int .i64 0, .int .i64 0, .int .i64 0, .int .i64 0, .slice none 0 0] 85)) = W at *
  refine (toReq_any x s p q r A l c _ hl HA0.out).mono ?_
  rintro e w1 ⟨v, rfl, ho1, hbl1⟩
  obtain ⟨A3, c3, e3, _, _, _⟩ := ho1.form
  subst e3
  have HR1 := Lib.hid ho1.range
  have HO1 := Lib.hid ho1
  have HB := Lib.hid (below_then HB.out hbl1)
  have BX := Lib.hid (BX.out.below hbl1)
  have R1 := Lib.hid (R1.out.below hbl1)
  have R2 := Lib.hid (R2.out.below hbl1)
  have hz1 := hbl1.size
  have hlt := R2.out.lt
  clear hbl1 ho1 HA0 p0 p1 p2 p3 p4 p5 p6 p7 p8 p9 p10 p11 p12
  have f22 := R2.out.frozen 2
  have c22 := R2.out.cell 2
  have f23 := R2.out.frozen 3
  have c23 := R2.out.cell 3
  have f24 := R2.out.frozen 4
  have c24 := R2.out.cell 4
  have f25 := R2.out.frozen 5
  have c25 := R2.out.cell 5
  have f26 := R2.out.frozen 6
  have c26 := R2.out.cell 6
  have f27 := R2.out.frozen 7
  have c27 := R2.out.cell 7
  have f28 := R2.out.frozen 8
  have c28 := R2.out.cell 8
  have p8 := BX.out.cell 8
  have p9 := BX.out.cell 9
  have p10 := BX.out.cell 10
  have p11 := BX.out.cell 11
  have p12 := BX.out.cell 12
  have hk := ((((((((Keeps.refl [w.heap.size + 2] w1).put1 (List.mem_singleton.2 rfl) 2 (.int .i64 x)).put1 (List.mem_singleton.2 rfl) 3 (.int .i64 s)).put1 (List.mem_singleton.2 rfl) 4 (.int .i64 p)).put1 (List.mem_singleton.2 rfl) 5 (.int .i64 q)).put1 (List.mem_singleton.2 rfl) 6 (.int .i64 r)).put1 (List.mem_singleton.2 rfl) 7 (.slice A3 l.length c3)).put1 (List.mem_singleton.2 rfl) 8 (.int .i64 f))
  have BX2 := Lib.hid (BX.out.of_block (hk.block _ BX.out.lt (by simp)))
  have R12 := Lib.hid (R1.out.of_block (hk.block _ R1.out.lt (by simp)))
  have R22 := Lib.hid (show Blk (((((((w1.setCell ⟨w.heap.size + 2, 2, none⟩ (.int .i64 x)).setCell ⟨w.heap.size + 2, 3, none⟩ (.int .i64 s)).setCell ⟨w.heap.size + 2, 4, none⟩ (.int .i64 p)).setCell ⟨w.heap.size + 2, 5, none⟩ (.int .i64 q)).setCell ⟨w.heap.size + 2, 6, none⟩ (.int .i64 r)).setCell ⟨w.heap.size + 2, 7, none⟩ (.slice A3 l.length c3)).setCell ⟨w.heap.size + 2, 8, none⟩ (.int .i64 f)) (w.heap.size + 2) #[.int .i64 a, .int .i64 u, .int .i64 x, .int .i64 s, .int .i64 p, .int .i64 q, .int .i64 r, .slice A3 l.length c3, .int .i64 f, .int .i64 0, .int .i64 0, .int .i64 0, .slice none 0 0] 85 by simpa using (((((((R2.out.set 2 (.int .i64 x)).set 3 (.int .i64 s)).set 4 (.int .i64 p)).set 5 (.int .i64 q)).set 6 (.int .i64 r)).set 7 (.slice A3 l.length c3)).set 8 (.int .i64 f)))
  have HB2 := Lib.hid (((((((HB.out.setCell (p := ⟨w.heap.size + 2, 2, none⟩) (by simp) (.int .i64 x)).setCell (p := ⟨w.heap.size + 2, 3, none⟩) (by simp) (.int .i64 s)).setCell (p := ⟨w.heap.size + 2, 4, none⟩) (by simp) (.int .i64 p)).setCell (p := ⟨w.heap.size + 2, 5, none⟩) (by simp) (.int .i64 q)).setCell (p := ⟨w.heap.size + 2, 6, none⟩) (by simp) (.int .i64 r)).setCell (p := ⟨w.heap.size + 2, 7, none⟩) (by simp) (.slice A3 l.length c3)).setCell (p := ⟨w.heap.size + 2, 8, none⟩) (by simp) (.int .i64 f))
  have HO2 := Lib.hid (HO1.out.keeps hk (fun k hk => by have := (HR1.out k hk).1; simp; omega))
  have HC2 := Lib.hid (HCK.out _ HB2.out)
  clear BX R1 R2 HB hk HO1
  go_wp2_with fail
  generalize hW2 : (((((((w1.setCell ⟨w.heap.size + 2, 2, none⟩ (.int .i64 x)).setCell ⟨w.heap.size + 2, 3, none⟩ (.int .i64 s)).setCell ⟨w.heap.size + 2, 4, none⟩ (.int .i64 p)).setCell ⟨w.heap.size + 2, 5, none⟩ (.int .i64 q)).setCell ⟨w.heap.size + 2, 6, none⟩ (.int .i64 r)).setCell ⟨w.heap.size + 2, 7, none⟩ (.slice A3 l.length c3)).setCell ⟨w.heap.size + 2, 8, none⟩ (.int .i64 f)) = w2 at *
  have hz2 : w2.heap.size = w1.heap.size := by rw [← hW2]; simp
  clear hW2 f22 c22 f23 c23 f24 c24 f25 c25 f26 c26 f27 c27 f28 c28
  refine (toReply_any y i j C m d _ hm HC2.out).mono ?_
  rintro e w3 ⟨v3, rfl, ho3, hbl3⟩
  obtain ⟨C3, d3, e3, _, _, _⟩ := ho3.form
  subst e3
  have HR3 := Lib.hid ho3.range
  have HO3 := Lib.hid ho3
  have HO4 := Lib.hid (HO2.out.below hbl3)
  have HB3 := Lib.hid (below_then HB2.out hbl3)
  have R13 := Lib.hid (R12.out.below hbl3)
  have R23 := Lib.hid (R22.out.below hbl3)
  have HR2 := Lib.hid (show ∀ k ∈ (Value.slice A3 l.length c3).ownBlock.toList, w.heap.size + 3 ≤ k ∧ k < w2.heap.size from fun k hk => by have h1 := HR1.out k hk; have h2 := HO2.out.range k hk; omega)
  have hz3 := hbl3.size
  clear ho3 hbl3 p8 p9 p10 p11 p12 BX2 R12 R22 HO2 HR1
  have hk := ((((((((((((((((((Keeps.refl [w.heap.size + 1, w.heap.size + 2] w3).put1 (g := w.heap.size + 2) (by simp) 9 (.int .i64 y)).put1 (g := w.heap.size + 2) (by simp) 10 (.int .i64 i)).put1 (g := w.heap.size + 2) (by simp) 11 (.int .i64 j)).put1 (g := w.heap.size + 2) (by simp) 12 (.slice C3 m.length d3)).put1 (g := w.heap.size + 1) (by simp) 0 (.int .i64 a)).put1 (g := w.heap.size + 1) (by simp) 1 (.int .i64 u)).put1 (g := w.heap.size + 1) (by simp) 2 (.int .i64 x)).put1 (g := w.heap.size + 1) (by simp) 3 (.int .i64 s)).put1 (g := w.heap.size + 1) (by simp) 4 (.int .i64 p)).put1 (g := w.heap.size + 1) (by simp) 5 (.int .i64 q)).put1 (g := w.heap.size + 1) (by simp) 6 (.int .i64 r)).put1 (g := w.heap.size + 1) (by simp) 7 (.slice A3 l.length c3)).put1 (g := w.heap.size + 1) (by simp) 8 (.int .i64 f)).put1 (g := w.heap.size + 1) (by simp) 9 (.int .i64 y)).put1 (g := w.heap.size + 1) (by simp) 10 (.int .i64 i)).put1 (g := w.heap.size + 1) (by simp) 11 (.int .i64 j)).put1 (g := w.heap.size + 1) (by simp) 12 (.slice C3 m.length d3))
  have HO9 := Lib.hid (HO4.out.keeps hk (fun k hk => by have := (HR2.out k hk).1; simp; omega))
  have HP9 := Lib.hid (HO3.out.keeps hk (fun k hk => by have := (HR3.out k hk).1; simp; omega))
  have HB9 := Lib.hid (((((((((((((((((HB3.out.setCell (p := ⟨w.heap.size + 2, 9, none⟩) (by simp) (.int .i64 y)).setCell (p := ⟨w.heap.size + 2, 10, none⟩) (by simp) (.int .i64 i)).setCell (p := ⟨w.heap.size + 2, 11, none⟩) (by simp) (.int .i64 j)).setCell (p := ⟨w.heap.size + 2, 12, none⟩) (by simp) (.slice C3 m.length d3)).setCell (p := ⟨w.heap.size + 1, 0, none⟩) (by simp) (.int .i64 a)).setCell (p := ⟨w.heap.size + 1, 1, none⟩) (by simp) (.int .i64 u)).setCell (p := ⟨w.heap.size + 1, 2, none⟩) (by simp) (.int .i64 x)).setCell (p := ⟨w.heap.size + 1, 3, none⟩) (by simp) (.int .i64 s)).setCell (p := ⟨w.heap.size + 1, 4, none⟩) (by simp) (.int .i64 p)).setCell (p := ⟨w.heap.size + 1, 5, none⟩) (by simp) (.int .i64 q)).setCell (p := ⟨w.heap.size + 1, 6, none⟩) (by simp) (.int .i64 r)).setCell (p := ⟨w.heap.size + 1, 7, none⟩) (by simp) (.slice A3 l.length c3)).setCell (p := ⟨w.heap.size + 1, 8, none⟩) (by simp) (.int .i64 f)).setCell (p := ⟨w.heap.size + 1, 9, none⟩) (by simp) (.int .i64 y)).setCell (p := ⟨w.heap.size + 1, 10, none⟩) (by simp) (.int .i64 i)).setCell (p := ⟨w.heap.size + 1, 11, none⟩) (by simp) (.int .i64 j)).setCell (p := ⟨w.heap.size + 1, 12, none⟩) (by simp) (.slice C3 m.length d3))
  have q0 := R23.out.cell 0
  have r0 := R13.out.cell 0
  have g0 := R23.out.frozen 0
  have k0 := R13.out.frozen 0
  have q1 := R23.out.cell 1
  have r1 := R13.out.cell 1
  have g1 := R23.out.frozen 1
  have k1 := R13.out.frozen 1
  have q2 := R23.out.cell 2
  have r2 := R13.out.cell 2
  have g2 := R23.out.frozen 2
  have k2 := R13.out.frozen 2
  have q3 := R23.out.cell 3
  have r3 := R13.out.cell 3
  have g3 := R23.out.frozen 3
  have k3 := R13.out.frozen 3
  have q4 := R23.out.cell 4
  have r4 := R13.out.cell 4
  have g4 := R23.out.frozen 4
  have k4 := R13.out.frozen 4
  have q5 := R23.out.cell 5
  have r5 := R13.out.cell 5
  have g5 := R23.out.frozen 5
  have k5 := R13.out.frozen 5
  have q6 := R23.out.cell 6
  have r6 := R13.out.cell 6
  have g6 := R23.out.frozen 6
  have k6 := R13.out.frozen 6
  have q7 := R23.out.cell 7
  have r7 := R13.out.cell 7
  have g7 := R23.out.frozen 7
  have k7 := R13.out.frozen 7
  have q8 := R23.out.cell 8
  have r8 := R13.out.cell 8
  have g8 := R23.out.frozen 8
  have k8 := R13.out.frozen 8
  have q9 := R23.out.cell 9
  have r9 := R13.out.cell 9
  have g9 := R23.out.frozen 9
  have k9 := R13.out.frozen 9
  have q10 := R23.out.cell 10
  have r10 := R13.out.cell 10
  have g10 := R23.out.frozen 10
  have k10 := R13.out.frozen 10
  have q11 := R23.out.cell 11
  have r11 := R13.out.cell 11
  have g11 := R23.out.frozen 11
  have k11 := R13.out.frozen 11
  have q12 := R23.out.cell 12
  have r12 := R13.out.cell 12
  have g12 := R23.out.frozen 12
  have k12 := R13.out.frozen 12
  clear hk R13 R23 HB2 HC2
  go_wp2
  refine bodyPost_ret (v := .agg #[.int .i64 a, .int .i64 u, .int .i64 x, .int .i64 s, .int .i64 p, .int .i64 q, .int .i64 r, .slice A3 l.length c3, .int .i64 f, .int .i64 y, .int .i64 i, .int .i64 j, .slice C3 m.length d3]) (by simp [results, Tryd.results53, go_sem, q0, r0, q1, r1, q2, r2, q3, r3, q4, r4, q5, r5, q6, r6, q7, r7, q8, r8, q9, r9, q10, r10, q11, r11, q12, r12]) rfl ?_
  exact ⟨_, _, _, _, rfl, ⟨HO9.out.lift (fun k hk => by have := HR2.out k hk; omega), HP9.out.mono (by omega), fun k hk hq => by have h1 := HR2.out k hk; have h2 := HR3.out k hq; omega⟩, HB9.out⟩

set_option maxHeartbeats 2000000 in
theorem eqOut_e (a u x s p q r f y i j : Int) (A A' : Option Addr) (l : List UInt8) (c c' : Nat) (C C' : Option Addr) (m : List UInt8) (d d' : Nat) (w : World) (hl : l.length ≤ 9223372036854775807) (hm : m.length ≤ 9223372036854775807) (hA : Bs w A l) (hA' : Bs w A' l) (hC : Bs w C m) (hC' : Bs w C' m) :
    Calls Tryd.prog 59 #[.agg #[.int .i64 a, .int .i64 u, .int .i64 x, .int .i64 s, .int .i64 p, .int .i64 q, .int .i64 r, .slice A l.length c, .int .i64 f, .int .i64 y, .int .i64 i, .int .i64 j, .slice C m.length d], .agg #[.int .i64 a, .int .i64 u, .int .i64 x, .int .i64 s, .int .i64 p, .int .i64 q, .int .i64 r, .slice A' l.length c', .int .i64 f, .int .i64 y, .int .i64 i, .int .i64 j, .slice C' m.length d']] w fun e w' => e = .returned (.bool true) ∧ Below w.heap.size w w' := by
  have hb0 := (bsk13 w (.cells #[.int .i64 a, .int .i64 u, .int .i64 x, .int .i64 s, .int .i64 p, .int .i64 q, .int .i64 r, .slice A l.length c, .int .i64 f, .int .i64 y, .int .i64 i, .int .i64 j, .slice C m.length d] 85)).alloc (by simp) (.cells #[.int .i64 a, .int .i64 u, .int .i64 x, .int .i64 s, .int .i64 p, .int .i64 q, .int .i64 r, .slice A' l.length c', .int .i64 f, .int .i64 y, .int .i64 i, .int .i64 j, .slice C' m.length d'] 85)
  have BX := Lib.hid ((Blk.new w #[.int .i64 a, .int .i64 u, .int .i64 x, .int .i64 s, .int .i64 p, .int .i64 q, .int .i64 r, .slice A l.length c, .int .i64 f, .int .i64 y, .int .i64 i, .int .i64 j, .slice C m.length d] 85).alloc (.cells #[.int .i64 a, .int .i64 u, .int .i64 x, .int .i64 s, .int .i64 p, .int .i64 q, .int .i64 r, .slice A' l.length c', .int .i64 f, .int .i64 y, .int .i64 i, .int .i64 j, .slice C' m.length d'] 85))
  have hy := Blk.new (w.alloc (.cells #[.int .i64 a, .int .i64 u, .int .i64 x, .int .i64 s, .int .i64 p, .int .i64 q, .int .i64 r, .slice A l.length c, .int .i64 f, .int .i64 y, .int .i64 i, .int .i64 j, .slice C m.length d] 85)) #[.int .i64 a, .int .i64 u, .int .i64 x, .int .i64 s, .int .i64 p, .int .i64 q, .int .i64 r, .slice A' l.length c', .int .i64 f, .int .i64 y, .int .i64 i, .int .i64 j, .slice C' m.length d'] 85
  simp only [World.size_alloc] at hy
  have BY := Lib.hid hy
  have HA := Lib.hid (hA.below hb0)
  have HA' := Lib.hid (hA'.below hb0)
  have HC := Lib.hid (hC.below hb0)
  have HC' := Lib.hid (hC'.below hb0)
  have HB := Lib.hid hb0
  have ea : (a != a) = false := by simp
  have eu : (u != u) = false := by simp
  have ef : (f != f) = false := by simp
  have p0 := BX.out.cell 0
  have q0 := BY.out.cell 0
  have p1 := BX.out.cell 1
  have q1 := BY.out.cell 1
  have p2 := BX.out.cell 2
  have q2 := BY.out.cell 2
  have p3 := BX.out.cell 3
  have q3 := BY.out.cell 3
  have p4 := BX.out.cell 4
  have q4 := BY.out.cell 4
  have p5 := BX.out.cell 5
  have q5 := BY.out.cell 5
  have p6 := BX.out.cell 6
  have q6 := BY.out.cell 6
  have p7 := BX.out.cell 7
  have q7 := BY.out.cell 7
  have p8 := BX.out.cell 8
  have q8 := BY.out.cell 8
  have p9 := BX.out.cell 9
  have q9 := BY.out.cell 9
  have p10 := BX.out.cell 10
  have q10 := BY.out.cell 10
  have p11 := BX.out.cell 11
  have q11 := BY.out.cell 11
  have p12 := BX.out.cell 12
  have q12 := BY.out.cell 12
  clear hA hA' hC hC' hy hb0
  go_enter Tryd.func59, Tryd.ntmps59
  go_wp2_with fail
  generalize (w.alloc (.cells #[.int .i64 a, .int .i64 u, .int .i64 x, .int .i64 s, .int .i64 p, .int .i64 q, .int .i64 r, .slice A l.length c, .int .i64 f, .int .i64 y, .int .i64 i, .int .i64 j, .slice C m.length d] 85)).alloc (.cells #[.int .i64 a, .int .i64 u, .int .i64 x, .int .i64 s, .int .i64 p, .int .i64 q, .int .i64 r, .slice A' l.length c', .int .i64 f, .int .i64 y, .int .i64 i, .int .i64 j, .slice C' m.length d'] 85) = W at *
  refine (eqReq_same x s p q r A A' l c c' _ hl (by exact HA.out) (by exact HA'.out)).mono ?_
  rintro e w1 ⟨rfl, hb1⟩
  have BX1 := Lib.hid (BX.out.below hb1)
  have BY1 := Lib.hid (BY.out.below hb1)
  have HC1 := Lib.hid (HC.out.below hb1)
  have HC2 := Lib.hid (HC'.out.below hb1)
  have HB1 := Lib.hid (below_then HB.out hb1)
  clear hb1 BX BY HB HA HA' HC HC' p0 q0 p1 q1 p2 q2 p3 q3 p4 q4 p5 q5 p6 q6 p7 q7 p8 q8 p9 q9 p10 q10 p11 q11 p12 q12
  have p8 := BX1.out.cell 8
  have q8 := BY1.out.cell 8
  have p9 := BX1.out.cell 9
  have q9 := BY1.out.cell 9
  have p10 := BX1.out.cell 10
  have q10 := BY1.out.cell 10
  have p11 := BX1.out.cell 11
  have q11 := BY1.out.cell 11
  have p12 := BX1.out.cell 12
  have q12 := BY1.out.cell 12
  go_wp2_with fail
  refine (eqReply_same y i j C C' m d d' _ hm (by exact HC1.out) (by exact HC2.out)).mono ?_
  rintro e w2 ⟨rfl, hb2⟩
  have HB2 := Lib.hid (below_then HB1.out hb2)
  clear hb2 BX1 BY1 HB1 HC1 HC2 p8 q8 p9 q9 p10 q10 p11 q11 p12 q12
  go_wp2
  go_ret
  exact ⟨rfl, HB2.out⟩


set_option maxHeartbeats 1000000 in
theorem szOutS_any (A0 : Option Addr) (es : List Ot) (c0 : Nat) (left : Int) (w : World) (hn : es.length ≤ 9223372036854775807) (h0 : 0 ≤ left) (h1 : left ≤ 1048576) (hE : Ots w A0 es) :
    Calls Tryd.prog 14 #[.slice A0 es.length c0, .int .i64 left] w fun e w' => (∃ r : Int, e = .returned (.int .i64 r) ∧ (r < 0 ∨ (0 ≤ r ∧ r + es.length + sumB obt es ≤ left))) ∧ Below w.heap.size w w' := by
  by_cases h : left - (es.length : Int) < 0
  · go_enter Tryd.func14, Tryd.ntmps14
    go_wp2
    go_ret
    exact ⟨⟨_, rfl, .inl (by omega)⟩, Below.refl _ _⟩
  · go_enter Tryd.func14, Tryd.ntmps14
    go_wp2
    go_loopw [1, 5] (fun lf i wr => ∃ k : Nat, ∃ r : Int, k ≤ es.length ∧ i = .int .i64 k ∧ lf = .int .i64 r ∧ 0 ≤ r ∧ r ≤ 1048576 ∧ es.length + sumB obt (es.take k) + r ≤ left ∧ Below w.heap.size w wr) (fun _ i _ => es.length - (intOf i).toNat)
    case atStart => exact ⟨0, left - es.length, Nat.zero_le _, rfl, rfl, by omega, by omega, by simp [sumB]; omega, Below.refl _ _⟩
    case round =>
      obtain ⟨k, r0, hk, rfl, rfl, hr0, hr1, hr2, hb⟩ := hrel
      by_cases hlt : k < es.length
      · obtain ⟨b, off, a, u, x, s, p, q, r, f, y, i, j, A, l, c, C, m, d, rfl, hbl, hek, k0, k1, k2, k3, k4, k5, k6, k7, k8, k9, k10, k11, k12, i0, i1, i2, i3, i4, i5, i6, i7, i8, i9, i10, hl0, hc0, hb0, hl1, hc1, hb1⟩ := (hE.below hb).at_ k hlt
        have htk := sumB_take obt es k hlt
        rw [hek] at htk
        have HT := Lib.hid htk
        have h90 : l.length ≤ 9223372036854775807 := by unfold maxLen at hc0; omega
        have h91 : m.length ≤ 9223372036854775807 := by unfold maxLen at hc1; omega
        clear htk hek i0 i1 i2 i3 i4 i5 i6 i7 i8 i9 i10
        go_wp2_with fail
        refine (szOut_e a u x s p q r f y i j A l c C m d r0 _ h90 h91 hr0 hr1).mono ?_
        rintro e w1 ⟨⟨q', rfl, hq⟩, hb1⟩
        have hb2 := below_then hb hb1
        clear k0 k1 k2 k3 k4 k5 k6 k7 k8 k9 k10 k11 k12
        by_cases hneg : q' < 0
        · go_wp2
          go_ret
          exact ⟨⟨_, rfl, .inl (by omega)⟩, hb2⟩
        · go_wp2
          go_roundw
          case rel => exact ⟨k + 1, q', by omega, by go_num, rfl, by omega, by omega, by rw [HT.out]; omega, hb2⟩
          case measure => simp [intOf]; omega
      · have e : k = es.length := by omega
        subst e
        rw [List.take_length] at hr2
        go_wp2
        go_ret
        exact ⟨⟨_, rfl, .inr ⟨hr0, by omega⟩⟩, hb⟩


set_option maxHeartbeats 8000000 in
theorem toOutS_any (A0 : Option Addr) (es : List Ot) (c0 : Nat) (w : World) (hn : es.length + sumB obt es ≤ 1048576) (hE : Ots w A0 es) :
    Calls Tryd.prog 17 #[.slice A0 es.length c0] w (Gives Lay.outs wSlice es w) := by
  have hmk : ∀ W, (Instr.makeSlice 42 (.int .i64 (es.length : Int)) (.int .i64 (es.length : Int))).run Tryd.prog W = .ok (.slice (some ⟨W.heap.size, 0, none⟩) es.length es.length) (W.alloc (.cells (madeCells #[.int .i64 0, .int .i64 0, .int .i64 0, .int .i64 0, .int .i64 0, .int .i64 0, .int .i64 0, .slice none 0 0, .int .i64 0, .int .i64 0, .int .i64 0, .int .i64 0, .slice none 0 0] (es.length * 13)) 85)) := fun W =>
    run_mk (P := Tryd.prog) 42 85 (.agg #[.int .i64 0, .int .i64 0, .int .i64 0, .int .i64 0, .int .i64 0, .int .i64 0, .int .i64 0, .slice none 0 0, .int .i64 0, .int .i64 0, .int .i64 0, .int .i64 0, .slice none 0 0]) 13 136 Tryd.underlying42 Tryd.infoOut es.length (by omega) (by omega) W
  go_enter Tryd.func17, Tryd.ntmps17
  go_wp2
  go_loopw [4] (fun i wr => ∃ L : List (El Ot), L.length ≤ es.length ∧ i = .int .i64 L.length ∧ es.take L.length = L.map (·.2.1) ∧
      Filling 85 Lay.out (fun j => (#[.int .i64 0, .int .i64 0, .int .i64 0, .int .i64 0, .int .i64 0, .int .i64 0, .int .i64 0, .slice none 0 0, .int .i64 0, .int .i64 0, .int .i64 0, .int .i64 0, .slice none 0 0] : Array Value)[j % 13]!) es.length wr w.heap.size L ∧ Below w.heap.size w wr)
    (fun i _ => es.length - (intOf i).toNat)
  case atStart => exact ⟨[], Nat.zero_le _, rfl, by simp, Filling.made #[.int .i64 0, .int .i64 0, .int .i64 0, .int .i64 0, .int .i64 0, .int .i64 0, .int .i64 0, .slice none 0 0, .int .i64 0, .int .i64 0, .int .i64 0, .int .i64 0, .slice none 0 0] _ _, (Below.refl _ _).alloc (Nat.le_refl _) _⟩
  case round =>
    obtain ⟨L, hk, rfl, htk, hfill, hbel⟩ := hrel
    have HTK := Lib.hid htk
    clear htk
    by_cases hlt : L.length < es.length
    · obtain ⟨b, off, a, u, x, s, p, q, r, f, y, i, j, A, l, c, C, m, d, rfl, hbl, hek, k0, k1, k2, k3, k4, k5, k6, k7, k8, k9, k10, k11, k12, i0, i1, i2, i3, i4, i5, i6, i7, i8, i9, i10, hl0, hc0, hb0, hl1, hc1, hb1⟩ := (hE.below hbel).at_ L.length hlt
      have htot := sumB_mem obt es L.length hlt
      rw [hek] at htot
      have hnext : es.take (L.length + 1) = L.map (·.2.1) ++ [(a, u, (x, s, p, q, r, l), f, (y, i, j, m))] := by rw [List.take_succ_eq_append_getElem hlt, HTK.out, hek]
      have HN := Lib.hid hnext
      have h40 : l.length ≤ 1048576 := by have h9 : l.length + m.length ≤ sumB obt es := htot; omega
      have h41 : m.length ≤ 1048576 := by have h9 : l.length + m.length ≤ sumB obt es := htot; omega
      have I0 := Lib.hid i0
      have I1 := Lib.hid i1
      have I2 := Lib.hid i2
      have I3 := Lib.hid i3
      have I4 := Lib.hid i4
      have I5 := Lib.hid i5
      have I6 := Lib.hid i6
      have I7 := Lib.hid i7
      have I8 := Lib.hid i8
      have I9 := Lib.hid i9
      have I10 := Lib.hid i10
      have HB0 := Lib.hid hb0
      have HB1 := Lib.hid hb1
      clear hnext hek htot i0 i1 i2 i3 i4 i5 i6 i7 i8 i9 i10 hb0 hb1
      obtain ⟨k, hkk⟩ : ∃ k, L.length = k := ⟨_, rfl⟩
      have hlt' := hlt
      rw [hkk] at k0 k1 k2 k3 k4 k5 k6 k7 k8 k9 k10 k11 k12 hlt' hk
      have HK := Lib.hid hkk
      rw [hkk]
      clear hkk
      have hw : w.heap.size < wr.heap.size := hfill.row.lt
      have hki : (k : Int) < (es.length : Int) := by omega
      go_wp2_with fail
      refine (toOut_e a u x s p q r f y i j A l c C m d _ h40 h41 (by exact HB0.out) (by exact HB1.out)).mono ?_
      rintro e w1 ⟨A', c', C', d', rfl, hown, hb1⟩
      have hrow1 := hfill.row.of_block (hb1.block _ hfill.row.lt)
      obtain ⟨u0', hu0⟩ : ∃ u, w1.cell? ⟨w.heap.size, k * 13, none⟩ = some u := ⟨_, hrow1.cell (by show k * 13 < es.length * 13; omega)⟩
      have hfz0 := hrow1.frozen (k * 13)
      obtain ⟨u1', hu1⟩ : ∃ u, w1.cell? ⟨w.heap.size, k * 13 + 1, none⟩ = some u := ⟨_, hrow1.cell (by show k * 13 + 1 < es.length * 13; omega)⟩
      have hfz1 := hrow1.frozen (k * 13 + 1)
      obtain ⟨u2', hu2⟩ : ∃ u, w1.cell? ⟨w.heap.size, k * 13 + 2, none⟩ = some u := ⟨_, hrow1.cell (by show k * 13 + 2 < es.length * 13; omega)⟩
      have hfz2 := hrow1.frozen (k * 13 + 2)
      obtain ⟨u3', hu3⟩ : ∃ u, w1.cell? ⟨w.heap.size, k * 13 + 3, none⟩ = some u := ⟨_, hrow1.cell (by show k * 13 + 3 < es.length * 13; omega)⟩
      have hfz3 := hrow1.frozen (k * 13 + 3)
      obtain ⟨u4', hu4⟩ : ∃ u, w1.cell? ⟨w.heap.size, k * 13 + 4, none⟩ = some u := ⟨_, hrow1.cell (by show k * 13 + 4 < es.length * 13; omega)⟩
      have hfz4 := hrow1.frozen (k * 13 + 4)
      obtain ⟨u5', hu5⟩ : ∃ u, w1.cell? ⟨w.heap.size, k * 13 + 5, none⟩ = some u := ⟨_, hrow1.cell (by show k * 13 + 5 < es.length * 13; omega)⟩
      have hfz5 := hrow1.frozen (k * 13 + 5)
      obtain ⟨u6', hu6⟩ : ∃ u, w1.cell? ⟨w.heap.size, k * 13 + 6, none⟩ = some u := ⟨_, hrow1.cell (by show k * 13 + 6 < es.length * 13; omega)⟩
      have hfz6 := hrow1.frozen (k * 13 + 6)
      obtain ⟨u7', hu7⟩ : ∃ u, w1.cell? ⟨w.heap.size, k * 13 + 7, none⟩ = some u := ⟨_, hrow1.cell (by show k * 13 + 7 < es.length * 13; omega)⟩
      have hfz7 := hrow1.frozen (k * 13 + 7)
      obtain ⟨u8', hu8⟩ : ∃ u, w1.cell? ⟨w.heap.size, k * 13 + 8, none⟩ = some u := ⟨_, hrow1.cell (by show k * 13 + 8 < es.length * 13; omega)⟩
      have hfz8 := hrow1.frozen (k * 13 + 8)
      obtain ⟨u9', hu9⟩ : ∃ u, w1.cell? ⟨w.heap.size, k * 13 + 9, none⟩ = some u := ⟨_, hrow1.cell (by show k * 13 + 9 < es.length * 13; omega)⟩
      have hfz9 := hrow1.frozen (k * 13 + 9)
      obtain ⟨u10', hu10⟩ : ∃ u, w1.cell? ⟨w.heap.size, k * 13 + 10, none⟩ = some u := ⟨_, hrow1.cell (by show k * 13 + 10 < es.length * 13; omega)⟩
      have hfz10 := hrow1.frozen (k * 13 + 10)
      obtain ⟨u11', hu11⟩ : ∃ u, w1.cell? ⟨w.heap.size, k * 13 + 11, none⟩ = some u := ⟨_, hrow1.cell (by show k * 13 + 11 < es.length * 13; omega)⟩
      have hfz11 := hrow1.frozen (k * 13 + 11)
      obtain ⟨u12', hu12⟩ : ∃ u, w1.cell? ⟨w.heap.size, k * 13 + 12, none⟩ = some u := ⟨_, hrow1.cell (by show k * 13 + 12 < es.length * 13; omega)⟩
      have hfz12 := hrow1.frozen (k * 13 + 12)
      have hs1 := hb1.size
      have hr2 := (((((((((((((hrow1.set (k * 13) (.int .i64 a)).set (k * 13 + 1) (.int .i64 u)).set (k * 13 + 2) (.int .i64 x)).set (k * 13 + 3) (.int .i64 s)).set (k * 13 + 4) (.int .i64 p)).set (k * 13 + 5) (.int .i64 q)).set (k * 13 + 6) (.int .i64 r)).set (k * 13 + 7) (.slice A' l.length c')).set (k * 13 + 8) (.int .i64 f)).set (k * 13 + 9) (.int .i64 y)).set (k * 13 + 10) (.int .i64 i)).set (k * 13 + 11) (.int .i64 j)).set (k * 13 + 12) (.slice C' m.length d'))
      have hf2 := hfill.snoc hb1 (own_out I0.out I1.out I2.out I3.out I4.out I5.out I6.out I7.out I8.out I9.out I10.out hown) hown.nodup hown.lo (hr2.congr (by
        intro j hj
        have hs : Lay.out.sz = 13 := rfl
        rw [hs, HK.out]
        by_cases c12' : j = k * 13 + 12
        · subst c12'; simp
        · skip
          by_cases c11' : j = k * 13 + 11
          · subst c11'; simp
          · skip
            by_cases c10' : j = k * 13 + 10
            · subst c10'; simp
            · skip
              by_cases c9' : j = k * 13 + 9
              · subst c9'; simp
              · skip
                by_cases c8' : j = k * 13 + 8
                · subst c8'; simp
                · skip
                  by_cases c7' : j = k * 13 + 7
                  · subst c7'; simp
                  · skip
                    by_cases c6' : j = k * 13 + 6
                    · subst c6'; simp
                    · skip
                      by_cases c5' : j = k * 13 + 5
                      · subst c5'; simp
                      · skip
                        by_cases c4' : j = k * 13 + 4
                        · subst c4'; simp
                        · skip
                          by_cases c3' : j = k * 13 + 3
                          · subst c3'; simp
                          · skip
                            by_cases c2' : j = k * 13 + 2
                            · subst c2'; simp
                            · skip
                              by_cases c1' : j = k * 13 + 1
                              · subst c1'; simp
                              · skip
                                by_cases c0' : j = k * 13
                                · subst c0'; simp
                                · skip
                                  rw [if_neg c12', if_neg c11', if_neg c10', if_neg c9', if_neg c8', if_neg c7', if_neg c6', if_neg c5', if_neg c4', if_neg c3', if_neg c2', if_neg c1', if_neg c0', if_neg (by omega)])) (fun q hq => by rw [Below.heap_setCell _ _ _ _ hq, Below.heap_setCell _ _ _ _ hq, Below.heap_setCell _ _ _ _ hq, Below.heap_setCell _ _ _ _ hq, Below.heap_setCell _ _ _ _ hq, Below.heap_setCell _ _ _ _ hq, Below.heap_setCell _ _ _ _ hq, Below.heap_setCell _ _ _ _ hq, Below.heap_setCell _ _ _ _ hq, Below.heap_setCell _ _ _ _ hq, Below.heap_setCell _ _ _ _ hq, Below.heap_setCell _ _ _ _ hq, Below.heap_setCell _ _ _ _ hq]) (by simp)
      have HF2 := Lib.hid hf2
      clear hrow1 hf2 hr2 hfill hown k0 k1 k2 k3 k4 k5 k6 k7 k8 k9 k10 k11 k12
      go_wp2
      go_roundw
      case rel =>
        refine ⟨_, ?_, ?_, ?_, by have h9 := HF2.out; exact h9, ((((((((((((((below_then hbel hb1).setCell (p := ⟨w.heap.size, k * 13, none⟩) (Nat.le_refl _) _).setCell (p := ⟨w.heap.size, k * 13 + 1, none⟩) (Nat.le_refl _) _).setCell (p := ⟨w.heap.size, k * 13 + 2, none⟩) (Nat.le_refl _) _).setCell (p := ⟨w.heap.size, k * 13 + 3, none⟩) (Nat.le_refl _) _).setCell (p := ⟨w.heap.size, k * 13 + 4, none⟩) (Nat.le_refl _) _).setCell (p := ⟨w.heap.size, k * 13 + 5, none⟩) (Nat.le_refl _) _).setCell (p := ⟨w.heap.size, k * 13 + 6, none⟩) (Nat.le_refl _) _).setCell (p := ⟨w.heap.size, k * 13 + 7, none⟩) (Nat.le_refl _) _).setCell (p := ⟨w.heap.size, k * 13 + 8, none⟩) (Nat.le_refl _) _).setCell (p := ⟨w.heap.size, k * 13 + 9, none⟩) (Nat.le_refl _) _).setCell (p := ⟨w.heap.size, k * 13 + 10, none⟩) (Nat.le_refl _) _).setCell (p := ⟨w.heap.size, k * 13 + 11, none⟩) (Nat.le_refl _) _).setCell (p := ⟨w.heap.size, k * 13 + 12, none⟩) (Nat.le_refl _) _)⟩
        · rw [List.length_append]; simp; omega
        · rw [List.length_append, ← HK.out]; simp
        · rw [List.length_append, List.length_singleton, HN.out, List.map_append]; rfl
      case measure => simp [intOf]; have := HK.out; omega
    · have e : L.length = es.length := by omega
      obtain ⟨h1, h2, h3⟩ := hfill.done e (by unfold maxLen; omega)
      have e2 : L.map (·.2.1) = es := by rw [← HTK.out, e, List.take_length]
      rw [e2] at h1
      have H1 := Lib.hid h1
      have HE := Lib.hid e
      clear h1 e e2 hfill
      go_wp2
      go_ret
      exact ⟨_, _, rfl, H1.out, h2, h3, hbel⟩


set_option maxHeartbeats 8000000 in
theorem eqOutS_same (A0 B0 : Option Addr) (es : List Ot) (c0 d0 : Nat) (w : World) (hl : es.length ≤ 9223372036854775807) (hA : Ots w A0 es) (hB : Ots w B0 es) :
    Calls Tryd.prog 20 #[.slice A0 es.length c0, .slice B0 es.length d0] w fun e w' => e = .returned (.bool true) ∧ Below w.heap.size w w' := by
  have hne : ((es.length : Int) != (es.length : Int)) = false := by simp
  go_enter Tryd.func20, Tryd.ntmps20
  go_wp2
  go_loopw [5] (fun i wr => ∃ k : Nat, k ≤ es.length ∧ i = .int .i64 k ∧ Below w.heap.size w wr)
    (fun i _ => es.length - (intOf i).toNat)
  case atStart => exact ⟨0, Nat.zero_le _, rfl, Below.refl _ _⟩
  case round =>
    obtain ⟨k, hk, rfl, hb⟩ := hrel
    by_cases hlt : k < es.length
    · obtain ⟨b1, off1, a, u, x, s, p, q, r, f, y, i, j, A, l, c, C, m, d, rfl, hbl1, hek1, k0, k1, k2, k3, k4, k5, k6, k7, k8, k9, k10, k11, k12, i0, i1, i2, i3, i4, i5, i6, i7, i8, i9, i10, hl0, hc0, hb0, hl1, hc1, hb1⟩ := (hA.below hb).at_ k hlt
      obtain ⟨b2, off2, a', u', x', s', p', q', r', f', y', i', j', A', l', c', C', m', d', rfl, hbl2, hek2, s0, s1, s2, s3, s4, s5, s6, s7, s8, s9, s10, s11, s12, _, _, _, _, _, _, _, _, _, _, _, gl0, gc0, gb0, gl1, gc1, gb1⟩ := (hB.below hb).at_ k hlt
      rw [hek1] at hek2
      simp only [Prod.mk.injEq] at hek2
      obtain ⟨rfl, rfl, rfl, rfl, rfl, rfl, rfl, rfl, rfl, rfl, rfl, rfl, rfl⟩ := (show a = a' ∧ u = u' ∧ x = x' ∧ s = s' ∧ p = p' ∧ q = q' ∧ r = r' ∧ l = l' ∧ f = f' ∧ y = y' ∧ i = i' ∧ j = j' ∧ m = m' from by obtain ⟨h0, h1, ⟨h2, h3, h4, h5, h6, h7⟩, h8, h9, h10, h11, h12⟩ := hek2; exact ⟨h0, h1, h2, h3, h4, h5, h6, h7, h8, h9, h10, h11, h12⟩)
      have hi0 : (0 : Int) ≤ (k : Int) := by omega
      have hi1 : (k : Int) < (es.length : Int) := by omega
      have h90 : l.length ≤ 9223372036854775807 := by unfold maxLen at hc0; omega
      have h91 : m.length ≤ 9223372036854775807 := by unfold maxLen at hc1; omega
      have HX0 := Lib.hid hb0
      have HY0 := Lib.hid gb0
      have HX1 := Lib.hid hb1
      have HY1 := Lib.hid gb1
      clear hek1 hb0 gb0 hb1 gb1 i0 i1 i2 i3 i4 i5 i6 i7 i8 i9 i10
      go_wp2_with fail
      refine wp_region_held_drew (S := (fun V => V.cell? ⟨b1, off1 + k * 13, none⟩ = some (.int .i64 a) ∧ V.cell? ⟨b1, off1 + k * 13 + 1, none⟩ = some (.int .i64 u) ∧ V.cell? ⟨b1, off1 + k * 13 + 2, none⟩ = some (.int .i64 x) ∧ V.cell? ⟨b1, off1 + k * 13 + 3, none⟩ = some (.int .i64 s) ∧ V.cell? ⟨b1, off1 + k * 13 + 4, none⟩ = some (.int .i64 p) ∧ V.cell? ⟨b1, off1 + k * 13 + 5, none⟩ = some (.int .i64 q) ∧ V.cell? ⟨b1, off1 + k * 13 + 6, none⟩ = some (.int .i64 r) ∧ V.cell? ⟨b1, off1 + k * 13 + 7, none⟩ = some (.slice A l.length c) ∧ V.cell? ⟨b1, off1 + k * 13 + 8, none⟩ = some (.int .i64 f) ∧ V.cell? ⟨b1, off1 + k * 13 + 9, none⟩ = some (.int .i64 y) ∧ V.cell? ⟨b1, off1 + k * 13 + 10, none⟩ = some (.int .i64 i) ∧ V.cell? ⟨b1, off1 + k * 13 + 11, none⟩ = some (.int .i64 j) ∧ V.cell? ⟨b1, off1 + k * 13 + 12, none⟩ = some (.slice C m.length d) ∧ V.cell? ⟨b2, off2 + k * 13, none⟩ = some (.int .i64 a) ∧ V.cell? ⟨b2, off2 + k * 13 + 1, none⟩ = some (.int .i64 u) ∧ V.cell? ⟨b2, off2 + k * 13 + 2, none⟩ = some (.int .i64 x) ∧ V.cell? ⟨b2, off2 + k * 13 + 3, none⟩ = some (.int .i64 s) ∧ V.cell? ⟨b2, off2 + k * 13 + 4, none⟩ = some (.int .i64 p) ∧ V.cell? ⟨b2, off2 + k * 13 + 5, none⟩ = some (.int .i64 q) ∧ V.cell? ⟨b2, off2 + k * 13 + 6, none⟩ = some (.int .i64 r) ∧ V.cell? ⟨b2, off2 + k * 13 + 7, none⟩ = some (.slice A' l.length c') ∧ V.cell? ⟨b2, off2 + k * 13 + 8, none⟩ = some (.int .i64 f) ∧ V.cell? ⟨b2, off2 + k * 13 + 9, none⟩ = some (.int .i64 y) ∧ V.cell? ⟨b2, off2 + k * 13 + 10, none⟩ = some (.int .i64 i) ∧ V.cell? ⟨b2, off2 + k * 13 + 11, none⟩ = some (.int .i64 j) ∧ V.cell? ⟨b2, off2 + k * 13 + 12, none⟩ = some (.slice C' m.length d'))) (by kernel_rfl) (by exact ⟨k0, k1, k2, k3, k4, k5, k6, k7, k8, k9, k10, k11, k12, s0, s1, s2, s3, s4, s5, s6, s7, s8, s9, s10, s11, s12⟩) (fun hHeld => ?_)
      refine wpAnyH_take (i := 0) (oi := ?_) (v := ?_) ?_ ?_ ?_ ?_ ?_ ?_ (by exact hHeld) ?_
      rotate_left 2
      · (simp only [List.getElem?_toArray, List.getElem?_cons_zero]; try rfl)
      · kernel_rfl
      · kernel_rfl
      · kernel_rfl
      · exact fun _ _ _ h => h
      · refine Or.inl ⟨by rfl, ?_⟩
        (intro V hSV; (try dsimp only at hSV); obtain ⟨q0, q1, q2, q3, q4, q5, q6, q7, q8, q9, q10, q11, q12, q13, q14, q15, q16, q17, q18, q19, q20, q21, q22, q23, q24, q25⟩ := hSV; go_simp; try with_reducible rfl)
      (try simp only [Act.put, List.setIfInBounds_toArray, List.set_cons_zero, List.set_cons_succ])
      refine wpAnyH_take (i := 1) (oi := ?_) (v := ?_) ?_ ?_ ?_ ?_ ?_ ?_ (by exact hHeld) ?_
      rotate_left 2
      · (simp only [List.getElem?_toArray, List.getElem?_cons_zero, List.getElem?_cons_succ]; try rfl)
      · kernel_rfl
      · kernel_rfl
      · kernel_rfl
      · exact fun _ _ _ h => h
      · refine Or.inl ⟨by rfl, ?_⟩
        (intro V hSV; (try dsimp only at hSV); obtain ⟨q0, q1, q2, q3, q4, q5, q6, q7, q8, q9, q10, q11, q12, q13, q14, q15, q16, q17, q18, q19, q20, q21, q22, q23, q24, q25⟩ := hSV; go_simp; try with_reducible rfl)
      (try simp only [Act.put, List.setIfInBounds_toArray, List.set_cons_zero, List.set_cons_succ])
      refine wpAnyH_take (i := 2) (oi := ?_) (v := ?_) ?_ ?_ ?_ ?_ ?_ ?_ (by exact hHeld) ?_
      rotate_left 2
      · (simp only [List.getElem?_toArray, List.getElem?_cons_zero, List.getElem?_cons_succ]; try rfl)
      · kernel_rfl
      · kernel_rfl
      · kernel_rfl
      · exact fun _ _ _ h => h
      · refine Or.inl ⟨by rfl, ?_⟩
        (intro V hSV; (try dsimp only at hSV); obtain ⟨q0, q1, q2, q3, q4, q5, q6, q7, q8, q9, q10, q11, q12, q13, q14, q15, q16, q17, q18, q19, q20, q21, q22, q23, q24, q25⟩ := hSV; go_simp; try with_reducible rfl)
      (try simp only [Act.put, List.setIfInBounds_toArray, List.set_cons_zero, List.set_cons_succ])
      refine wpAnyH_take (i := 3) (oi := ?_) (v := ?_) ?_ ?_ ?_ ?_ ?_ ?_ (by exact hHeld) ?_
      rotate_left 2
      · (simp only [List.getElem?_toArray, List.getElem?_cons_zero, List.getElem?_cons_succ]; try rfl)
      · kernel_rfl
      · kernel_rfl
      · kernel_rfl
      · exact fun _ _ _ h => h
      · refine Or.inl ⟨by rfl, ?_⟩
        (intro V hSV; (try dsimp only at hSV); obtain ⟨q0, q1, q2, q3, q4, q5, q6, q7, q8, q9, q10, q11, q12, q13, q14, q15, q16, q17, q18, q19, q20, q21, q22, q23, q24, q25⟩ := hSV; go_simp; try with_reducible rfl)
      (try simp only [Act.put, List.setIfInBounds_toArray, List.set_cons_zero, List.set_cons_succ])
      refine wpAnyH_take (i := 4) (oi := ?_) (v := ?_) ?_ ?_ ?_ ?_ ?_ ?_ (by exact hHeld) ?_
      rotate_left 2
      · (simp only [List.getElem?_toArray, List.getElem?_cons_zero, List.getElem?_cons_succ]; try rfl)
      · kernel_rfl
      · kernel_rfl
      · kernel_rfl
      · exact fun _ _ _ h => h
      · refine Or.inl ⟨by rfl, ?_⟩
        (intro V hSV; (try dsimp only at hSV); obtain ⟨q0, q1, q2, q3, q4, q5, q6, q7, q8, q9, q10, q11, q12, q13, q14, q15, q16, q17, q18, q19, q20, q21, q22, q23, q24, q25⟩ := hSV; go_simp; try with_reducible rfl)
      (try simp only [Act.put, List.setIfInBounds_toArray, List.set_cons_zero, List.set_cons_succ])
      refine wpAnyH_take (i := 5) (oi := ?_) (v := ?_) ?_ ?_ ?_ ?_ ?_ ?_ (by exact hHeld) ?_
      rotate_left 2
      · (simp only [List.getElem?_toArray, List.getElem?_cons_zero, List.getElem?_cons_succ]; try rfl)
      · kernel_rfl
      · kernel_rfl
      · kernel_rfl
      · exact fun _ _ _ h => h
      · refine Or.inl ⟨by rfl, ?_⟩
        (intro V hSV; (try dsimp only at hSV); obtain ⟨q0, q1, q2, q3, q4, q5, q6, q7, q8, q9, q10, q11, q12, q13, q14, q15, q16, q17, q18, q19, q20, q21, q22, q23, q24, q25⟩ := hSV; go_simp; try with_reducible rfl)
      (try simp only [Act.put, List.setIfInBounds_toArray, List.set_cons_zero, List.set_cons_succ])
      refine wpAnyH_take (i := 6) (oi := ?_) (v := ?_) ?_ ?_ ?_ ?_ ?_ ?_ (by exact hHeld) ?_
      rotate_left 2
      · (simp only [List.getElem?_toArray, List.getElem?_cons_zero, List.getElem?_cons_succ]; try rfl)
      · kernel_rfl
      · kernel_rfl
      · kernel_rfl
      · exact fun _ _ _ h => h
      · refine Or.inl ⟨by rfl, ?_⟩
        (intro V hSV; (try dsimp only at hSV); obtain ⟨q0, q1, q2, q3, q4, q5, q6, q7, q8, q9, q10, q11, q12, q13, q14, q15, q16, q17, q18, q19, q20, q21, q22, q23, q24, q25⟩ := hSV; go_simp; try with_reducible rfl)
      (try simp only [Act.put, List.setIfInBounds_toArray, List.set_cons_zero, List.set_cons_succ])
      refine wpAnyH_take (i := 7) (oi := ?_) (v := ?_) ?_ ?_ ?_ ?_ ?_ ?_ (by exact hHeld) ?_
      rotate_left 2
      · (simp only [List.getElem?_toArray, List.getElem?_cons_zero, List.getElem?_cons_succ]; try rfl)
      · kernel_rfl
      · kernel_rfl
      · kernel_rfl
      · exact fun _ _ _ h => h
      · refine Or.inl ⟨by rfl, ?_⟩
        (intro V hSV; (try dsimp only at hSV); obtain ⟨q0, q1, q2, q3, q4, q5, q6, q7, q8, q9, q10, q11, q12, q13, q14, q15, q16, q17, q18, q19, q20, q21, q22, q23, q24, q25⟩ := hSV; go_simp; try with_reducible rfl)
      (try simp only [Act.put, List.setIfInBounds_toArray, List.set_cons_zero, List.set_cons_succ])
      refine wpAnyH_ready (rs := [8]) (by kernel_rfl) (by simp) ?_
      refine AllReadyH.cons rfl (fun K hK => ?_) AllReadyH.nil
      go_simp
      refine (eqOut_e a u x s p q r f y i j A A' l c c' C C' m d d' _ h90 h91 (by have h9 := HX0.out; exact h9) (by have h9 := HY0.out; exact h9) (by have h9 := HX1.out; exact h9) (by have h9 := HY1.out; exact h9)).mono ?_
      rintro e w1 ⟨rfl, hb1⟩
      have hb1 : Below wr.heap.size wr w1 := ⟨hb1.os, hb1.tape, hb1.output, hb1.size, hb1.block⟩
      go_wp2_with fail
      refine hK.out _ _ (by exact ⟨((hb1).cell (p := ⟨b1, off1 + k * 13, none⟩) hbl1).trans k0, ((hb1).cell (p := ⟨b1, off1 + k * 13 + 1, none⟩) hbl1).trans k1, ((hb1).cell (p := ⟨b1, off1 + k * 13 + 2, none⟩) hbl1).trans k2, ((hb1).cell (p := ⟨b1, off1 + k * 13 + 3, none⟩) hbl1).trans k3, ((hb1).cell (p := ⟨b1, off1 + k * 13 + 4, none⟩) hbl1).trans k4, ((hb1).cell (p := ⟨b1, off1 + k * 13 + 5, none⟩) hbl1).trans k5, ((hb1).cell (p := ⟨b1, off1 + k * 13 + 6, none⟩) hbl1).trans k6, ((hb1).cell (p := ⟨b1, off1 + k * 13 + 7, none⟩) hbl1).trans k7, ((hb1).cell (p := ⟨b1, off1 + k * 13 + 8, none⟩) hbl1).trans k8, ((hb1).cell (p := ⟨b1, off1 + k * 13 + 9, none⟩) hbl1).trans k9, ((hb1).cell (p := ⟨b1, off1 + k * 13 + 10, none⟩) hbl1).trans k10, ((hb1).cell (p := ⟨b1, off1 + k * 13 + 11, none⟩) hbl1).trans k11, ((hb1).cell (p := ⟨b1, off1 + k * 13 + 12, none⟩) hbl1).trans k12, ((hb1).cell (p := ⟨b2, off2 + k * 13, none⟩) hbl2).trans s0, ((hb1).cell (p := ⟨b2, off2 + k * 13 + 1, none⟩) hbl2).trans s1, ((hb1).cell (p := ⟨b2, off2 + k * 13 + 2, none⟩) hbl2).trans s2, ((hb1).cell (p := ⟨b2, off2 + k * 13 + 3, none⟩) hbl2).trans s3, ((hb1).cell (p := ⟨b2, off2 + k * 13 + 4, none⟩) hbl2).trans s4, ((hb1).cell (p := ⟨b2, off2 + k * 13 + 5, none⟩) hbl2).trans s5, ((hb1).cell (p := ⟨b2, off2 + k * 13 + 6, none⟩) hbl2).trans s6, ((hb1).cell (p := ⟨b2, off2 + k * 13 + 7, none⟩) hbl2).trans s7, ((hb1).cell (p := ⟨b2, off2 + k * 13 + 8, none⟩) hbl2).trans s8, ((hb1).cell (p := ⟨b2, off2 + k * 13 + 9, none⟩) hbl2).trans s9, ((hb1).cell (p := ⟨b2, off2 + k * 13 + 10, none⟩) hbl2).trans s10, ((hb1).cell (p := ⟨b2, off2 + k * 13 + 11, none⟩) hbl2).trans s11, ((hb1).cell (p := ⟨b2, off2 + k * 13 + 12, none⟩) hbl2).trans s12⟩) (fun hHeld => ?_)
      clear hK K
      (try simp only [Act.put, List.setIfInBounds_toArray, List.set_cons_zero, List.set_cons_succ])
      refine wpAnyH_take (i := 9) (oi := ?_) (v := ?_) ?_ ?_ ?_ ?_ ?_ ?_ (by exact hHeld) ?_
      rotate_left 2
      · (simp only [List.getElem?_toArray, List.getElem?_cons_zero, List.getElem?_cons_succ]; try rfl)
      · kernel_rfl
      · kernel_rfl
      · kernel_rfl
      · exact fun _ _ _ h => h
      · refine Or.inl ⟨by rfl, ?_⟩
        (intro V hSV; (try dsimp only at hSV); obtain ⟨q0, q1, q2, q3, q4, q5, q6, q7, q8, q9, q10, q11, q12, q13, q14, q15, q16, q17, q18, q19, q20, q21, q22, q23, q24, q25⟩ := hSV; go_simp; try with_reducible rfl)
      (try simp only [Act.put, List.setIfInBounds_toArray, List.set_cons_zero, List.set_cons_succ])
      refine wpAnyH_done (by kernel_rfl) ?_ _
      have hb9 := below_then hb hb1
      go_wp2
      go_roundw
      case rel => exact ⟨k + 1, by omega, by go_num, hb9⟩
      case measure => simp [intOf]; omega
    · go_wp2
      go_ret
      exact ⟨rfl, hb⟩

end Go.Proofs.YtgpjjolgpppeeaaDoor

