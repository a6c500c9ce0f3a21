/-
  Chapter 8, the laws' helpers on stacks: contracts (sizes, copies, equality, marks). Own work.
-/
import Derived.Test.YtalcjgmmlmhngaaC07
import Derived.Deep.DeepCutAuto
namespace Go.Proofs.Ytalcjgmmlmhngaa
open Go.RowKit P
set_option linter.unusedVariables false
set_option linter.unusedSimpArgs false
set_option maxRecDepth 100000

set_option maxHeartbeats 4000000 in
theorem szStack_any (A : Option Addr) (u : List Ed) (c : Nat) (B : Option Addr) (r : List Ed) (d : Nat) (left : Int) (w : World) (hu9 : u.length ≤ 9223372036854775807) (hr9 : r.length ≤ 9223372036854775807) (h0 : 0 ≤ left) (h1 : left ≤ 1048576) (hU : Es w A u) (hR : Es w B r) :
    Calls Try.prog 35 #[.agg #[.slice A u.length c, .slice B r.length d], .int .i64 left] w fun e w' => (∃ q : Int, e = .returned (.int .i64 q) ∧ (q < 0 ∨ (0 ≤ q ∧ q + u.length + tot (puts u) + r.length + tot (puts r) ≤ left))) ∧ Below w.heap.size w w' := by
  have hal := (Below.refl w.heap.size w).alloc (Nat.le_refl _) (.cells #[.slice A u.length c, .slice B r.length d] 51)
  have BX := Lib.hid (Blk.new w #[.slice A u.length c, .slice B r.length d] 51)
  have p0 := BX.out.cell 0
  have HU := Lib.hid (hU.below hal)
  have HR := Lib.hid (hR.below hal)
  clear hU hR
  go_enter Try.func35, Try.ntmps35
  go_wp2_with fail
  refine (szEditS_any A u c left _ hu9 h0 h1 HU.out).mono ?_
  rintro e w1 ⟨⟨q1, rfl, hq1⟩, hb1⟩
  have HR := Lib.hid (HR.out.below hb1)
  have BX := Lib.hid (BX.out.below hb1)
  have hb9 := below_then hal hb1
  clear p0
  by_cases hn : q1 < 0
  · go_wp2
    go_ret
    exact ⟨⟨_, rfl, .inl (by omega)⟩, hb9⟩
  have p1 := BX.out.cell 1
  go_wp2_with fail
  refine (szEditS_any B r d q1 _ hr9 (by omega) (by omega) HR.out).mono ?_
  rintro e w2 ⟨⟨q2, rfl, hq2⟩, hb2⟩
  have hb10 := below_then hb9 hb2
  clear p1
  by_cases hn2 : q2 < 0
  · go_wp2
    go_ret
    exact ⟨⟨_, rfl, .inl (by omega)⟩, hb10⟩
  · go_wp2
    go_ret
    exact ⟨⟨_, rfl, .inr ⟨by omega, by omega⟩⟩, hb10⟩

/-- A stack of the call's own. -/
structure OwS (w : World) (base : Nat) (A : Option Addr) (u : List Ed) (c : Nat) (fp : List Nat) (B : Option Addr) (r : List Ed) (d : Nat) (gp : List Nat) : Prop where
  u : OwE w base A u c fp
  r : OwE w base B r d gp
  dis : ∀ k ∈ fp, k ∉ gp
theorem OwS.below {w w' : World} {base : Nat} {A B : Option Addr} {u r : List Ed} {c d : Nat} {fp gp : List Nat} (h : OwS w base A u c fp B r d gp) (hb : Below w.heap.size w w') : OwS w' base A u c fp B r d gp := ⟨h.u.below hb, h.r.below hb, h.dis⟩
theorem OwS.keeps {w w' : World} {base : Nat} {A B : Option Addr} {u r : List Ed} {c d : Nat} {fp gp fq : List Nat} (h : OwS w base A u c fp B r d gp) (hk : Keeps fq w w') (h1 : ∀ k ∈ fp, k ∉ fq) (h2 : ∀ k ∈ gp, k ∉ fq) : OwS w' base A u c fp B r d gp := ⟨h.u.keeps hk h1, h.r.keeps hk h2, h.dis⟩

theorem OwE.mono {w : World} {base base' : Nat} {A : Option Addr} {es : List Ed} {c : Nat} {fp : List Nat} (h : OwE w base A es c fp) (hb : base' ≤ base) : OwE w base' A es c fp := ⟨h.ow, h.nd, fun k hk => Nat.le_trans hb (h.lo k hk)⟩

set_option maxHeartbeats 4000000 in
theorem toStack_any (A : Option Addr) (u : List Ed) (c : Nat) (B : Option Addr) (r : List Ed) (d : Nat) (w : World) (hu : u.length + tot (puts u) ≤ 1048576) (hr : r.length + tot (puts r) ≤ 1048576) (hU : Es w A u) (hR : Es w B r) :
    Calls Try.prog 37 #[.agg #[.slice A u.length c, .slice B r.length d]] w fun e w' => ∃ A' c' fp B' d' gp, e = .returned (.agg #[.slice A' u.length c', .slice B' r.length d']) ∧ OwS w' w.heap.size A' u c' fp B' r d' gp ∧ Below w.heap.size w w' := by
  have hal := (((Below.refl w.heap.size w).alloc (Nat.le_refl _) (.cells #[.slice A u.length c, .slice B r.length d] 51)).alloc (by simp) (.cells #[.slice none 0 0, .slice none 0 0] 56)).alloc (by simp; omega) (.cells #[.slice none 0 0, .slice none 0 0] 56)
  have hbx := ((Blk.new w #[.slice A u.length c, .slice B r.length d] 51).alloc (.cells #[.slice none 0 0, .slice none 0 0] 56)).alloc (.cells #[.slice none 0 0, .slice none 0 0] 56)
  have hb1 := (Blk.new (w.alloc (.cells #[.slice A u.length c, .slice B r.length d] 51)) #[.slice none 0 0, .slice none 0 0] 56).alloc (.cells #[.slice none 0 0, .slice none 0 0] 56)
  have hb2 := Blk.new ((w.alloc (.cells #[.slice A u.length c, .slice B r.length d] 51)).alloc (.cells #[.slice none 0 0, .slice none 0 0] 56)) #[.slice none 0 0, .slice none 0 0] 56
  simp only [World.size_alloc] at hb1 hb2
  have HB := Lib.hid hal
  have BX := Lib.hid hbx
  have R1 := Lib.hid hb1
  have R2 := Lib.hid hb2
  have HU := Lib.hid (hU.below hal)
  have HRK := Lib.hid (show ∀ W, Below w.heap.size w W → Es W B r from fun W h => hR.below h)
  have hzw : ((((w.alloc (.cells #[.slice A u.length c, .slice B r.length d] 51)).alloc (.cells #[.slice none 0 0, .slice none 0 0] 56)).alloc (.cells #[.slice none 0 0, .slice none 0 0] 56))).heap.size = w.heap.size + 3 := by simp
  have p0 := BX.out.cell 0
  clear hal hbx hb1 hb2 hU hR
  go_enter Try.func37, Try.ntmps37
  go_wp2_with fail
  generalize ((w.alloc (.cells #[.slice A u.length c, .slice B r.length d] 51)).alloc (.cells #[.slice none 0 0, .slice none 0 0] 56)).alloc (.cells #[.slice none 0 0, .slice none 0 0] 56) = W at *
  refine (toEditS_any A u c _ hu HU.out).mono ?_
  rintro e w1 hgv
  obtain ⟨A1, c1, fp, rfl, ho1, hbl1⟩ := gives_edits hgv
  have HO1 := Lib.hid ho1
  have HB := Lib.hid (below_then HB.out hbl1)
  have BX := Lib.hid (BX.out.below hbl1)
  have R1 := Lib.hid (R1.out.below hbl1)
  have R2 := Lib.hid (R2.out.below hbl1)
  have hz1 := hbl1.size
  clear hgv ho1 hbl1 p0
  have f20 := R2.out.frozen 0
  have c20 := R2.out.cell 0
  have hk := (Keeps.refl [w.heap.size + 2] w1).set (List.mem_singleton.2 rfl) 0 (.slice A1 u.length c1)
  have HO2 := Lib.hid (HO1.out.keeps hk (fun k hk => by have := (HO1.out.range k hk).1; simp; omega))
  have BX2 := Lib.hid (BX.out.of_block (hk.block _ BX.out.lt (by simp)))
  have R12 := Lib.hid (R1.out.of_block (hk.block _ R1.out.lt (by simp)))
  have R22 := Lib.hid (show Blk (w1.setCell ⟨w.heap.size + 2, 0, none⟩ (.slice A1 u.length c1)) (w.heap.size + 2) #[.slice A1 u.length c1, .slice none 0 0] 56 by simpa using R2.out.set 0 (.slice A1 u.length c1))
  have HB2 := Lib.hid (HB.out.setCell (p := ⟨w.heap.size + 2, 0, none⟩) (by simp) (.slice A1 u.length c1))
  have hlt := R2.out.lt
  have HR2 := Lib.hid (show Es (w1.setCell ⟨w.heap.size + 2, 0, none⟩ (.slice A1 u.length c1)) B r from HRK.out _ HB2.out)
  clear HO1 BX R1 R2 HB hk
  go_upto_region 3 with fail
  generalize hW2 : w1.setCell ⟨w.heap.size + 2, 0, none⟩ (.slice A1 u.length c1) = w2 at *
  have hz2 : w2.heap.size = w1.heap.size := by rw [← hW2]; simp
  clear hW2 c20 f20
  have p1 := BX2.out.cell 1
  go_wp2_with fail
  refine (toEditS_any B r d _ hr HR2.out).mono ?_
  rintro e w3 hgv
  obtain ⟨A3, c3, gp, rfl, ho3, hbl3⟩ := gives_edits hgv
  have HO3 := Lib.hid ho3
  have HB3 := Lib.hid (below_then HB2.out hbl3)
  have R13 := Lib.hid (R12.out.below hbl3)
  have R23 := Lib.hid (R22.out.below hbl3)
  have HO23 := Lib.hid (HO2.out.below hbl3)
  have hfr := HO2.out.range
  have hz3 := hbl3.size
  clear hgv ho3 hbl3 p1 BX2 R12 R22 HO2
  have hk := (((Keeps.refl [w.heap.size + 1, w.heap.size + 2] w3).set (g := w.heap.size + 2) (by simp) 1 (.slice A3 r.length c3)).set (g := w.heap.size + 1) (by simp) 0 (.slice A1 u.length c1)).set (g := w.heap.size + 1) (by simp) 1 (.slice A3 r.length c3)
  have HU9 := Lib.hid (HO23.out.keeps hk (fun k hk => by have := (hfr k hk).1; simp; omega))
  have HR9 := Lib.hid (HO3.out.keeps hk (fun k hk => by have := (HO3.out.range k hk).1; simp; omega))
  have hd9 : ∀ k ∈ fp, k ∉ gp := fun k h1 h2 => by
    have := (hfr k h1).2
    have := (HO3.out.range k h2).1
    omega
  have HB9 := Lib.hid (((HB3.out.setCell (p := ⟨w.heap.size + 2, 1, none⟩) (by simp) (.slice A3 r.length c3)).setCell (p := ⟨w.heap.size + 1, 0, none⟩) (by simp) (.slice A1 u.length c1)).setCell (p := ⟨w.heap.size + 1, 1, none⟩) (by simp) (.slice A3 r.length c3))
  have q0 := R23.out.cell 0
  have q1 := R23.out.cell 1
  have q2 := R13.out.cell 0
  have q3 := R13.out.cell 1
  have g0 := R23.out.frozen 0
  have g1 := R23.out.frozen 1
  have g2 := R13.out.frozen 0
  have g3 := R13.out.frozen 1
  clear hk HO3 HO23 HB3 R13 R23 HB2 HR2
  go_wp2
  refine bodyPost_ret (v := .agg #[.slice A1 u.length c1, .slice A3 r.length c3]) (by simp [results, Try.results37, go_sem, q0, q1, q2, q3]) rfl ?_
  exact ⟨_, _, _, _, _, _, rfl, ⟨HU9.out.mono (by omega), HR9.out.mono (by omega), hd9⟩, HB9.out⟩

set_option maxHeartbeats 4000000 in
theorem eqStack_any (A : Option Addr) (u : List Ed) (c : Nat) (B : Option Addr) (r : List Ed) (d : Nat) (A' : Option Addr) (u' : List Ed) (c' : Nat) (B' : Option Addr) (r' : List Ed) (d' : Nat) (w : World) (hu9 : u.length ≤ 9223372036854775807) (hr9 : r.length ≤ 9223372036854775807) (hU : Es w A u) (hR : Es w B r) (hU' : Es w A' u') (hR' : Es w B' r') :
    Calls Try.prog 39 #[.agg #[.slice A u.length c, .slice B r.length d], .agg #[.slice A' u'.length c', .slice B' r'.length d']] w fun e w' => e = .returned (.bool (decide (u = u') && decide (r = r'))) ∧ Below w.heap.size w w' := by
  have hal := ((Below.refl w.heap.size w).alloc (Nat.le_refl _) (.cells #[.slice A u.length c, .slice B r.length d] 56)).alloc (by simp) (.cells #[.slice A' u'.length c', .slice B' r'.length d'] 56)
  have hx := (Blk.new w #[.slice A u.length c, .slice B r.length d] 56).alloc (.cells #[.slice A' u'.length c', .slice B' r'.length d'] 56)
  have hy := Blk.new (w.alloc (.cells #[.slice A u.length c, .slice B r.length d] 56)) #[.slice A' u'.length c', .slice B' r'.length d'] 56
  simp only [World.size_alloc] at hy
  have BX := Lib.hid hx
  have BY := Lib.hid hy
  have p0 := hx.cell 0
  have q0 := hy.cell 0
  have HU := Lib.hid (hU.below hal)
  have HR := Lib.hid (hR.below hal)
  have HU' := Lib.hid (hU'.below hal)
  have HR' := Lib.hid (hR'.below hal)
  obtain ⟨y, hy0⟩ : ∃ y, decide (u = u') = y := ⟨_, rfl⟩
  obtain ⟨z, hz0⟩ : ∃ z, decide (r = r') = z := ⟨_, rfl⟩
  rw [hy0, hz0]
  have HY := Lib.hid hy0
  have HZ := Lib.hid hz0
  clear hU hR hU' hR' hx hy hy0 hz0
  go_enter Try.func39, Try.ntmps39
  go_wp2_with fail
  refine (eqEditS_any A A' u u' c c' _ hu9 HU.out HU'.out).mono ?_
  rintro e w1 ⟨rfl, hb1⟩
  rw [HY.out]
  have HR := Lib.hid (HR.out.below hb1)
  have HR' := Lib.hid (HR'.out.below hb1)
  have BX := Lib.hid (BX.out.below hb1)
  have BY := Lib.hid (BY.out.below hb1)
  have hb9 := below_then hal hb1
  clear p0 q0 hb1
  cases y
  · go_wp2
    go_ret
    exact ⟨rfl, hb9⟩
  have p1 := BX.out.cell 1
  have q1 := BY.out.cell 1
  go_wp2_with fail
  refine (eqEditS_any B B' r r' d d' _ hr9 HR.out HR'.out).mono ?_
  rintro e w2 ⟨rfl, hb2⟩
  rw [HZ.out]
  have hb10 := below_then hb9 hb2
  clear p1 q1 hb2
  cases z
  · go_wp2
    go_ret
    exact ⟨rfl, hb10⟩
  · go_wp2
    go_ret
    exact ⟨rfl, hb10⟩

set_option maxHeartbeats 4000000 in
theorem markStack_any (A : Option Addr) (u : List Ed) (c : Nat) (fp : List Nat) (B : Option Addr) (r : List Ed) (d : Nat) (gp : List Nat) (base k : Nat) (w : World) (hk : k ≤ 10) (hu : u.length + tot (puts u) + r.length + tot (puts r) ≤ 1048576) (h : OwS w base A u c fp B r d gp) :
    Calls Try.prog 42 #[.agg #[.slice A u.length c, .slice B r.length d], .int .i64 (k : Int)] w fun e w' => (∃ q : Nat, e = .returned (.int .i64 (q : Int)) ∧ q ≤ 5000000) ∧ Keeps (fp ++ gp) w w' := by
  have hal := (Below.refl w.heap.size w).alloc (Nat.le_refl _) (.cells #[.slice A u.length c, .slice B r.length d] 56)
  have BX := Lib.hid (Blk.new w #[.slice A u.length c, .slice B r.length d] 56)
  have p0 := BX.out.cell 0
  have H1 := Lib.hid (h.below hal)
  have hfr := h.u.range
  have hgr := h.r.range
  clear h
  go_enter Try.func42, Try.ntmps42
  go_wp2_with fail
  refine (markEditS_any A c u fp k _ (by omega) (by omega) H1.out.u.nd H1.out.u.ow).mono ?_
  rintro e w1 ⟨⟨q1, rfl, hq1⟩, hk1⟩
  have BX := Lib.hid (BX.out.of_block (hk1.block _ BX.out.lt (fun h => by have := (hfr _ h).2; omega)))
  have HR := Lib.hid (H1.out.r.keeps hk1 (fun k h1 h2 => H1.out.dis k h2 h1))
  have hk9 := (Keeps.of_below (fp := fp ++ gp) hal).trans (hk1.mono (fun k h => List.mem_append.2 (.inl h)))
  clear p0 hk1
  have p1 := BX.out.cell 1
  have hq2 : q1 ≤ 2200000 := by omega
  go_wp2_with fail
  refine (markEditS_any B d r gp q1 _ (by omega) (by omega) HR.out.nd HR.out.ow).mono ?_
  rintro e w2 ⟨⟨q3, rfl, hq3⟩, hk2⟩
  have hk10 := hk9.trans (hk2.mono (fun k h => List.mem_append.2 (.inr h)))
  clear p1 hk2
  go_wp2
  go_ret
  exact ⟨⟨_, rfl, by omega⟩, hk10⟩
end Go.Proofs.Ytalcjgmmlmhngaa
