/-
 Chapter 8, the laws' helpers on stacks: contracts (sizes, copies, equality, marks). Own work.
 Chapter 8, the laws' helpers on stacks: marks of lists of edits, told exactly. Own work.
-/
import Derived.Test.YtaekanhjkpoifaaGreatDoorRC07
import Derived.Deep.DeepCutAuto
namespace Go.Proofs.YtaekanhjkpoifaaGreatDoor
open Go.RowKit P
set_option linter.unusedVariables false
set_option linter.unusedSimpArgs false
set_option maxRecDepth 100000

set_option maxHeartbeats 4000000 in
theorem szStack_any (A : Option Addr) (u : List Ed) (c : Nat) (B : Option Addr) (r : List Ed) (d : Nat) (left : Int) (w : World) (hu9 : u.length ≤ 9223372036854775807) (hr9 : r.length ≤ 9223372036854775807) (h0 : 0 ≤ left) (h1 : left ≤ 1048576) (hU : Es w A u) (hR : Es w B r) :
  Calls Tryz.prog 94 #[.agg #[.slice A u.length c, .slice B r.length d], .int .i64 left] w fun e w' => (∃ q : Int, e = .returned (.int .i64 q) ∧ (q < 0 ∨ (0 ≤ q ∧ q + u.length + tot (puts u) + r.length + tot (puts r) ≤ left))) ∧ Below w.heap.size w w' := by
 have hal := (Below.refl w.heap.size w).alloc (Nat.le_refl _) (.cells #[.slice A u.length c, .slice B r.length d] 97)
 have BX := Lib.hid (Blk.new w #[.slice A u.length c, .slice B r.length d] 97)
 have p0 := BX.out.cell 0
 have HU := Lib.hid (hU.below hal)
 have HR := Lib.hid (hR.below hal)
 clear hU hR
 go_enter Tryz.func94, Tryz.ntmps94
 go_wp2_with fail
 refine (szEditS_any A u c left _ hu9 h0 h1 HU.out).mono ?_
 rintro e w1 ⟨⟨q1, rfl, hq1⟩, hb1⟩
 have HR := Lib.hid (HR.out.below hb1)
 have BX := Lib.hid (BX.out.below hb1)
 have hb9 := below_then hal hb1
 clear p0
 by_cases hn : q1 < 0
 ·go_wp2
  go_ret
  exact ⟨⟨_, rfl, .inl (by omega)⟩, hb9⟩
 have p1 := BX.out.cell 1
 go_wp2_with fail
 refine (szEditS_any B r d q1 _ hr9 (by omega) (by omega) HR.out).mono ?_
 rintro e w2 ⟨⟨q2, rfl, hq2⟩, hb2⟩
 have hb10 := below_then hb9 hb2
 clear p1
 by_cases hn2 : q2 < 0
 ·go_wp2
  go_ret
  exact ⟨⟨_, rfl, .inl (by omega)⟩, hb10⟩
 ·go_wp2
  go_ret
  exact ⟨⟨_, rfl, .inr ⟨by omega, by omega⟩⟩, hb10⟩

/-- A stack of the call's own. -/
structure OwS (w : World) (base : Nat) (A : Option Addr) (u : List Ed) (c : Nat) (fp : List Nat) (B : Option Addr) (r : List Ed) (d : Nat) (gp : List Nat) : Prop where
 u : OwE w base A u c fp
 r : OwE w base B r d gp
 dis : ∀ k ∈ fp, k ∉ gp
theorem OwS.below {w w' : World} {base : Nat} {A B : Option Addr} {u r : List Ed} {c d : Nat} {fp gp : List Nat} (h : OwS w base A u c fp B r d gp) (hb : Below w.heap.size w w') : OwS w' base A u c fp B r d gp := ⟨h.u.below hb, h.r.below hb, h.dis⟩
theorem OwS.keeps {w w' : World} {base : Nat} {A B : Option Addr} {u r : List Ed} {c d : Nat} {fp gp fq : List Nat} (h : OwS w base A u c fp B r d gp) (hk : Keeps fq w w') (h1 : ∀ k ∈ fp, k ∉ fq) (h2 : ∀ k ∈ gp, k ∉ fq) : OwS w' base A u c fp B r d gp := ⟨h.u.keeps hk h1, h.r.keeps hk h2, h.dis⟩

theorem OwE.mono {w : World} {base base' : Nat} {A : Option Addr} {es : List Ed} {c : Nat} {fp : List Nat} (h : OwE w base A es c fp) (hb : base' ≤ base) : OwE w base' A es c fp := ⟨h.ow, h.nd, fun k hk => Nat.le_trans hb (h.lo k hk)⟩

set_option maxHeartbeats 4000000 in
theorem toStack_any (A : Option Addr) (u : List Ed) (c : Nat) (B : Option Addr) (r : List Ed) (d : Nat) (w : World) (hu : u.length + tot (puts u) ≤ 1048576) (hr : r.length + tot (puts r) ≤ 1048576) (hU : Es w A u) (hR : Es w B r) :
  Calls Tryz.prog 97 #[.agg #[.slice A u.length c, .slice B r.length d]] w fun e w' => ∃ A' c' fp B' d' gp, e = .returned (.agg #[.slice A' u.length c', .slice B' r.length d']) ∧ OwS w' w.heap.size A' u c' fp B' r d' gp ∧ Below w.heap.size w w' := by
 have hal := (((Below.refl w.heap.size w).alloc (Nat.le_refl _) (.cells #[.slice A u.length c, .slice B r.length d] 97)).alloc (by simp) (.cells #[.slice none 0 0, .slice none 0 0] 48)).alloc (by simp; omega) (.cells #[.slice none 0 0, .slice none 0 0] 48)
 have hbx := ((Blk.new w #[.slice A u.length c, .slice B r.length d] 97).alloc (.cells #[.slice none 0 0, .slice none 0 0] 48)).alloc (.cells #[.slice none 0 0, .slice none 0 0] 48)
 have hb1 := (Blk.new (w.alloc (.cells #[.slice A u.length c, .slice B r.length d] 97)) #[.slice none 0 0, .slice none 0 0] 48).alloc (.cells #[.slice none 0 0, .slice none 0 0] 48)
 have hb2 := Blk.new ((w.alloc (.cells #[.slice A u.length c, .slice B r.length d] 97)).alloc (.cells #[.slice none 0 0, .slice none 0 0] 48)) #[.slice none 0 0, .slice none 0 0] 48
 simp only [World.size_alloc] at hb1 hb2
 have HB := Lib.hid hal
 have BX := Lib.hid hbx
 have R1 := Lib.hid hb1
 have R2 := Lib.hid hb2
 have HU := Lib.hid (hU.below hal)
 have HRK := Lib.hid (show ∀ W, Below w.heap.size w W → Es W B r from fun W h => hR.below h)
 have hzw : ((((w.alloc (.cells #[.slice A u.length c, .slice B r.length d] 97)).alloc (.cells #[.slice none 0 0, .slice none 0 0] 48)).alloc (.cells #[.slice none 0 0, .slice none 0 0] 48))).heap.size = w.heap.size + 3 := by simp
 have p0 := BX.out.cell 0
 clear hal hbx hb1 hb2 hU hR
 go_enter Tryz.func97, Tryz.ntmps97
 go_wp2_with fail
 generalize ((w.alloc (.cells #[.slice A u.length c, .slice B r.length d] 97)).alloc (.cells #[.slice none 0 0, .slice none 0 0] 48)).alloc (.cells #[.slice none 0 0, .slice none 0 0] 48) = W at *
 refine (toEditS_any A u c _ hu HU.out).mono ?_
 rintro e w1 hgv
 obtain ⟨A1, c1, fp, rfl, ho1, hbl1⟩ := gives_edits hgv
 have HO1 := Lib.hid ho1
 have HB := Lib.hid (below_then HB.out hbl1)
 have BX := Lib.hid (BX.out.below hbl1)
 have R1 := Lib.hid (R1.out.below hbl1)
 have R2 := Lib.hid (R2.out.below hbl1)
 have hz1 := hbl1.size
 clear hgv ho1 hbl1 p0
 have f20 := R2.out.frozen 0
 have c20 := R2.out.cell 0
 have hk := (Keeps.refl [w.heap.size + 2] w1).set (List.mem_singleton.2 rfl) 0 (.slice A1 u.length c1)
 have HO2 := Lib.hid (HO1.out.keeps hk (fun k hk => by have := (HO1.out.range k hk).1; simp; omega))
 have BX2 := Lib.hid (BX.out.of_block (hk.block _ BX.out.lt (by simp)))
 have R12 := Lib.hid (R1.out.of_block (hk.block _ R1.out.lt (by simp)))
 have R22 := Lib.hid (show Blk (w1.setCell ⟨w.heap.size + 2, 0, none⟩ (.slice A1 u.length c1)) (w.heap.size + 2) #[.slice A1 u.length c1, .slice none 0 0] 48 by simpa using R2.out.set 0 (.slice A1 u.length c1))
 have HB2 := Lib.hid (HB.out.setCell (p := ⟨w.heap.size + 2, 0, none⟩) (by simp) (.slice A1 u.length c1))
 have hlt := R2.out.lt
 have HR2 := Lib.hid (show Es (w1.setCell ⟨w.heap.size + 2, 0, none⟩ (.slice A1 u.length c1)) B r from HRK.out _ HB2.out)
 clear HO1 BX R1 R2 HB hk
 go_upto_region 3 with fail
 generalize hW2 : w1.setCell ⟨w.heap.size + 2, 0, none⟩ (.slice A1 u.length c1) = w2 at *
 have hz2 : w2.heap.size = w1.heap.size := by rw [← hW2]; simp
 clear hW2 c20 f20
 have p1 := BX2.out.cell 1
 go_wp2_with fail
 refine (toEditS_any B r d _ hr HR2.out).mono ?_
 rintro e w3 hgv
 obtain ⟨A3, c3, gp, rfl, ho3, hbl3⟩ := gives_edits hgv
 have HO3 := Lib.hid ho3
 have HB3 := Lib.hid (below_then HB2.out hbl3)
 have R13 := Lib.hid (R12.out.below hbl3)
 have R23 := Lib.hid (R22.out.below hbl3)
 have HO23 := Lib.hid (HO2.out.below hbl3)
 have hfr := HO2.out.range
 have hz3 := hbl3.size
 clear hgv ho3 hbl3 p1 BX2 R12 R22 HO2
 have hk := (((Keeps.refl [w.heap.size + 1, w.heap.size + 2] w3).set (g := w.heap.size + 2) (by simp) 1 (.slice A3 r.length c3)).set (g := w.heap.size + 1) (by simp) 0 (.slice A1 u.length c1)).set (g := w.heap.size + 1) (by simp) 1 (.slice A3 r.length c3)
 have HU9 := Lib.hid (HO23.out.keeps hk (fun k hk => by have := (hfr k hk).1; simp; omega))
 have HR9 := Lib.hid (HO3.out.keeps hk (fun k hk => by have := (HO3.out.range k hk).1; simp; omega))
 have hd9 : ∀ k ∈ fp, k ∉ gp := fun k h1 h2 => by
  have := (hfr k h1).2
  have := (HO3.out.range k h2).1
  omega
 have HB9 := Lib.hid (((HB3.out.setCell (p := ⟨w.heap.size + 2, 1, none⟩) (by simp) (.slice A3 r.length c3)).setCell (p := ⟨w.heap.size + 1, 0, none⟩) (by simp) (.slice A1 u.length c1)).setCell (p := ⟨w.heap.size + 1, 1, none⟩) (by simp) (.slice A3 r.length c3))
 have q0 := R23.out.cell 0
 have q1 := R23.out.cell 1
 have q2 := R13.out.cell 0
 have q3 := R13.out.cell 1
 have g0 := R23.out.frozen 0
 have g1 := R23.out.frozen 1
 have g2 := R13.out.frozen 0
 have g3 := R13.out.frozen 1
 clear hk HO3 HO23 HB3 R13 R23 HB2 HR2
 go_wp2
 refine bodyPost_ret (v := .agg #[.slice A1 u.length c1, .slice A3 r.length c3]) (by simp [results, Tryz.results97, go_sem, q0, q1, q2, q3]) rfl ?_
 exact ⟨_, _, _, _, _, _, rfl, ⟨HU9.out.mono (by omega), HR9.out.mono (by omega), hd9⟩, HB9.out⟩

set_option maxHeartbeats 4000000 in
theorem eqStack_any (A : Option Addr) (u : List Ed) (c : Nat) (B : Option Addr) (r : List Ed) (d : Nat) (A' : Option Addr) (u' : List Ed) (c' : Nat) (B' : Option Addr) (r' : List Ed) (d' : Nat) (w : World) (hu9 : u.length ≤ 9223372036854775807) (hr9 : r.length ≤ 9223372036854775807) (hU : Es w A u) (hR : Es w B r) (hU' : Es w A' u') (hR' : Es w B' r') :
  Calls Tryz.prog 61 #[.agg #[.slice A u.length c, .slice B r.length d], .agg #[.slice A' u'.length c', .slice B' r'.length d']] w fun e w' => e = .returned (.bool (decide (u = u') && decide (r = r'))) ∧ Below w.heap.size w w' := by
 have hal := ((Below.refl w.heap.size w).alloc (Nat.le_refl _) (.cells #[.slice A u.length c, .slice B r.length d] 48)).alloc (by simp) (.cells #[.slice A' u'.length c', .slice B' r'.length d'] 48)
 have hx := (Blk.new w #[.slice A u.length c, .slice B r.length d] 48).alloc (.cells #[.slice A' u'.length c', .slice B' r'.length d'] 48)
 have hy := Blk.new (w.alloc (.cells #[.slice A u.length c, .slice B r.length d] 48)) #[.slice A' u'.length c', .slice B' r'.length d'] 48
 simp only [World.size_alloc] at hy
 have BX := Lib.hid hx
 have BY := Lib.hid hy
 have p0 := hx.cell 0
 have q0 := hy.cell 0
 have HU := Lib.hid (hU.below hal)
 have HR := Lib.hid (hR.below hal)
 have HU' := Lib.hid (hU'.below hal)
 have HR' := Lib.hid (hR'.below hal)
 obtain ⟨y, hy0⟩ : ∃ y, decide (u = u') = y := ⟨_, rfl⟩
 obtain ⟨z, hz0⟩ : ∃ z, decide (r = r') = z := ⟨_, rfl⟩
 rw [hy0, hz0]
 have HY := Lib.hid hy0
 have HZ := Lib.hid hz0
 clear hU hR hU' hR' hx hy hy0 hz0
 go_enter Tryz.func61, Tryz.ntmps61
 go_wp2_with fail
 refine (eqEditS_any A A' u u' c c' _ hu9 HU.out HU'.out).mono ?_
 rintro e w1 ⟨rfl, hb1⟩
 rw [HY.out]
 have HR := Lib.hid (HR.out.below hb1)
 have HR' := Lib.hid (HR'.out.below hb1)
 have BX := Lib.hid (BX.out.below hb1)
 have BY := Lib.hid (BY.out.below hb1)
 have hb9 := below_then hal hb1
 clear p0 q0 hb1
 cases y
 ·go_wp2
  go_ret
  exact ⟨rfl, hb9⟩
 have p1 := BX.out.cell 1
 have q1 := BY.out.cell 1
 go_wp2_with fail
 refine (eqEditS_any B B' r r' d d' _ hr9 HR.out HR'.out).mono ?_
 rintro e w2 ⟨rfl, hb2⟩
 rw [HZ.out]
 have hb10 := below_then hb9 hb2
 clear p1 q1 hb2
 cases z
 ·go_wp2
  go_ret
  exact ⟨rfl, hb10⟩
 ·go_wp2
  go_ret
  exact ⟨rfl, hb10⟩

end Go.Proofs.YtaekanhjkpoifaaGreatDoor

namespace Go.Proofs.YtaekanhjkpoifaaGreatDoor
open Go.RowKit P
set_option linter.unusedVariables false
set_option linter.unusedSimpArgs false
set_option maxRecDepth 100000

/-- The mark that the i-th edit's first number gets. -/
def markK (k : Nat) (es : List Ed) (i : Nat) : Nat := k + 2 * i + tot ((puts es).take i)
/-- A list of edits behind markEditS. -/
def markedE (k : Nat) : List Ed → List Ed
 | [] => []
 | e :: t => ((k : Int), (k : Int) + 1, marks (k + 2) e.2.2.length) :: markedE (k + 2 + e.2.2.length) t
theorem markedE_length (k : Nat) (es : List Ed) : (markedE k es).length = es.length := by
 induction es generalizing k with
 | nil => rfl
 | cons e t ih => simp [markedE, ih]
theorem markedE_get (es : List Ed) : ∀ (k i : Nat) (h : i < es.length), (markedE k es)[i]'(by rw [markedE_length]; exact h) = ((markK k es i : Int), (markK k es i : Int) + 1, marks (markK k es i + 2) es[i].2.2.length) := by
 induction es with
 | nil => intro k i h; simp at h
 | cons e t ih =>
  intro k i h
  cases i with
  | zero => simp [markedE, markK, tot]
  | succ i =>
   have h9 := ih (k + 2 + e.2.2.length) i (by simpa using h)
   have hK : markK (k + 2 + e.2.2.length) t i = markK k (e :: t) (i + 1) := by
    unfold markK tot puts
    simp only [List.map_cons, List.take_succ_cons, List.flatten_cons, List.length_append]
    omega
   simp only [markedE, List.getElem_cons_succ, h9, hK]
theorem markK_succ (k : Nat) (es : List Ed) (i : Nat) (h : i < es.length) : markK k es (i + 1) = markK k es i + 2 + es[i].2.2.length := by
 unfold markK
 have htk := tot_take (puts es) i (by rw [puts_length]; exact h)
 rw [puts_get es i h] at htk
 omega
theorem markK_all (k : Nat) (es : List Ed) : markK k es es.length = k + 2 * es.length + tot (puts es) := by
 unfold markK
 have h9 := tot_all (puts es)
 rw [puts_length] at h9
 rw [h9]
theorem markK_le (k : Nat) (es : List Ed) (i : Nat) (h : i ≤ es.length) : markK k es i ≤ k + 2 * es.length + tot (puts es) := by
 unfold markK
 have h2 : (puts es).flatten = ((puts es).take i).flatten ++ ((puts es).drop i).flatten := by rw [← List.flatten_append, List.take_append_drop]
 have h3 : tot ((puts es).take i) ≤ tot (puts es) := by
  unfold tot
  rw [h2, List.length_append]
  omega
 omega

/-- The first j edits of the row are marked. -/
def Mkd (w : World) (g : Nat) (vs : List Value) (es : List Ed) (k j : Nat) : Prop := ∀ i (_ : i < j) (hv : i < vs.length) (he : i < es.length), w.cell? ⟨g, i * 3, none⟩ = some (.int .i64 (markK k es i : Int)) ∧ w.cell? ⟨g, i * 3 + 1, none⟩ = some (.int .i64 ((markK k es i : Int) + 1)) ∧ Own w 0 vs[i] (marks (markK k es i + 2) es[i].2.2.length)

theorem Mkd.keep {w w' : World} {g : Nat} {vs : List Value} {es : List Ed} {k j : Nat} (h : Mkd w g vs es k j) (hc : ∀ i, i < j → ∀ c, c < 2 → w'.cell? ⟨g, i * 3 + c, none⟩ = w.cell? ⟨g, i * 3 + c, none⟩) (hb : ∀ i (_ : i < j) (hv : i < vs.length), ∀ q ∈ vs[i].ownBlock.toList, w'.heap[q]? = w.heap[q]?) : Mkd w' g vs es k j := fun i hj hv he => by
 obtain ⟨h1, h2, h3⟩ := h i hj hv he
 exact ⟨(hc i hj 0 (by omega)).trans h1, (hc i hj 1 (by omega)).trans h2, h3.heap (hb i hj hv)⟩
theorem Mkd.set {w : World} {g : Nat} {vs : List Value} {ns : List Nat} {es : List Ed} {k j : Nat} (h : Mkd w g vs es k j) (hm : MkE w g vs ns) (c : Nat) (u : Value) : Mkd (w.setCell ⟨g, j * 3 + c, none⟩ u) g vs es k j :=
 h.keep (fun i hi d hd => World.cell?_setCell_other _ _ _ _ (fun e => by simp only [Addr.mk.injEq] at e; omega)) (fun i hi hv q hq => Below.heap_setCell _ _ _ _ (fun e => hm.ne i hv q hq (by simpa using e.symm)))
theorem cell_of_block9 {w w' : World} {g : Nat} (h : w'.heap[g]? = w.heap[g]?) (off : Nat) : w'.cell? ⟨g, off, none⟩ = w.cell? ⟨g, off, none⟩ := by
 simp [World.cell?, h]
theorem Mkd.mark {w w' : World} {g : Nat} {vs : List Value} {ns : List Nat} {es : List Ed} {k j : Nat} (h : Mkd w g vs es k j) (hm : MkE w g vs ns) (hj : j < vs.length) (hk : Keeps vs[j].ownBlock.toList w w') : Mkd w' g vs es k j := by
 obtain ⟨cur, hb, hs, hv⟩ := hm.row
 refine h.keep (fun i hi d hd => cell_of_block9 (hk.block g hb.lt (fun hmm => hm.ne j hj g hmm rfl)) _) (fun i hi hv q hq => ?_)
 obtain ⟨l, ho, hl⟩ := hm.own i hv
 exact hk.block q (Lay.bytes.lt ho.ow q hq) (hm.dis j i hj hv (by omega) q hq)
/-- What is marked is a list of edits, and stays so as long as its blocks do. -/
theorem mkd_rd {w : World} {g : Nat} {vs : List Value} {es : List Ed} {k : Nat} (hln : es.length = vs.length) (hK : k + 2 * es.length + tot (puts es) ≤ 9000000) (hm : MkE w g vs (es.map (·.2.2.length))) (h : Mkd w g vs es k es.length) (W : World) (hg : W.heap[g]? = w.heap[g]?) (hb : ∀ i (hv : i < vs.length), ∀ q ∈ vs[i].ownBlock.toList, W.heap[q]? = w.heap[q]?) : Es W (some ⟨g, 0, none⟩) (markedE k es) := by
 obtain ⟨cur, hbl, hs, hv⟩ := hm.row
 intro i hi
 have hi2 : i < es.length := by rw [markedE_length] at hi; exact hi
 have hiv : i < vs.length := by omega
 obtain ⟨h1, h2, h3⟩ := h i hi2 hiv hi2
 have h4 : w.cell? ⟨g, i * 3 + 2, none⟩ = some vs[i] := by rw [hbl.cell]; exact hv i hiv
 have hle := markK_le k es i (by omega)
 have h5 := h3.heap (hb i hiv)
 refine ⟨g, 0, [.int .i64 (markK k es i : Int), .int .i64 ((markK k es i : Int) + 1), vs[i]], rfl, ?_, rfl, fun j hj => ?_, ?_⟩
 ·have hbl2 := hbl.of_block hg
  exact hbl2.lt
 ·rw [cell_of_block9 hg]
  match j, hj with
  | 0, _ => simpa using h1
  | 1, _ => simpa using h2
  | 2, _ => simpa using h4
 ·rw [markedE_get es k i hi2]
  exact Lay.edit.read (own_edit ⟨by omega, by omega⟩ ⟨by omega, by omega⟩ h5)

/-- A list that is read in the blocks fp, and stays as long as they do. -/
def StaysE (w : World) (A : Option Addr) (es : List Ed) (fp : List Nat) : Prop := ∀ W : World, (∀ q ∈ fp, W.heap[q]? = w.heap[q]?) → Es W A es

set_option maxHeartbeats 4000000 in
theorem markEditS_full (A : Option Addr) (c : Nat) (es : List Ed) (fp : List Nat) (k : Nat) (w : World) (hk : k ≤ 2200000) (hl : es.length + tot (puts es) ≤ 1100000) (hn : fp.Nodup) (h : Lay.edits.ow w [.slice A es.length c] es fp) :
  Calls Tryz.prog 13 #[.slice A es.length c, .int .i64 (k : Int)] w fun e w' => e = .returned (.int .i64 ((k + 2 * es.length + tot (puts es) : Nat) : Int)) ∧ Keeps fp w w' ∧ StaysE w' A (markedE k es) fp := by
 rcases mkE_of h hn with rfl | ⟨g, vs, rfl, hln, hg, hsub, hmk⟩
 ·go_enter Tryz.func13, Tryz.ntmps13
  go_wp2
  go_loopw [1, 5] (fun kk i wr => kk = .int .i64 (k : Int) ∧ i = .int .i64 0 ∧ wr = w) (fun _ _ _ => 0)
  case atStart => exact ⟨rfl, rfl, rfl⟩
  case round =>
   obtain ⟨rfl, rfl, rfl⟩ := hrel
   go_wp2
   go_ret
   exact ⟨rfl, Keeps.refl _ _, fun W _ q hq => by simp [markedE] at hq⟩
 ·go_enter Tryz.func13, Tryz.ntmps13
  go_wp2
  go_loopw [1, 5] (fun kk i wr => ∃ j : Nat, j ≤ es.length ∧ i = .int .i64 j ∧ kk = .int .i64 (markK k es j : Int) ∧ Mkd wr g vs es k j ∧ MkE wr g vs (es.map (·.2.2.length)) ∧ Keeps fp w wr) (fun _ i _ => es.length - (intOf i).toNat)
  case atStart => exact ⟨0, Nat.zero_le _, rfl, by simp [markK, tot], fun i hi => absurd hi (Nat.not_lt_zero _), hmk, Keeps.refl _ _⟩
  case round =>
   obtain ⟨j, hj, rfl, rfl, hD, hM, hke⟩ := hrel
   by_cases hlt : j < es.length
   ·have hjv : j < vs.length := by omega
    obtain ⟨m, hm⟩ : ∃ m, markK k es j = m := ⟨_, rfl⟩
    rw [hm]
    obtain ⟨cur, hb, hs, hv⟩ := hM.row
    have hv2 := hv j hjv
    obtain ⟨u0, hu0⟩ : ∃ u, wr.cell? ⟨g, j * 3, none⟩ = some u := ⟨cur[j * 3]'(by omega), by rw [hb.cell]; exact Array.getElem?_eq_getElem (by omega)⟩
    obtain ⟨u1, hu1⟩ : ∃ u, wr.cell? ⟨g, j * 3 + 1, none⟩ = some u := ⟨cur[j * 3 + 1]'(by omega), by rw [hb.cell]; exact Array.getElem?_eq_getElem (by omega)⟩
    have hu2 : wr.cell? ⟨g, j * 3 + 2, none⟩ = some vs[j] := by rw [hb.cell]; exact hv2
    have f0 := hb.frozen (j * 3)
    have f1 := hb.frozen (j * 3 + 1)
    have hgl := hb.lt
    have hM1 := hM.set j 0 hjv (by omega) (.int .i64 (m : Int))
    have hM2 := hM1.set j 1 hjv (by omega) (.int .i64 ((m : Int) + 1))
    have hD2 := (hD.set hM 0 (.int .i64 (m : Int))).set hM1 1 (.int .i64 ((m : Int) + 1))
    have hke2 := (hke.set hg (j * 3) (.int .i64 (m : Int))).set hg (j * 3 + 1) (.int .i64 ((m : Int) + 1))
    have hs2 := (hb.set (j * 3) (.int .i64 (m : Int))).set (j * 3 + 1) (.int .i64 ((m : Int) + 1))
    have hc0 : ((wr.setCell ⟨g, j * 3, none⟩ (.int .i64 (m : Int))).setCell ⟨g, j * 3 + 1, none⟩ (.int .i64 ((m : Int) + 1))).cell? ⟨g, j * 3, none⟩ = some (.int .i64 (m : Int)) := by
     rw [hs2.cell, Array.getElem?_setIfInBounds, if_neg (by omega), Array.getElem?_setIfInBounds, if_pos rfl, if_pos (by omega)]
    have hc1 : ((wr.setCell ⟨g, j * 3, none⟩ (.int .i64 (m : Int))).setCell ⟨g, j * 3 + 1, none⟩ (.int .i64 ((m : Int) + 1))).cell? ⟨g, j * 3 + 1, none⟩ = some (.int .i64 ((m : Int) + 1)) := by
     rw [hs2.cell, Array.getElem?_setIfInBounds, if_pos rfl, if_pos (by simp; omega)]
    have hms := markK_succ k es j hlt
    rw [hm] at hms
    have hmle := markK_le k es (j + 1) (by omega)
    obtain ⟨l, hol, hll⟩ := hM2.own j hjv
    have hll2 : l.length = es[j].2.2.length := by rw [hll, List.getElem_map]
    clear hll
    have hkm : k ≤ m := by rw [← hm]; unfold markK; omega
    have hlb : l.length ≤ 4400000 := by omega
    have hji : (j : Int) < (es.length : Int) := by omega
    have hcast : (m : Int) + 1 + 1 = ((m + 2 : Nat) : Int) := by omega
    have hmb : m ≤ 5000000 := by omega
    have hw1 : IntKind.i64.wrap ((m : Int) + 1) = (m : Int) + 1 := IntWalk.i64_in _ ⟨by omega, by omega⟩
    have hw2 : IntKind.i64.wrap ((m : Int) + 1 + 1) = ((m + 2 : Nat) : Int) := by rw [IntWalk.i64_in _ ⟨by omega, by omega⟩]; omega
    generalize hvj : vs[j] = v at *
    have HM2 := Lib.hid hM2
    have HK2 := Lib.hid hke2
    have HOL := Lib.hid hol
    have HVJ := Lib.hid hvj
    have HD2 := Lib.hid hD2
    have HC0 := Lib.hid hc0
    have HC1 := Lib.hid hc1
    have HMM := Lib.hid hm
    have HMS := Lib.hid hms
    have HLL := Lib.hid hll2
    clear hM hM1 hM2 hke hke2 hol hb hs hv hv2 hvj hD hD2 hs2 hc0 hc1 hm hms hll2 hmle
    go_wp2_with fail
    refine (markByteS_big v l 0 (m + 2) _ (by omega) (by omega) (by exact HOL.out)).mono ?_
    rintro e w1 ⟨rfl, how, hgr⟩
    have hkb := Keeps.of_grown hgr
    have hkv : Keeps vs[j].ownBlock.toList ((wr.setCell ⟨g, j * 3, none⟩ (.int .i64 (m : Int))).setCell ⟨g, j * 3 + 1, none⟩ (.int .i64 ((m : Int) + 1))) w1 := by rw [HVJ.out]; exact hkb
    have hM3 : MkE w1 g vs (es.map (·.2.2.length)) := by
     refine HM2.out.mark j hjv hkv (l := marks (m + 2) l.length) (by rw [HVJ.out]; exact how) ?_
     rw [marks_length, List.getElem_map]
     exact HLL.out
    have hke3 := HK2.out.trans (hkb.mono (fun x hx => hsub j hjv x (by rw [HVJ.out]; exact hx)))
    have hD3 := HD2.out.mark HM2.out hjv hkv
    have hgb : w1.heap[g]? = ((wr.setCell ⟨g, j * 3, none⟩ (.int .i64 (m : Int))).setCell ⟨g, j * 3 + 1, none⟩ (.int .i64 ((m : Int) + 1))).heap[g]? := hkv.block g (by
     obtain ⟨cur, hb, _, _⟩ := HM2.out.row
     exact hb.lt) (fun hmm => HM2.out.ne j hjv g hmm rfl)
    have hD4 : Mkd w1 g vs es k (j + 1) := by
     intro i hi hv he
     by_cases e : i = j
     ·subst e
      rw [HMM.out]
      refine ⟨(cell_of_block9 hgb _).trans HC0.out, (cell_of_block9 hgb _).trans HC1.out, ?_⟩
      rw [← HLL.out]
      show Own w1 0 vs[i] _
      rw [HVJ.out]
      exact how
     ·exact hD3 i (by omega) hv he
    have HD4 := Lib.hid hD4
    have hnx : m + 2 + l.length = markK k es (j + 1) := by rw [HMS.out, HLL.out]
    rw [hnx]
    clear hu0 hu1 hu2 f0 f1 hkb how hgr hln hD3 hgb hkv hD4 hnx
    go_wp2
    go_roundw
    case rel => exact ⟨j + 1, by omega, by go_num, by first | rfl | go_num, HD4.out, hM3, hke3⟩
    case measure => simp [intOf]; omega
   ·have e : j = es.length := by omega
    subst e
    have HD := Lib.hid (mkd_rd hln (by omega) hM hD)
    rw [markK_all]
    go_wp2
    go_ret
    exact ⟨rfl, hke, fun W hW => HD.out W (hW g hg) (fun i hv q hq => hW q (hsub i hv q hq))⟩

set_option maxHeartbeats 4000000 in
theorem heldEditS_any (A : Option Addr) (es : List Ed) (c k : Nat) (w : World) (hk : k ≤ 1500000) (hl : 2 * es.length + tot (puts es) ≤ 400000) (hE : Es w A (markedE k es)) :
  Calls Tryz.prog 14 #[.slice A es.length c, .int .i64 (k : Int)] w fun e w' => e = .returned (.int .i64 ((k + 2 * es.length + tot (puts es) : Nat) : Int)) ∧ Below w.heap.size w w' := by
 go_enter Tryz.func14, Tryz.ntmps14
 go_wp2
 go_loopw [1, 5] (fun kk i wr => ∃ j : Nat, j ≤ es.length ∧ i = .int .i64 j ∧ kk = .int .i64 (markK k es j : Int) ∧ Below w.heap.size w wr) (fun _ i _ => es.length - (intOf i).toNat)
 case atStart => exact ⟨0, Nat.zero_le _, rfl, by simp [markK, tot], Below.refl _ _⟩
 case round =>
  obtain ⟨j, hj, rfl, rfl, hb⟩ := hrel
  by_cases hlt : j < es.length
  ·obtain ⟨b, off, a, m, P, p, ep, rfl, hbl, hek, k0, k1, k2, ha, hm, hpd, hdm, hBp⟩ := (hE.below hb).at_ j (by rw [markedE_length]; exact hlt)
   rw [markedE_get es k j hlt] at hek
   simp only [Prod.mk.injEq] at hek
   obtain ⟨rfl, rfl, rfl⟩ := hek
   have hmle := markK_le k es (j + 1) (by omega)
   have hms := markK_succ k es j hlt
   have HMS := Lib.hid hms
   obtain ⟨q, hq⟩ : ∃ q, markK k es j = q := ⟨_, rfl⟩
   rw [hq] at k0 k1 k2 hBp hms ⊢
   rw [marks_length] at k2
   obtain ⟨n, hnn⟩ : ∃ n, es[j].2.2.length = n := ⟨_, rfl⟩
   rw [hnn] at k2 hBp hms
   have HBP := Lib.hid hBp
   have HB := Lib.hid hb
   have hji : (j : Int) < (es.length : Int) := by omega
   have hqb : q + 2 ≤ 2000000 := by omega
   have hnb : n ≤ 2000000 := by omega
   have hw1 : IntKind.i64.wrap ((q : Int) + 1) = (q : Int) + 1 := IntWalk.i64_in _ ⟨by omega, by omega⟩
   have hw2 : IntKind.i64.wrap ((q : Int) + 1 + 1) = ((q + 2 : Nat) : Int) := by rw [IntWalk.i64_in _ ⟨by omega, by omega⟩]; omega
   have hnx : q + 2 + n = markK k es (j + 1) := hms.symm
   have HNX := Lib.hid hnx
   have hneg : ¬ ((markK k es (j + 1) : Nat) : Int) < 0 := by omega
   clear hBp hb hms hnx hnn hq ha hm
   go_wp2_with fail
   refine (heldByteS_any P n ep (q + 2) _ hqb hnb HBP.out).mono ?_
   rintro e w1 ⟨rfl, rfl⟩
   rw [HNX.out]
   go_wp2
   go_roundw
   case rel => exact ⟨j + 1, by omega, by go_num, by first | rfl | go_num, HB.out⟩
   case measure => simp [intOf]; omega
  ·have e : j = es.length := by omega
   subst e
   rw [markK_all]
   go_wp2
   go_ret
   exact ⟨rfl, hb⟩
theorem StaysE.keeps {w w' : World} {A : Option Addr} {es : List Ed} {fp fq : List Nat} (h : StaysE w A es fp) (hk : Keeps fq w w') (hlt : ∀ q ∈ fp, q < w.heap.size) (hd : ∀ q ∈ fp, q ∉ fq) : StaysE w' A es fp :=
 fun W hW => h W (fun q hq => (hW q hq).trans (hk.block q (hlt q hq) (hd q hq)))
theorem StaysE.below {w w' : World} {A : Option Addr} {es : List Ed} {fp : List Nat} (h : StaysE w A es fp) (hb : Below w.heap.size w w') (hlt : ∀ q ∈ fp, q < w.heap.size) : StaysE w' A es fp :=
 fun W hW => h W (fun q hq => (hW q hq).trans (hb.block q (hlt q hq)))
theorem StaysE.es {w : World} {A : Option Addr} {es : List Ed} {fp : List Nat} (h : StaysE w A es fp) : Es w A es := h w (fun _ _ => rfl)

/-- The number behind markEditS. -/
def markN (k : Nat) (es : List Ed) : Nat := k + 2 * es.length + tot (puts es)

set_option maxHeartbeats 4000000 in
theorem markStack_full (A : Option Addr) (u : List Ed) (c : Nat) (fp : List Nat) (B : Option Addr) (r : List Ed) (d : Nat) (gp : List Nat) (base k : Nat) (w : World) (hk : k ≤ 10) (hu : u.length + tot (puts u) ≤ 1048576) (hr : r.length + tot (puts r) ≤ 1048576) (h : OwS w base A u c fp B r d gp) :
  Calls Tryz.prog 62 #[.agg #[.slice A u.length c, .slice B r.length d], .int .i64 (k : Int)] w fun e w' => e = .returned (.int .i64 (markN (markN k u) r : Int)) ∧ Keeps (fp ++ gp) w w' ∧ StaysE w' A (markedE k u) fp ∧ StaysE w' B (markedE (markN k u) r) gp := by
 have hal := (Below.refl w.heap.size w).alloc (Nat.le_refl _) (.cells #[.slice A u.length c, .slice B r.length d] 48)
 have BX := Lib.hid (Blk.new w #[.slice A u.length c, .slice B r.length d] 48)
 have p0 := BX.out.cell 0
 have H1 := Lib.hid (h.below hal)
 have hfr := h.u.range
 have hgr := h.r.range
 obtain ⟨q1, hq1⟩ : ∃ q, markN k u = q := ⟨_, rfl⟩
 have hq2 : q1 ≤ 2200000 := by rw [← hq1]; unfold markN; omega
 rw [hq1]
 obtain ⟨q3, hq3⟩ : ∃ q, markN q1 r = q := ⟨_, rfl⟩
 rw [hq3]
 have HQ1 := Lib.hid (show k + 2 * u.length + tot (puts u) = q1 from hq1)
 have HQ3 := Lib.hid (show q1 + 2 * r.length + tot (puts r) = q3 from hq3)
 clear h hq1 hq3
 go_enter Tryz.func62, Tryz.ntmps62
 go_wp2_with fail
 refine (markEditS_full A c u fp k _ (by omega) (by omega) H1.out.u.nd H1.out.u.ow).mono ?_
 rintro e w1 ⟨rfl, hk1, hs1⟩
 have BX := Lib.hid (BX.out.of_block (hk1.block _ BX.out.lt (fun h => by have := (hfr _ h).2; omega)))
 have HR := Lib.hid (H1.out.r.keeps hk1 (fun k h1 h2 => H1.out.dis k h2 h1))
 have hk9 := (Keeps.of_below (fp := fp ++ gp) hal).trans (hk1.mono (fun k h => List.mem_append.2 (.inl h)))
 have hz1 := hk1.size
 rw [HQ1.out]
 have HS1 := Lib.hid hs1
 have hza : w.heap.size < w1.heap.size := by simp at hz1; omega
 clear p0 hk1 hs1
 have p1 := BX.out.cell 1
 go_wp2_with fail
 refine (markEditS_full B d r gp q1 _ (by omega) (by omega) HR.out.nd HR.out.ow).mono ?_
 rintro e w2 ⟨rfl, hk2, hs2⟩
 have hk10 := hk9.trans (hk2.mono (fun k h => List.mem_append.2 (.inr h)))
 have HS2 := Lib.hid hs2
 have HS3 := Lib.hid (HS1.out.keeps hk2 (fun q hq => by have := (hfr q hq).2; omega) (fun q hq => H1.out.dis q hq))
 rw [HQ3.out]
 clear p1 hk2 hs2
 go_wp2
 go_ret
 exact ⟨rfl, hk10, HS3.out, HS2.out⟩

set_option maxHeartbeats 4000000 in
theorem heldStack_any (A : Option Addr) (u : List Ed) (c : Nat) (B : Option Addr) (r : List Ed) (d k : Nat) (w : World) (hk : k ≤ 10) (hu : 2 * u.length + tot (puts u) ≤ 400000) (hr : 2 * r.length + tot (puts r) ≤ 400000) (hU : Es w A (markedE k u)) (hR : Es w B (markedE (markN k u) r)) :
  Calls Tryz.prog 63 #[.agg #[.slice A u.length c, .slice B r.length d], .int .i64 (k : Int)] w fun e w' => e = .returned (.int .i64 (markN (markN k u) r : Int)) ∧ Below w.heap.size w w' := by
 have hal := (Below.refl w.heap.size w).alloc (Nat.le_refl _) (.cells #[.slice A u.length c, .slice B r.length d] 48)
 have BX := Lib.hid (Blk.new w #[.slice A u.length c, .slice B r.length d] 48)
 have p0 := BX.out.cell 0
 have HU := Lib.hid (hU.below hal)
 obtain ⟨q1, hq1⟩ : ∃ q, markN k u = q := ⟨_, rfl⟩
 have hq2 : q1 ≤ 500000 := by rw [← hq1]; unfold markN; omega
 rw [hq1] at hR ⊢
 obtain ⟨q3, hq3⟩ : ∃ q, markN q1 r = q := ⟨_, rfl⟩
 rw [hq3]
 have HQ1 := Lib.hid (show k + 2 * u.length + tot (puts u) = q1 from hq1)
 have HQ3 := Lib.hid (show q1 + 2 * r.length + tot (puts r) = q3 from hq3)
 have HR := Lib.hid (hR.below hal)
 clear hU hR hq1 hq3
 go_enter Tryz.func63, Tryz.ntmps63
 go_wp2_with fail
 refine (heldEditS_any A u c k _ (by omega) hu HU.out).mono ?_
 rintro e w1 ⟨rfl, hb1⟩
 have HR := Lib.hid (HR.out.below hb1)
 have BX := Lib.hid (BX.out.below hb1)
 have hb9 := below_then hal hb1
 rw [HQ1.out]
 clear p0 hb1
 have p1 := BX.out.cell 1
 have hn1 : ¬ (q1 : Int) < 0 := by omega
 go_wp2_with fail
 refine (heldEditS_any B r d q1 _ (by omega) hr HR.out).mono ?_
 rintro e w2 ⟨rfl, hb2⟩
 have hb10 := below_then hb9 hb2
 rw [HQ3.out]
 have hn2 : ¬ (q3 : Int) < 0 := by omega
 clear p1 hb2
 go_wp2
 go_ret
 exact ⟨rfl, hb10⟩
end Go.Proofs.YtaekanhjkpoifaaGreatDoor
