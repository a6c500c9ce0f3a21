/-
  Chapter 8, newEditStack, top, l08Edit, StackTop in the program and in the model: contracts. Own work.
-/
import Derived.Test.YtalcjgmmlmhngaaK03
import Derived.Test.YtalcjgmmlmhngaaK01
import Derived.Test.YtalcjgmmlmhngaaEB
namespace Go.Proofs.Ytalcjgmmlmhngaa
open Go.RowKit P
set_option linter.unusedVariables false
set_option linter.unusedSimpArgs false
set_option maxRecDepth 100000

theorem cell_oth {w : World} {a p : Addr} (v : Value) (h : p.block ≠ a.block) : (w.setCell a v).cell? p = w.cell? p := by
  unfold World.cell?
  rw [Below.heap_setCell w a v p.block h]

/-- What a call gives that returns an edit of its own: its numbers, what it puts, and from which block on. -/
def GivesE (d : Ed) (w : World) (e : Ending) (w' : World) : Prop := ∃ v, e = .returned (.agg #[.int .i64 d.1, .int .i64 d.2.1, v]) ∧ Own w' w.heap.size v d.2.2 ∧ Below w.heap.size w w'

set_option maxHeartbeats 8000000 in
theorem l08Edit_any (a m : Int) (P : Option Addr) (p : List UInt8) (d : Nat) (w : World) (hp4 : p.length ≤ 1000000) (hP : Bs w P p) :
    Calls Try.prog 95 #[.agg #[.int .i64 a, .int .i64 m, .slice P p.length d]] w (GivesE (a, m, p) w) := by
  have hal := ((Below.refl w.heap.size w).alloc (Nat.le_refl _) (.cells #[.int .i64 a, .int .i64 m, .slice P p.length d] 42)).alloc (by simp) (.cells #[.int .i64 0, .int .i64 0, .slice none 0 0] 42)
  have hbx := (Blk.new w #[.int .i64 a, .int .i64 m, .slice P p.length d] 42).alloc (.cells #[.int .i64 0, .int .i64 0, .slice none 0 0] 42)
  have hrx := Blk.new (w.alloc (.cells #[.int .i64 a, .int .i64 m, .slice P p.length d] 42)) #[.int .i64 0, .int .i64 0, .slice none 0 0] 42
  simp only [World.size_alloc] at hrx
  have BX := Lib.hid hbx
  have RX := Lib.hid hrx
  have HB := Lib.hid hal
  have HP := Lib.hid (hP.below hal)
  have hzw : ((w.alloc (.cells #[.int .i64 a, .int .i64 m, .slice P p.length d] 42)).alloc (.cells #[.int .i64 0, .int .i64 0, .slice none 0 0] 42)).heap.size ≥ w.heap.size + 2 := by simp
  clear hal hbx hrx hP
  unfold GivesE
  go_enter Try.func95, Try.ntmps95
  go_wp2_with fail
  generalize (w.alloc (.cells #[.int .i64 a, .int .i64 m, .slice P p.length d] 42)).alloc (.cells #[.int .i64 0, .int .i64 0, .slice none 0 0] 42) = W at *
  have p0 := BX.out.cell 0
  have p1 := BX.out.cell 1
  have p2 := BX.out.cell 2
  have zb := BX.out.lt
  have hO0 : Own (W.alloc (.cells #[] 5)) W.heap.size (.slice (some ⟨W.heap.size, 0, none⟩) 0 0) [] := World.ownsRow_made W #[] 0 (Nat.le_refl _) (by unfold maxLen; omega) rfl
  have hP0 : Bs (W.alloc (.cells #[] 5)) P p := HP.out.below ((Below.refl W.heap.size W).alloc (Nat.le_refl _) (.cells #[] 5))
  refine wp_region_held_drew (S := (fun V => V.cell? ⟨w.heap.size, 0, none⟩ = some (.int .i64 a) ∧ V.cell? ⟨w.heap.size, 1, none⟩ = some (.int .i64 m) ∧ V.cell? ⟨w.heap.size, 2, none⟩ = some (.slice P p.length d))) (by kernel_rfl) (by exact ⟨p0, p1, p2⟩) (fun hHeld => ?_)
  refine wpAnyH_take (i := 0) (oi := ?_) (v := ?_) ?_ ?_ ?_ ?_ ?_ ?_ (by exact hHeld) ?_
  rotate_left 2
  · (simp only [List.getElem?_toArray, List.getElem?_cons_zero]; try rfl)
  · kernel_rfl
  · kernel_rfl
  · kernel_rfl
  · exact fun _ _ _ h => h
  · refine Or.inl ⟨by rfl, ?_⟩
    (intro V hSV; (try dsimp only at hSV); obtain ⟨q0, q1, q2⟩ := hSV; go_simp; try with_reducible rfl)
  (try simp only [Act.put, List.setIfInBounds_toArray, List.set_cons_zero, List.set_cons_succ])
  refine wpAnyH_take (i := 1) (oi := ?_) (v := ?_) ?_ ?_ ?_ ?_ ?_ ?_ (by exact hHeld) ?_
  rotate_left 2
  · (simp only [List.getElem?_toArray, List.getElem?_cons_zero, List.getElem?_cons_succ]; try rfl)
  · kernel_rfl
  · kernel_rfl
  · kernel_rfl
  · exact fun _ _ _ h => h
  · refine Or.inl ⟨by rfl, ?_⟩
    (intro V hSV; (try dsimp only at hSV); obtain ⟨q0, q1, q2⟩ := hSV; go_simp; try with_reducible rfl)
  (try simp only [Act.put, List.setIfInBounds_toArray, List.set_cons_zero, List.set_cons_succ])
  refine wpAnyH_take (i := 2) (oi := ?_) (v := ?_) ?_ ?_ ?_ ?_ ?_ ?_ (by exact hHeld) ?_
  rotate_left 2
  · (simp only [List.getElem?_toArray, List.getElem?_cons_zero, List.getElem?_cons_succ]; try rfl)
  · kernel_rfl
  · kernel_rfl
  · kernel_rfl
  · exact fun _ _ _ h => h
  · refine Or.inl ⟨by rfl, ?_⟩
    (intro V hSV; (try dsimp only at hSV); obtain ⟨q0, q1, q2⟩ := hSV; go_simp; try with_reducible rfl)
  (try simp only [Act.put, List.setIfInBounds_toArray, List.set_cons_zero, List.set_cons_succ])
  refine wpAnyH_take (i := 3) (oi := ?_) (v := ?_) ?_ ?_ ?_ ?_ ?_ ?_ (by exact hHeld) ?_
  rotate_left 2
  · (simp only [List.getElem?_toArray, List.getElem?_cons_zero, List.getElem?_cons_succ]; try rfl)
  · kernel_rfl
  · kernel_rfl
  · kernel_rfl
  · exact fun _ _ _ h => h
  · refine Or.inl ⟨by rfl, ?_⟩
    (intro V hSV; (try dsimp only at hSV); obtain ⟨q0, q1, q2⟩ := hSV; go_simp; try with_reducible rfl)
  (try simp only [Act.put, List.setIfInBounds_toArray, List.set_cons_zero, List.set_cons_succ])
  refine wpAnyH_take (i := 5) (oi := ?_) (v := ?_) ?_ ?_ ?_ ?_ ?_ ?_ (by exact hHeld) ?_
  rotate_left 2
  · (simp only [List.getElem?_toArray, List.getElem?_cons_zero, List.getElem?_cons_succ]; try rfl)
  · kernel_rfl
  · kernel_rfl
  · kernel_rfl
  · exact fun _ _ _ h => h
  · refine Or.inl ⟨by rfl, ?_⟩
    (intro V hSV; (try dsimp only at hSV); obtain ⟨q0, q1, q2⟩ := hSV; go_simp; try with_reducible rfl)
  (try simp only [Act.put, List.setIfInBounds_toArray, List.set_cons_zero, List.set_cons_succ])
  refine wpAnyH_take (i := 6) (oi := ?_) (v := ?_) ?_ ?_ ?_ ?_ ?_ ?_ (by exact hHeld) ?_
  rotate_left 2
  · (simp only [List.getElem?_toArray, List.getElem?_cons_zero, List.getElem?_cons_succ]; try rfl)
  · kernel_rfl
  · kernel_rfl
  · kernel_rfl
  · exact fun _ _ _ h => h
  · refine Or.inl ⟨by rfl, ?_⟩
    (intro V hSV; (try dsimp only at hSV); obtain ⟨q0, q1, q2⟩ := hSV; go_simp; try with_reducible rfl)
  (try simp only [Act.put, List.setIfInBounds_toArray, List.set_cons_zero, List.set_cons_succ])
  refine wpAnyH_ready (rs := [4]) (by kernel_rfl) (by simp) ?_
  refine AllReadyH.cons (o := ?_) ?_ (fun K hK => ?_) AllReadyH.nil
  rotate_left 1
  · (simp only [List.getElem?_toArray, List.getElem?_cons_zero, List.getElem?_cons_succ]; try rfl)
  go_simp
  refine hK.out _ _ (by exact ⟨((show Blk _ w.heap.size #[.int .i64 a, .int .i64 m, .slice P p.length d] 42 from BX.out.alloc (.cells #[] 5))).cell 0, ((show Blk _ w.heap.size #[.int .i64 a, .int .i64 m, .slice P p.length d] 42 from BX.out.alloc (.cells #[] 5))).cell 1, ((show Blk _ w.heap.size #[.int .i64 a, .int .i64 m, .slice P p.length d] 42 from BX.out.alloc (.cells #[] 5))).cell 2⟩) (fun hHeld => ?_)
  clear hK K
  (try simp only [Act.put, List.setIfInBounds_toArray, List.set_cons_zero, List.set_cons_succ])
  refine wpAnyH_ready (rs := [7]) (by kernel_rfl) (by simp) ?_
  refine AllReadyH.cons (o := ?_) ?_ (fun K hK => ?_) AllReadyH.nil
  rotate_left 1
  · (simp only [List.getElem?_toArray, List.getElem?_cons_zero, List.getElem?_cons_succ]; try rfl)
  refine step_app_bytes9 rfl (.tmp 7) (.tmp 9) rfl W.heap.size (.slice (some ⟨W.heap.size, 0, none⟩) 0 0) [] p P p.length d rfl rfl rfl (by exact hO0) (by exact hP0) (by simp; omega) (by simp) ?_
  intro v6 w6 ho6 hg6 _
  have hg6 : (W.alloc (.cells #[] 5)).grownBy w6 (Value.slice (some ⟨W.heap.size, 0, none⟩) 0 0).ownBlock := ⟨hg6.os, hg6.tape, hg6.output, hg6.size, hg6.block⟩
  rw [List.nil_append] at ho6
  obtain ⟨A6, c6, rfl, _, _, _⟩ := ho6.form
  have hb6 : Below W.heap.size W w6 := ((Below.refl W.heap.size W).alloc (Nat.le_refl _) (.cells #[] 5)).grown hg6 (by simp) (fun j hj => by simp [Value.ownBlock] at hj; omega)
  have HO6 := Lib.hid ho6
  have HB6 := Lib.hid hb6
  have BX6 := Lib.hid (BX.out.below hb6)
  have RX6 := Lib.hid (RX.out.below hb6)
  clear ho6 hg6 hb6
  (try go_simp)
  refine hK.out _ _ (by exact ⟨(BX6.out).cell 0, (BX6.out).cell 1, (BX6.out).cell 2⟩) (fun hHeld => ?_)
  clear hK K
  (try simp only [Act.put, List.setIfInBounds_toArray, List.set_cons_zero, List.set_cons_succ])
  have f0 := RX6.out.frozen 0
  have f1 := RX6.out.frozen 1
  have f2 := RX6.out.frozen 2
  have c0 := RX6.out.cell 0
  have c1 := RX6.out.cell 1
  have c2 := RX6.out.cell 2
  have BX7 := Lib.hid (show Blk (((w6.setCell ⟨w.heap.size + 1, 0, none⟩ (.int .i64 a)).setCell ⟨w.heap.size + 1, 1, none⟩ (.int .i64 m)).setCell ⟨w.heap.size + 1, 2, none⟩ (.slice A6 p.length c6)) w.heap.size #[.int .i64 a, .int .i64 m, .slice P p.length d] 42 from ((BX6.out.setOther (by simp) _).setOther (by simp) _).setOther (by simp) _)
  have RX7 := Lib.hid (show Blk (((w6.setCell ⟨w.heap.size + 1, 0, none⟩ (.int .i64 a)).setCell ⟨w.heap.size + 1, 1, none⟩ (.int .i64 m)).setCell ⟨w.heap.size + 1, 2, none⟩ (.slice A6 p.length c6)) (w.heap.size + 1) #[.int .i64 a, .int .i64 m, .slice A6 p.length c6] 42 by simpa using ((RX6.out.set 0 (.int .i64 a)).set 1 (.int .i64 m)).set 2 (.slice A6 p.length c6))
  have HB7 := Lib.hid (show Below w.heap.size w (((w6.setCell ⟨w.heap.size + 1, 0, none⟩ (.int .i64 a)).setCell ⟨w.heap.size + 1, 1, none⟩ (.int .i64 m)).setCell ⟨w.heap.size + 1, 2, none⟩ (.slice A6 p.length c6)) from (((below_then HB.out HB6.out).setCell (p := ⟨w.heap.size + 1, 0, none⟩) (by simp) _).setCell (p := ⟨w.heap.size + 1, 1, none⟩) (by simp) _).setCell (p := ⟨w.heap.size + 1, 2, none⟩) (by simp) _)
  have HO7 := Lib.hid (((HO6.out.setBelow (a := ⟨w.heap.size + 1, 0, none⟩) (by simp; omega) (.int .i64 a)).setBelow (a := ⟨w.heap.size + 1, 1, none⟩) (by simp; omega) (.int .i64 m)).setBelow (a := ⟨w.heap.size + 1, 2, none⟩) (by simp; omega) (.slice A6 p.length c6))
  refine wpAnyH_take (i := 8) (oi := ?_) (v := ?_) ?_ ?_ ?_ ?_ ?_ ?_ (by exact hHeld) ?_
  rotate_left 2
  · (simp only [List.getElem?_toArray, List.getElem?_cons_zero, List.getElem?_cons_succ]; try rfl)
  · kernel_rfl
  · kernel_rfl
  · kernel_rfl
  · exact fun _ _ _ h => h
  · refine Or.inl ⟨by rfl, ?_⟩
    (intro V hSV; (try dsimp only at hSV); obtain ⟨q0, q1, q2⟩ := hSV; go_simp; try with_reducible rfl)
  (try simp only [Act.put, List.setIfInBounds_toArray, List.set_cons_zero, List.set_cons_succ])
  refine wpAnyH_ready (rs := [9]) (by kernel_rfl) (by simp) ?_
  refine AllReadyH.cons (o := ?_) ?_ (fun K hK => ?_) AllReadyH.nil
  rotate_left 1
  · (simp only [List.getElem?_toArray, List.getElem?_cons_zero, List.getElem?_cons_succ]; try rfl)
  go_simp
  refine hK.out _ _ (by exact ⟨(BX7.out).cell 0, (BX7.out).cell 1, (BX7.out).cell 2⟩) (fun hHeld => ?_)
  clear hK K
  (try simp only [Act.put, List.setIfInBounds_toArray, List.set_cons_zero, List.set_cons_succ])
  refine wpAnyH_done (by kernel_rfl) ?_ _
  clear hHeld p0 p1 p2 f0 f1 f2 c0 c1 c2
  have q0 := RX7.out.cell 0
  have q1 := RX7.out.cell 1
  have q2 := RX7.out.cell 2
  go_wp2
  refine bodyPost_ret (v := .agg #[.int .i64 a, .int .i64 m, .slice A6 p.length c6]) (by simp [results, Try.results95, go_sem, q0, q1, q2]) rfl ?_
  exact ⟨_, rfl, HO7.out.mono (by omega), HB7.out⟩

set_option maxHeartbeats 8000000 in
theorem newEditStack_any (A : Option Addr) (es : List Ed) (c : Nat) (w : World) (hl : es.length ≤ 100) (hp4 : ∀ e ∈ es, e.2.2.length ≤ 1000) (hE : Es w A es) :
    Calls Try.prog 96 #[.slice A es.length c] w fun e w' => ∃ v fp, e = .returned (.agg #[v]) ∧ Lay.edits.ow w' [v] es fp ∧ fp.Nodup ∧ (∀ k ∈ fp, w.heap.size ≤ k) ∧ Below w.heap.size w w' := by
  have hal := ((Below.refl w.heap.size w).alloc (Nat.le_refl _) (.cells #[.slice none 0 0] 109)).alloc (by simp) (.cells #[.slice none 0 0] 109)
  have hrx := (Blk.new w #[.slice none 0 0] 109).alloc (.cells #[.slice none 0 0] 109)
  have hlx := Blk.new (w.alloc (.cells #[.slice none 0 0] 109)) #[.slice none 0 0] 109
  simp only [World.size_alloc] at hlx
  have hL0 := Lib.hid (show Lb ((w.alloc (.cells #[.slice none 0 0] 109)).alloc (.cells #[.slice none 0 0] 109)) (w.heap.size + 1) (w.heap.size + 1) (.slice none 0 0) [] [] from ⟨hlx, Lay.slice_nil _ _ _, List.nodup_nil, (fun _ h => nomatch h), (fun _ h => nomatch h), Nat.le_refl _⟩)
  have HP4 := Lib.hid hp4
  clear hlx hp4
  go_enter Try.func96, Try.ntmps96
  go_wp2
  go_loopw [8] (fun i wr => ∃ (k : Nat) (v : Value) (fp : List Nat), k ≤ es.length ∧ i = .int .i64 k ∧ Hid (Lb wr (w.heap.size + 1) (w.heap.size + 1) v (es.take k) fp) ∧ Blk wr w.heap.size #[.slice none 0 0] 109 ∧ Below w.heap.size w wr)
    (fun i _ => es.length - (intOf i).toNat)
  case atStart => exact ⟨0, _, [], Nat.zero_le _, rfl, by simpa using hL0, hrx, hal⟩
  case round =>
    obtain ⟨k, v, fp, hk, rfl, HL, hrx2, hb⟩ := hrel
    have RX := Lib.hid hrx2
    have HB := Lib.hid hb
    clear hrx hrx2 hal hL0
    by_cases hlt : k < es.length
    · have hki0 : (0 : Int) ≤ (k : Int) := by omega
      have hki : (k : Int) < (es.length : Int) := by omega
      obtain ⟨b, off, a, m, P, p, d, rfl, hbl, hek, k0, k1, k2, ha, hm, hpd, hdm, hBp⟩ := (hE.below hb).at_ k hlt
      have hp4 := HP4.out _ (List.getElem_mem hlt)
      rw [hek] at hp4
      have hal := (Below.refl wr.heap.size wr).alloc (Nat.le_refl _) (.cells #[.int .i64 a, .int .i64 m, .slice P p.length d] 42)
      have BX := Lib.hid (Blk.new wr #[.int .i64 a, .int .i64 m, .slice P p.length d] 42)
      have HL := Lib.hid (HL.out.below hal)
      have RX := Lib.hid (RX.out.below hal)
      have HB2 := Lib.hid (below_then HB.out hal)
      have hBp2 := hBp.below hal
      have hadd := Lib.hid (add_any (w.heap.size + 1) (w.heap.size + 1) v (es.take k) fp a m P p d _ (by rw [List.length_take]; omega) ha hm hp4 hBp2 HL.out)
      have HNX := Lib.hid (show es.take (k + 1) = es.take k ++ [(a, m, p)] by rw [List.take_succ_eq_append_getElem hlt, hek])
      have p0 := BX.out.cell 0
      have p1 := BX.out.cell 1
      have p2 := BX.out.cell 2
      have hzr := RX.out.lt
      clear hal hb hBp hBp2 hek
      go_wp2_with fail
      generalize wr.alloc (.cells #[.int .i64 a, .int .i64 m, .slice P p.length d] 42) = W at *
      refine hadd.out.mono ?_
      rintro e w1 ⟨rfl, v1, fp1, hL1, hs1, hk1⟩
      rw [← HNX.out] at hL1
      have HL1 := Lib.hid hL1
      have hlr := HL.out.lo
      have RX1 := Lib.hid (RX.out.of_block (hk1.block _ hzr (fun h => by
        rcases List.mem_cons.1 h with h | h
        · omega
        · have := hlr _ h; omega)))
      have HB3 := Lib.hid (HB2.out.trans (hk1.below (B := w.heap.size) HB2.out.size (fun q hq => by
        rcases List.mem_cons.1 hq with h | h
        · omega
        · have := hlr _ h; omega)))
      clear hL1 hs1 hk1 hadd p0 p1 p2 k0 k1 k2
      go_wp2
      go_roundw
      case rel => exact ⟨k + 1, _, _, by omega, by go_num, HL1, RX1.out, HB3.out⟩
      case measure => simp [intOf]; omega
    · have e : k = es.length := by omega
      have hki : ¬ (k : Int) < (es.length : Int) := by omega
      subst e
      have hLe := HL.out
      rw [List.take_length] at hLe
      obtain ⟨A1, c1, rfl, hO1⟩ := hLe.form
      have HLE := Lib.hid hLe
      have p0 : wr.cell? ⟨w.heap.size + 1, 0, none⟩ = some (.slice A1 es.length c1) := hLe.hd.cell 0
      have q0 := RX.out.cell 0
      have f0 := RX.out.frozen 0
      have RX2 := Lib.hid (show Blk (wr.setCell ⟨w.heap.size, 0, none⟩ (.slice A1 es.length c1)) w.heap.size #[.slice A1 es.length c1] 109 by simpa using RX.out.set 0 (.slice A1 es.length c1))
      have HO2 := Lib.hid (Lay.edits.keeps hLe.ow ((Keeps.refl [w.heap.size] wr).set (List.mem_singleton.2 rfl) 0 (.slice A1 es.length c1)) (fun q hq h => by have := hLe.lo q hq; simp at h; omega))
      have HB2 := Lib.hid (HB.out.setCell (p := ⟨w.heap.size, 0, none⟩) (Nat.le_refl _) (.slice A1 es.length c1))
      have r0 := RX2.out.cell 0
      clear hO1 hLe HL
      go_wp2
      refine bodyPost_ret (v := .agg #[.slice A1 es.length c1]) (by simp [results, Try.results96, go_sem, r0]) rfl ?_
      exact ⟨_, rfl, _, HO2.out, HLE.out.nd, fun q hq => by have := HLE.out.lo q hq; omega, HB2.out⟩

theorem own_from {w : World} {v : Value} {p : List UInt8} {base : Nat} (h : Own w 0 v p) (hb : ∀ k ∈ v.ownBlock.toList, base ≤ k) : Own w base v p := by
  refine ⟨h.1, ?_⟩
  rcases h.2 with h2 | ⟨g, cap, cur, rfl, _, r⟩
  · exact .inl h2
  · exact .inr ⟨g, cap, cur, rfl, hb g (by simp [Value.ownBlock]), r⟩

/-- The last of a list of one's own. -/
theorem last_own {w : World} {base : Nat} {A : Option Addr} {es : List Ed} {c : Nat} {fp : List Nat} (h : OwE w base A es c fp) (h0 : 0 < es.length) :
    ∃ g P d, A = some ⟨g, 0, none⟩ ∧ g < w.heap.size ∧ es.length ≤ c ∧ w.cell? ⟨g, (es.length - 1) * 3, none⟩ = some (.int .i64 (lastE es).1) ∧ w.cell? ⟨g, (es.length - 1) * 3 + 1, none⟩ = some (.int .i64 (lastE es).2.1) ∧ w.cell? ⟨g, (es.length - 1) * 3 + 2, none⟩ = some (.slice P (lastE es).2.2.length d) ∧ Own w base (.slice P (lastE es).2.2.length d) (lastE es).2.2 := by
  obtain ⟨els, hes0, hrow, hes, hfp⟩ := ow_one h.ow
  have hln : es.length = els.length := by rw [hes0, List.length_map]
  rcases hrow.2 with ⟨_, h0'⟩ | ⟨g, cap, cur, hv, hbg, hh, hnc, hcm, hcs, htk⟩
  · omega
  simp only [Value.slice.injEq] at hv
  obtain ⟨rfl, _, rfl⟩ := hv
  have hi : els.length - 1 < els.length := by omega
  obtain ⟨v, e1, e2, e3⟩ := edit_ow_inv (hes _ (List.getElem_mem hi))
  have hlast : lastE es = els[els.length - 1].2.1 := by
    unfold lastE
    rw [List.getLastD_eq_getLast?, List.getLast?_eq_getElem?, hln, hes0, List.getElem?_map, List.getElem?_eq_getElem hi]
    rfl
  have hlen : ∀ e ∈ els, (e.1 : List Value).length = 3 := fun e he => by obtain ⟨v, h1, _⟩ := edit_ow_inv (hes e he); rw [h1]; rfl
  have hsz3 : Lay.edit.sz = 3 := rfl
  rw [hsz3] at htk
  have hget : ∀ j (hj : j < 3) (u : Value), ([.int .i64 els[els.length - 1].2.1.1, .int .i64 els[els.length - 1].2.1.2.1, v] : List Value)[j]? = some u → w.cell? ⟨g, (els.length - 1) * 3 + j, none⟩ = some u := by
    intro j hj u hu
    have h9 := flat_get 3 els (·.1) hlen (els.length - 1) hi j (by rw [e1]; exact hj)
    rw [← htk, List.getElem?_take] at h9
    split at h9
    · simp only [Array.getElem?_toList] at h9
      rw [Blk.cell (show Blk w g cur 42 from hh), h9]
      rw [← hu]
      simp only [e1]
      rw [List.getElem?_eq_getElem hj]
    · omega
  obtain ⟨P, d, rfl, _, _, _⟩ := e2.form
  rw [hlast, hln]
  refine ⟨g, P, d, rfl, Blk.lt (show Blk w g cur 42 from hh), by omega, ?_, ?_, ?_, ?_⟩
  · simpa using hget 0 (by omega) _ rfl
  · exact hget 1 (by omega) _ rfl
  · exact hget 2 (by omega) _ rfl
  · refine own_from e2 (fun k hk => h.lo k ?_)
    rw [hfp]
    exact List.mem_append.2 (.inr (List.mem_flatMap.2 ⟨_, List.getElem_mem hi, by rw [e3]; exact hk⟩))

/-- What top gives. -/
def Tops (w0 w : World) (base : Nat) (es : List Ed) (e : Ending) (w' : World) : Prop := ∃ v, e = .returned (.tuple #[.agg #[.int .i64 (if 0 < es.length then lastE es else (0, 0, [])).1, .int .i64 (if 0 < es.length then lastE es else (0, 0, [])).2.1, v], .bool (decide (0 < es.length))]) ∧ Own w' base v (if 0 < es.length then lastE es else (0, 0, [])).2.2 ∧ Below w.heap.size w w'

set_option maxHeartbeats 8000000 in
theorem top_any (A : Option Addr) (es : List Ed) (c base : Nat) (fp : List Nat) (w : World) (hl : es.length ≤ 100) (hO : OwE w base A es c fp) :
    Calls Try.prog 97 #[.agg #[.slice A es.length c]] w (Tops w w base es) := by
  unfold Tops
  have hal := ((Below.refl w.heap.size w).alloc (Nat.le_refl _) (.cells #[.slice A es.length c] 109)).alloc (by simp) (.cells #[.int .i64 0, .int .i64 0, .slice none 0 0] 42)
  have hbx := (Blk.new w #[.slice A es.length c] 109).alloc (.cells #[.int .i64 0, .int .i64 0, .slice none 0 0] 42)
  have hrx := Blk.new (w.alloc (.cells #[.slice A es.length c] 109)) #[.int .i64 0, .int .i64 0, .slice none 0 0] 42
  simp only [World.size_alloc] at hrx
  have BX := Lib.hid hbx
  have RX := Lib.hid hrx
  have HB := Lib.hid hal
  have hzw : ((w.alloc (.cells #[.slice A es.length c] 109)).alloc (.cells #[.int .i64 0, .int .i64 0, .slice none 0 0] 42)).heap.size ≥ w.heap.size + 2 := by simp
  by_cases h0 : 0 < es.length
  · obtain ⟨g, P, d, rfl, hgw, hnc, k0, k1, k2, hown⟩ := last_own hO h0
    rw [if_pos h0, decide_eq_true h0]
    obtain ⟨⟨a, m, p⟩, hlast⟩ : ∃ e, lastE es = e := ⟨_, rfl⟩
    rw [hlast] at k0 k1 k2 hown ⊢
    simp only at k0 k1 k2 hown ⊢
    obtain ⟨n1, hn1⟩ : ∃ n1, es.length = n1 + 1 := ⟨es.length - 1, by omega⟩
    have hn2 : es.length - 1 = n1 := by omega
    rw [hn2] at k0 k1 k2
    have HO := Lib.hid hown
    have k0 := (hal.cell (p := ⟨g, n1 * 3, none⟩) hgw).trans k0
    have k1 := (hal.cell (p := ⟨g, n1 * 3 + 1, none⟩) hgw).trans k1
    have k2 := (hal.cell (p := ⟨g, n1 * 3 + 2, none⟩) hgw).trans k2
    have hnz : ((es.length : Int) == 0) = false := beq_eq_false_iff_ne.2 (by omega)
    have hsub : (es.length : Int) - 1 = (n1 : Int) := by omega
    have hwr : IntKind.i64.wrap (n1 : Int) = (n1 : Int) := IntWalk.i64_in _ (by omega)
    have hi0 : (0 : Int) ≤ (n1 : Int) := by omega
    have hi1 : (n1 : Int) < (es.length : Int) := by omega
    clear hal hbx hrx hO hown hlast hn1 hn2
    go_enter Try.func97, Try.ntmps97
    have p0 := BX.out.cell 0
    go_wp2_with fail
    generalize (w.alloc (.cells #[.slice (some ⟨g, 0, none⟩) es.length c] 109)).alloc (.cells #[.int .i64 0, .int .i64 0, .slice none 0 0] 42) = W0 at *
    refine (edCount_any (some ⟨g, 0, none⟩) es.length c _).mono ?_
    rintro e W ⟨rfl, hb⟩
    have zg0 : g < W0.heap.size := by omega
    have k0 := (hb.cell (p := ⟨g, n1 * 3, none⟩) zg0).trans k0
    have k1 := (hb.cell (p := ⟨g, n1 * 3 + 1, none⟩) zg0).trans k1
    have k2 := (hb.cell (p := ⟨g, n1 * 3 + 2, none⟩) zg0).trans k2
    have zg : g < W.heap.size := Nat.lt_of_lt_of_le zg0 hb.size
    have BX := Lib.hid (BX.out.below hb)
    have RX := Lib.hid (RX.out.below hb)
    have HB := Lib.hid (below_then HB.out hb)
    have zb := BX.out.lt
    clear p0 hb
    have p0 := BX.out.cell 0
    go_wp2_with fail
    refine wp_region_held_drew (S := (fun V => V.cell? ⟨w.heap.size, 0, none⟩ = some (.slice (some ⟨g, 0, none⟩) es.length c) ∧ V.cell? ⟨g, n1 * 3, none⟩ = some (.int .i64 a) ∧ V.cell? ⟨g, n1 * 3 + 1, none⟩ = some (.int .i64 m) ∧ V.cell? ⟨g, n1 * 3 + 2, none⟩ = some (.slice P p.length d))) (by kernel_rfl) (by exact ⟨p0, k0, k1, k2⟩) (fun hHeld => ?_)
    refine wpAnyH_take (i := 0) (oi := ?_) (v := ?_) ?_ ?_ ?_ ?_ ?_ ?_ (by exact hHeld) ?_
    rotate_left 2
    · (simp only [List.getElem?_toArray, List.getElem?_cons_zero]; try rfl)
    · kernel_rfl
    · kernel_rfl
    · kernel_rfl
    · exact fun _ _ _ h => h
    · refine Or.inl ⟨by rfl, ?_⟩
      (intro V hSV; (try dsimp only at hSV); obtain ⟨q0, q1, q2, q3⟩ := hSV; go_simp; try with_reducible rfl)
    (try simp only [Act.put, List.setIfInBounds_toArray, List.set_cons_zero, List.set_cons_succ])
    refine wpAnyH_take (i := 1) (oi := ?_) (v := ?_) ?_ ?_ ?_ ?_ ?_ ?_ (by exact hHeld) ?_
    rotate_left 2
    · (simp only [List.getElem?_toArray, List.getElem?_cons_zero, List.getElem?_cons_succ]; try rfl)
    · kernel_rfl
    · kernel_rfl
    · kernel_rfl
    · exact fun _ _ _ h => h
    · refine Or.inl ⟨by rfl, ?_⟩
      (intro V hSV; (try dsimp only at hSV); obtain ⟨q0, q1, q2, q3⟩ := hSV; go_simp; try with_reducible rfl)
    (try simp only [Act.put, List.setIfInBounds_toArray, List.set_cons_zero, List.set_cons_succ])
    refine wpAnyH_take (i := 2) (oi := ?_) (v := ?_) ?_ ?_ ?_ ?_ ?_ ?_ (by exact hHeld) ?_
    rotate_left 2
    · (simp only [List.getElem?_toArray, List.getElem?_cons_zero, List.getElem?_cons_succ]; try rfl)
    · kernel_rfl
    · kernel_rfl
    · kernel_rfl
    · exact fun _ _ _ h => h
    · refine Or.inl ⟨by rfl, ?_⟩
      (intro V hSV; (try dsimp only at hSV); obtain ⟨q0, q1, q2, q3⟩ := hSV; go_simp; try with_reducible rfl)
    (try simp only [Act.put, List.setIfInBounds_toArray, List.set_cons_zero, List.set_cons_succ])
    refine wpAnyH_take (i := 3) (oi := ?_) (v := ?_) ?_ ?_ ?_ ?_ ?_ ?_ (by exact hHeld) ?_
    rotate_left 2
    · (simp only [List.getElem?_toArray, List.getElem?_cons_zero, List.getElem?_cons_succ]; try rfl)
    · kernel_rfl
    · kernel_rfl
    · kernel_rfl
    · exact fun _ _ _ h => h
    · refine Or.inl ⟨by rfl, ?_⟩
      (intro V hSV; (try dsimp only at hSV); obtain ⟨q0, q1, q2, q3⟩ := hSV; go_simp; try with_reducible rfl)
    (try simp only [Act.put, List.setIfInBounds_toArray, List.set_cons_zero, List.set_cons_succ])
    refine wpAnyH_take (i := 4) (oi := ?_) (v := ?_) ?_ ?_ ?_ ?_ ?_ ?_ (by exact hHeld) ?_
    rotate_left 2
    · (simp only [List.getElem?_toArray, List.getElem?_cons_zero, List.getElem?_cons_succ]; try rfl)
    · kernel_rfl
    · kernel_rfl
    · kernel_rfl
    · exact fun _ _ _ h => h
    · refine Or.inl ⟨by rfl, ?_⟩
      (intro V hSV; (try dsimp only at hSV); obtain ⟨q0, q1, q2, q3⟩ := hSV; go_simp; try with_reducible rfl)
    (try simp only [Act.put, List.setIfInBounds_toArray, List.set_cons_zero, List.set_cons_succ])
    refine wpAnyH_ready (rs := [5]) (by kernel_rfl) (by simp) ?_
    refine AllReadyH.cons rfl (fun K hK => ?_) AllReadyH.nil
    go_simp
    refine (edCount_any (some ⟨g, 0, none⟩) es.length c _).mono ?_
    rintro e y1 ⟨rfl, hby1⟩
    have hby1 : Below W.heap.size W y1 := ⟨hby1.os, hby1.tape, hby1.output, hby1.size, hby1.block⟩
    have hbR := hby1
    have RX2 := Lib.hid (RX.out.below hby1)
    have BX2 := Lib.hid (BX.out.below hby1)
    have HO2 := Lib.hid (HO.out.below (below_then HB.out hby1))
    go_wp2_with fail
    refine hK.out _ _ (by exact ⟨((hbR).cell (p := ⟨w.heap.size, 0, none⟩) zb).trans p0, ((hbR).cell (p := ⟨g, n1 * 3, none⟩) zg).trans k0, ((hbR).cell (p := ⟨g, n1 * 3 + 1, none⟩) zg).trans k1, ((hbR).cell (p := ⟨g, n1 * 3 + 2, none⟩) zg).trans k2⟩) (fun hHeld => ?_)
    clear hK K
    (try simp only [Act.put, List.setIfInBounds_toArray, List.set_cons_zero, List.set_cons_succ])
    refine wpAnyH_take (i := 6) (oi := ?_) (v := ?_) ?_ ?_ ?_ ?_ ?_ ?_ (by exact hHeld) ?_
    rotate_left 2
    · (simp only [List.getElem?_toArray, List.getElem?_cons_zero, List.getElem?_cons_succ]; try rfl)
    · kernel_rfl
    · kernel_rfl
    · kernel_rfl
    · exact fun _ _ _ h => h
    · refine Or.inl ⟨by rfl, ?_⟩
      (intro V hSV; (try dsimp only at hSV); obtain ⟨q0, q1, q2, q3⟩ := hSV; go_simp; try with_reducible rfl)
    (try simp only [Act.put, List.setIfInBounds_toArray, List.set_cons_zero, List.set_cons_succ])
    refine wpAnyH_take (i := 7) (oi := ?_) (v := ?_) ?_ ?_ ?_ ?_ ?_ ?_ (by exact hHeld) ?_
    rotate_left 2
    · (simp only [List.getElem?_toArray, List.getElem?_cons_zero, List.getElem?_cons_succ]; try rfl)
    · kernel_rfl
    · kernel_rfl
    · kernel_rfl
    · exact fun _ _ _ h => h
    · refine Or.inl ⟨by rfl, ?_⟩
      (intro V hSV; (try dsimp only at hSV); obtain ⟨q0, q1, q2, q3⟩ := hSV; go_simp; try with_reducible rfl)
    (try simp only [Act.put, List.setIfInBounds_toArray, List.set_cons_zero, List.set_cons_succ])
    refine wpAnyH_take (i := 8) (oi := ?_) (v := ?_) ?_ ?_ ?_ ?_ ?_ ?_ (by exact hHeld) ?_
    rotate_left 2
    · (simp only [List.getElem?_toArray, List.getElem?_cons_zero, List.getElem?_cons_succ]; try rfl)
    · kernel_rfl
    · kernel_rfl
    · kernel_rfl
    · exact fun _ _ _ h => h
    · refine Or.inl ⟨by rfl, ?_⟩
      (intro V hSV; (try dsimp only at hSV); obtain ⟨q0, q1, q2, q3⟩ := hSV; go_simp; try with_reducible rfl)
    (try simp only [Act.put, List.setIfInBounds_toArray, List.set_cons_zero, List.set_cons_succ])
    have f0 := RX2.out.frozen 0
    have f1 := RX2.out.frozen 1
    have f2 := RX2.out.frozen 2
    have c0 := RX2.out.cell 0
    have c1 := RX2.out.cell 1
    have c2 := RX2.out.cell 2
    have e0 := (hbR.cell (p := ⟨w.heap.size, 0, none⟩) zb).trans p0
    have e1 := (hbR.cell (p := ⟨g, n1 * 3, none⟩) zg).trans k0
    have e2 := (hbR.cell (p := ⟨g, n1 * 3 + 1, none⟩) zg).trans k1
    have e3 := (hbR.cell (p := ⟨g, n1 * 3 + 2, none⟩) zg).trans k2
    have HS9 := Lib.hid (show ((((y1.setCell ⟨w.heap.size + 1, 0, none⟩ (.int .i64 a)).setCell ⟨w.heap.size + 1, 1, none⟩ (.int .i64 m)).setCell ⟨w.heap.size + 1, 2, none⟩ (.slice P p.length d)).cell? ⟨w.heap.size, 0, none⟩ = some (.slice (some ⟨g, 0, none⟩) es.length c) ∧ (((y1.setCell ⟨w.heap.size + 1, 0, none⟩ (.int .i64 a)).setCell ⟨w.heap.size + 1, 1, none⟩ (.int .i64 m)).setCell ⟨w.heap.size + 1, 2, none⟩ (.slice P p.length d)).cell? ⟨g, n1 * 3, none⟩ = some (.int .i64 a) ∧ (((y1.setCell ⟨w.heap.size + 1, 0, none⟩ (.int .i64 a)).setCell ⟨w.heap.size + 1, 1, none⟩ (.int .i64 m)).setCell ⟨w.heap.size + 1, 2, none⟩ (.slice P p.length d)).cell? ⟨g, n1 * 3 + 1, none⟩ = some (.int .i64 m) ∧ (((y1.setCell ⟨w.heap.size + 1, 0, none⟩ (.int .i64 a)).setCell ⟨w.heap.size + 1, 1, none⟩ (.int .i64 m)).setCell ⟨w.heap.size + 1, 2, none⟩ (.slice P p.length d)).cell? ⟨g, n1 * 3 + 2, none⟩ = some (.slice P p.length d)) from ⟨(((cell_oth (p := ⟨w.heap.size, 0, none⟩) _ (by show w.heap.size ≠ w.heap.size + 1; omega)).trans ((cell_oth (p := ⟨w.heap.size, 0, none⟩) _ (by show w.heap.size ≠ w.heap.size + 1; omega)).trans (cell_oth (p := ⟨w.heap.size, 0, none⟩) _ (by show w.heap.size ≠ w.heap.size + 1; omega)))).trans e0), (((cell_oth (p := ⟨g, n1 * 3, none⟩) _ (by show g ≠ w.heap.size + 1; omega)).trans ((cell_oth (p := ⟨g, n1 * 3, none⟩) _ (by show g ≠ w.heap.size + 1; omega)).trans (cell_oth (p := ⟨g, n1 * 3, none⟩) _ (by show g ≠ w.heap.size + 1; omega)))).trans e1), (((cell_oth (p := ⟨g, n1 * 3 + 1, none⟩) _ (by show g ≠ w.heap.size + 1; omega)).trans ((cell_oth (p := ⟨g, n1 * 3 + 1, none⟩) _ (by show g ≠ w.heap.size + 1; omega)).trans (cell_oth (p := ⟨g, n1 * 3 + 1, none⟩) _ (by show g ≠ w.heap.size + 1; omega)))).trans e2), (((cell_oth (p := ⟨g, n1 * 3 + 2, none⟩) _ (by show g ≠ w.heap.size + 1; omega)).trans ((cell_oth (p := ⟨g, n1 * 3 + 2, none⟩) _ (by show g ≠ w.heap.size + 1; omega)).trans (cell_oth (p := ⟨g, n1 * 3 + 2, none⟩) _ (by show g ≠ w.heap.size + 1; omega)))).trans e3)⟩)
    have RX7 := Lib.hid (show Blk (((y1.setCell ⟨w.heap.size + 1, 0, none⟩ (.int .i64 a)).setCell ⟨w.heap.size + 1, 1, none⟩ (.int .i64 m)).setCell ⟨w.heap.size + 1, 2, none⟩ (.slice P p.length d)) (w.heap.size + 1) #[.int .i64 a, .int .i64 m, .slice P p.length d] 42 by simpa using ((RX2.out.set 0 (.int .i64 a)).set 1 (.int .i64 m)).set 2 (.slice P p.length d))
    have HB7 := Lib.hid (show Below w.heap.size w (((y1.setCell ⟨w.heap.size + 1, 0, none⟩ (.int .i64 a)).setCell ⟨w.heap.size + 1, 1, none⟩ (.int .i64 m)).setCell ⟨w.heap.size + 1, 2, none⟩ (.slice P p.length d)) from (((below_then HB.out hbR).setCell (p := ⟨w.heap.size + 1, 0, none⟩) (by simp) _).setCell (p := ⟨w.heap.size + 1, 1, none⟩) (by simp) _).setCell (p := ⟨w.heap.size + 1, 2, none⟩) (by simp) _)
    clear e0 e1 e2 e3
    refine wpAnyH_ready (rs := [9]) (by kernel_rfl) (by simp) ?_
    refine AllReadyH.cons (o := ?_) ?_ (fun K hK => ?_) AllReadyH.nil
    rotate_left 1
    · (simp only [List.getElem?_toArray, List.getElem?_cons_zero, List.getElem?_cons_succ]; try rfl)
    go_simp
    refine hK.out _ _ (by exact HS9.out) (fun hHeld => ?_)
    clear hK K
    (try simp only [Act.put, List.setIfInBounds_toArray, List.set_cons_zero, List.set_cons_succ])
    refine wpAnyH_take (i := 10) (oi := ?_) (v := ?_) ?_ ?_ ?_ ?_ ?_ ?_ (by exact hHeld) ?_
    rotate_left 2
    · (simp only [List.getElem?_toArray, List.getElem?_cons_zero, List.getElem?_cons_succ]; try rfl)
    · kernel_rfl
    · kernel_rfl
    · kernel_rfl
    · exact fun _ _ _ h => h
    · refine Or.inl ⟨by rfl, ?_⟩
      (intro V hSV; (try dsimp only at hSV); obtain ⟨q0, q1, q2, q3⟩ := hSV; go_simp; try with_reducible rfl)
    (try simp only [Act.put, List.setIfInBounds_toArray, List.set_cons_zero, List.set_cons_succ])
    refine wpAnyH_done (by kernel_rfl) ?_ _
    clear hHeld p0 k0 k1 k2 f0 f1 f2 c0 c1 c2
    have q0 := RX7.out.cell 0
    have q1 := RX7.out.cell 1
    have q2 := RX7.out.cell 2
    go_wp2
    refine bodyPost_ret (v := .tuple #[.agg #[.int .i64 a, .int .i64 m, .slice P p.length d], .bool true]) (by simp [results, Try.results97, go_sem, q0, q1, q2]) rfl ?_
    exact ⟨_, rfl, HO.out.below HB7.out, HB7.out⟩
  · rw [if_neg h0, decide_eq_false h0]
    have hnz : ((es.length : Int) == 0) = true := by rw [beq_iff_eq]; omega
    have p0 := BX.out.cell 0
    clear hal hbx hrx hO
    go_enter Try.func97, Try.ntmps97
    go_wp2_with fail
    generalize (w.alloc (.cells #[.slice A es.length c] 109)).alloc (.cells #[.int .i64 0, .int .i64 0, .slice none 0 0] 42) = W0 at *
    refine (edCount_any A es.length c _).mono ?_
    rintro e W ⟨rfl, hb⟩
    have RX := Lib.hid (RX.out.below hb)
    have HB := Lib.hid (below_then HB.out hb)
    clear p0 hb
    have q0 := RX.out.cell 0
    have q1 := RX.out.cell 1
    have q2 := RX.out.cell 2
    have f0 := RX.out.frozen 0
    have f1 := RX.out.frozen 1
    have f2 := RX.out.frozen 2
    have hltR := RX.out.lt
    go_wp2
    refine bodyPost_ret (v := .tuple #[.agg #[.int .i64 0, .int .i64 0, .slice none 0 0], .bool false]) (by simp [results, Try.results97, go_sem, q0, q1, q2]) rfl ⟨.slice none 0 0, rfl, Own.nil _ _, ?_⟩
    exact ((HB.out.setCell (p := ⟨w.heap.size + 1, 0, none⟩) (by simp) _).setCell (p := ⟨w.heap.size + 1, 1, none⟩) (by simp) _).setCell (p := ⟨w.heap.size + 1, 2, none⟩) (by simp) _

set_option maxHeartbeats 8000000 in
theorem implStackTop_any (A : Option Addr) (u : List Ed) (c : Nat) (B : Option Addr) (r : List Ed) (d : Nat) (redo : Bool) (w : World) (hu9 : u.length ≤ 9223372036854775807) (hr9 : r.length ≤ 9223372036854775807) (hU : Es w A u) (hR : Es w B r) :
    Calls Try.prog 41 #[.agg #[.slice A u.length c, .slice B r.length d], .bool redo] w fun e w' => ∃ v, e = .returned (.tuple #[.agg #[.int .i64 (topV u r redo).1, .int .i64 (topV u r redo).2.1, v], .bool (topOk u r redo)]) ∧ Own w' w.heap.size v (topV u r redo).2.2 ∧ Below w.heap.size w w' := by
  have hal := ((Below.refl w.heap.size w).alloc (Nat.le_refl _) (.cells #[.slice A u.length c, .slice B r.length d] 56)).alloc (by simp) (.cells #[.int .i64 0, .int .i64 0, .slice none 0 0] 42)
  have hbx := (Blk.new w #[.slice A u.length c, .slice B r.length d] 56).alloc (.cells #[.int .i64 0, .int .i64 0, .slice none 0 0] 42)
  have hrx := Blk.new (w.alloc (.cells #[.slice A u.length c, .slice B r.length d] 56)) #[.int .i64 0, .int .i64 0, .slice none 0 0] 42
  simp only [World.size_alloc] at hrx
  have BX := Lib.hid hbx
  have RX := Lib.hid hrx
  have HB := Lib.hid hal
  have hzw : ((w.alloc (.cells #[.slice A u.length c, .slice B r.length d] 56)).alloc (.cells #[.int .i64 0, .int .i64 0, .slice none 0 0] 42)).heap.size ≥ w.heap.size + 2 := by simp
  have HU := Lib.hid (show ∀ W, Below w.heap.size w W → Es W A u from fun W h => hU.below h)
  have HR := Lib.hid (show ∀ W, Below w.heap.size w W → Es W B r from fun W h => hR.below h)
  obtain ⟨k, hk⟩ : ∃ k, topOk u r redo = k := ⟨_, rfl⟩
  obtain ⟨V, hV⟩ : ∃ V, topV u r redo = V := ⟨_, rfl⟩
  rw [hk, hV]
  have HK := Lib.hid hk
  have HV := Lib.hid hV
  obtain ⟨z, hz⟩ : ∃ z, stOk u r = z := ⟨_, rfl⟩
  have HZ := Lib.hid hz
  clear hk hV hz hal hbx hrx hU hR
  go_enter Try.func41, Try.ntmps41
  have p0 := BX.out.cell 0
  have p1 := BX.out.cell 1
  have hU1 := HU.out _ HB.out
  have hR1 := HR.out _ HB.out
  go_wp2_with fail
  generalize (w.alloc (.cells #[.slice A u.length c, .slice B r.length d] 56)).alloc (.cells #[.int .i64 0, .int .i64 0, .slice none 0 0] 42) = W at *
  refine (implStackOk_any A B u r c d _ hu9 hr9 hU1 hR1).mono ?_
  rintro e w1 ⟨rfl, hb⟩
  rw [HZ.out]
  clear p0 p1 hU1 hR1
  have hz1 := hb.size
  have BX := Lib.hid (BX.out.below hb)
  have RX := Lib.hid (RX.out.below hb)
  have HB := Lib.hid (below_then HB.out hb)
  clear hb
  cases z
  · have hk0 : k = false := by rw [← HK.out]; unfold topOk; rw [HZ.out]; rfl
    have hv0 : V = (0, 0, []) := by rw [← HV.out]; unfold topV; rw [HK.out, hk0]; rfl
    subst hk0 hv0
    have q0 := RX.out.cell 0
    have q1 := RX.out.cell 1
    have q2 := RX.out.cell 2
    have f0 := RX.out.frozen 0
    have f1 := RX.out.frozen 1
    have f2 := RX.out.frozen 2
    have hltR := RX.out.lt
    go_wp2
    refine bodyPost_ret (v := .tuple #[.agg #[.int .i64 0, .int .i64 0, .slice none 0 0], .bool false]) (by simp [results, Try.results41, go_sem, q0, q1, q2]) rfl ?_
    exact ⟨.slice none 0 0, rfl, Own.nil _ _, ((HB.out.setCell (p := ⟨w.heap.size + 1, 0, none⟩) (by simp) _).setCell (p := ⟨w.heap.size + 1, 1, none⟩) (by simp) _).setCell (p := ⟨w.heap.size + 1, 2, none⟩) (by simp) _⟩
  have hfu : stFit u = true := by have h9 := HZ.out; unfold stOk at h9; rw [Bool.and_eq_true] at h9; exact h9.1
  have hfr : stFit r = true := by have h9 := HZ.out; unfold stOk at h9; rw [Bool.and_eq_true] at h9; exact h9.2
  cases redo
  · have hes := HU.out _ HB.out
    have hsm : ∀ e ∈ u, e.2.2.length ≤ 1000 := fun e he => by have h9 := (edSmall_iff _ _ _).1 (show edSmall e.1 e.2.1 e.2.2 = true from stFit_all hfu e he); omega
    have hl6 := stFit_len hfu
    have p0 := BX.out.cell 0
    go_wp2_with fail
    refine (newEditStack_any A u c _ (by omega) hsm hes).mono ?_
    rintro e w2 ⟨v2, fp, rfl, ho2, hn2, hl2, hb⟩
    obtain ⟨A2, c2', e2, _, _, _⟩ := Lay.edits.read ho2
    simp only [List.cons.injEq, and_true] at e2
    subst e2
    have HO2 := Lib.hid (show OwE w2 w1.heap.size A2 u c2' fp from ⟨ho2, hn2, hl2⟩)
    clear ho2 hn2 hl2 p0 hes
    have BX := Lib.hid (BX.out.below hb)
    have RX := Lib.hid (RX.out.below hb)
    have HB := Lib.hid (below_then HB.out hb)
    clear hb
    go_wp2_with fail
    refine (top_any A2 u c2' w1.heap.size fp _ (by omega) HO2.out).mono ?_
    rintro e w3 ⟨v3, rfl, hO3, hb⟩
    have hz0 : (decide (0 < u.length)) = k := by rw [← HK.out]; unfold topOk; rw [HZ.out]; rfl
    have hv0 : (if 0 < u.length then lastE u else (0, 0, [])) = V := by
      rw [← HV.out]
      unfold topV topOk
      rw [HZ.out, Bool.true_and]
      show _ = if decide (0 < u.length) = true then lastE u else (0, 0, [])
      simp only [decide_eq_true_eq]
    rw [hz0, hv0]
    rw [hv0] at hO3
    clear hz0 hv0 HO2 HK HV
    have BX := Lib.hid (BX.out.below hb)
    have RX := Lib.hid (RX.out.below hb)
    have HB := Lib.hid (below_then HB.out hb)
    clear hb
    obtain ⟨a, m, p⟩ := V
    obtain ⟨P, d9, rfl, _, _, _⟩ := hO3.form
    have HO := Lib.hid hO3
    clear hO3
    have RX7 := Lib.hid (show Blk ((((w3).setCell ⟨w.heap.size + 1, 0, none⟩ (.int .i64 a)).setCell ⟨w.heap.size + 1, 1, none⟩ (.int .i64 m)).setCell ⟨w.heap.size + 1, 2, none⟩ (.slice P p.length d9)) (w.heap.size + 1) #[.int .i64 a, .int .i64 m, .slice P p.length d9] 42 by simpa using ((RX.out.set 0 (.int .i64 a)).set 1 (.int .i64 m)).set 2 (.slice P p.length d9))
    have HB7 := Lib.hid (show Below w.heap.size w ((((w3).setCell ⟨w.heap.size + 1, 0, none⟩ (.int .i64 a)).setCell ⟨w.heap.size + 1, 1, none⟩ (.int .i64 m)).setCell ⟨w.heap.size + 1, 2, none⟩ (.slice P p.length d9)) from ((HB.out.setCell (p := ⟨w.heap.size + 1, 0, none⟩) (by simp) _).setCell (p := ⟨w.heap.size + 1, 1, none⟩) (by simp) _).setCell (p := ⟨w.heap.size + 1, 2, none⟩) (by simp) _)
    have HO7 := Lib.hid (((HO.out.setBelow (a := ⟨w.heap.size + 1, 0, none⟩) (by simp; omega) (.int .i64 a)).setBelow (a := ⟨w.heap.size + 1, 1, none⟩) (by simp; omega) (.int .i64 m)).setBelow (a := ⟨w.heap.size + 1, 2, none⟩) (by simp; omega) (.slice P p.length d9))
    have f0 := RX.out.frozen 0
    have f1 := RX.out.frozen 1
    have f2 := RX.out.frozen 2
    have c0 := RX.out.cell 0
    have c1 := RX.out.cell 1
    have c2 := RX.out.cell 2
    have q0 := RX7.out.cell 0
    have q1 := RX7.out.cell 1
    have q2 := RX7.out.cell 2
    go_wp2
    refine bodyPost_ret (v := .tuple #[.agg #[.int .i64 a, .int .i64 m, .slice P p.length d9], .bool k]) (by simp [results, Try.results41, go_sem, q0, q1, q2]) rfl ?_
    exact ⟨_, rfl, HO7.out.mono (by omega), HB7.out⟩
  · have hes := HR.out _ HB.out
    have hsm : ∀ e ∈ r, e.2.2.length ≤ 1000 := fun e he => by have h9 := (edSmall_iff _ _ _).1 (show edSmall e.1 e.2.1 e.2.2 = true from stFit_all hfr e he); omega
    have hl6 := stFit_len hfr
    have p0 := BX.out.cell 1
    go_wp2_with fail
    refine (newEditStack_any B r d _ (by omega) hsm hes).mono ?_
    rintro e w2 ⟨v2, fp, rfl, ho2, hn2, hl2, hb⟩
    obtain ⟨A2, c2', e2, _, _, _⟩ := Lay.edits.read ho2
    simp only [List.cons.injEq, and_true] at e2
    subst e2
    have HO2 := Lib.hid (show OwE w2 w1.heap.size A2 r c2' fp from ⟨ho2, hn2, hl2⟩)
    clear ho2 hn2 hl2 p0 hes
    have BX := Lib.hid (BX.out.below hb)
    have RX := Lib.hid (RX.out.below hb)
    have HB := Lib.hid (below_then HB.out hb)
    clear hb
    go_wp2_with fail
    refine (top_any A2 r c2' w1.heap.size fp _ (by omega) HO2.out).mono ?_
    rintro e w3 ⟨v3, rfl, hO3, hb⟩
    have hz0 : (decide (0 < r.length)) = k := by rw [← HK.out]; unfold topOk; rw [HZ.out]; rfl
    have hv0 : (if 0 < r.length then lastE r else (0, 0, [])) = V := by
      rw [← HV.out]
      unfold topV topOk
      rw [HZ.out, Bool.true_and]
      show _ = if decide (0 < r.length) = true then lastE r else (0, 0, [])
      simp only [decide_eq_true_eq]
    rw [hz0, hv0]
    rw [hv0] at hO3
    clear hz0 hv0 HO2 HK HV
    have BX := Lib.hid (BX.out.below hb)
    have RX := Lib.hid (RX.out.below hb)
    have HB := Lib.hid (below_then HB.out hb)
    clear hb
    obtain ⟨a, m, p⟩ := V
    obtain ⟨P, d9, rfl, _, _, _⟩ := hO3.form
    have HO := Lib.hid hO3
    clear hO3
    have RX7 := Lib.hid (show Blk ((((w3).setCell ⟨w.heap.size + 1, 0, none⟩ (.int .i64 a)).setCell ⟨w.heap.size + 1, 1, none⟩ (.int .i64 m)).setCell ⟨w.heap.size + 1, 2, none⟩ (.slice P p.length d9)) (w.heap.size + 1) #[.int .i64 a, .int .i64 m, .slice P p.length d9] 42 by simpa using ((RX.out.set 0 (.int .i64 a)).set 1 (.int .i64 m)).set 2 (.slice P p.length d9))
    have HB7 := Lib.hid (show Below w.heap.size w ((((w3).setCell ⟨w.heap.size + 1, 0, none⟩ (.int .i64 a)).setCell ⟨w.heap.size + 1, 1, none⟩ (.int .i64 m)).setCell ⟨w.heap.size + 1, 2, none⟩ (.slice P p.length d9)) from ((HB.out.setCell (p := ⟨w.heap.size + 1, 0, none⟩) (by simp) _).setCell (p := ⟨w.heap.size + 1, 1, none⟩) (by simp) _).setCell (p := ⟨w.heap.size + 1, 2, none⟩) (by simp) _)
    have HO7 := Lib.hid (((HO.out.setBelow (a := ⟨w.heap.size + 1, 0, none⟩) (by simp; omega) (.int .i64 a)).setBelow (a := ⟨w.heap.size + 1, 1, none⟩) (by simp; omega) (.int .i64 m)).setBelow (a := ⟨w.heap.size + 1, 2, none⟩) (by simp; omega) (.slice P p.length d9))
    have f0 := RX.out.frozen 0
    have f1 := RX.out.frozen 1
    have f2 := RX.out.frozen 2
    have c0 := RX.out.cell 0
    have c1 := RX.out.cell 1
    have c2 := RX.out.cell 2
    have q0 := RX7.out.cell 0
    have q1 := RX7.out.cell 1
    have q2 := RX7.out.cell 2
    go_wp2
    refine bodyPost_ret (v := .tuple #[.agg #[.int .i64 a, .int .i64 m, .slice P p.length d9], .bool k]) (by simp [results, Try.results41, go_sem, q0, q1, q2]) rfl ?_
    exact ⟨_, rfl, HO7.out.mono (by omega), HB7.out⟩
end Go.Proofs.Ytalcjgmmlmhngaa
