/-
  The heap of leases: the method Push: contract. Own work.
-/
import Derived.Test.YtalcjgmmlmhngaaI15
namespace Go.Proofs.Ytalcjgmmlmhngaa
open Go.RowKit P
set_option linter.unusedVariables false
set_option linter.unusedSimpArgs false
set_option maxRecDepth 100000

/-- The heap at hb, its leases in the slice v of the call's own. -/
structure Hq (w : World) (B hb : Nat) (v : Value) (H : List Le) : Prop where
  hd : Blk w hb #[v, .func (.func 119) #[] #[]] 81
  own : OwR w B v H
  ne : ∀ k ∈ v.ownBlock.toList, k ≠ hb
  hB : B ≤ hb

set_option maxHeartbeats 4000000 in
theorem heapPushM_any (B hb : Nat) (v : Value) (H : List Le) (x y s t : Int) (w : World) (h : Hq w B hb v H) (hin : leIn (x, y, s, t)) (hl : H.length ≤ 100000) (hBw : B ≤ w.heap.size) :
    Calls Try.prog 178 #[.pointer (some ⟨hb, 0, none⟩), .iface 34 (.agg #[.int .i64 x, .int .i64 y, .int .i64 s, .int .i64 t])] w fun e w' => e = .returned (.tuple #[]) ∧ ∃ v', Hq w' B hb v' (H ++ [(x, y, s, t)]) ∧ Below B w w' := by
  have hal := (Below.refl w.heap.size w).alloc (Nat.le_refl _) (.cells #[.int .i64 x, .int .i64 y, .int .i64 s, .int .i64 t] 34)
  have h0 : w.cell? ⟨hb, 0, none⟩ = some v := h.hd.cell 0
  have HD1 := Lib.hid (h.hd.below hal)
  have HO := Lib.hid (h.own.below hal)
  have HNE := Lib.hid h.ne
  have HNW : Hid (Ll (w.alloc (.cells #[.int .i64 x, .int .i64 y, .int .i64 s, .int .i64 t] 34)) (some ⟨w.heap.size, 0, none⟩) [(x, y, s, t)]) := Lib.hid (ll_new w hin)
  have zh := h.hd.lt
  have hBh := h.hB
  have hTA : ∀ W, (Instr.typeAssert (.iface 34 (.agg #[.int .i64 x, .int .i64 y, .int .i64 s, .int .i64 t])) 20 34 false).run Try.prog W = .ok (.agg #[.int .i64 x, .int .i64 y, .int .i64 s, .int .i64 t]) W := fun W => by kernel_rfl
  clear h hal
  go_enter Try.func178, Try.ntmps178
  go_wp2_with fail
  refine wp_region_held_drew (S := (fun V => True)) (by kernel_rfl) (by exact trivial) (fun hHeld => ?_)
  refine wpAnyH_take (i := 0) (oi := ?_) (v := ?_) ?_ ?_ ?_ ?_ ?_ ?_ (by exact hHeld) ?_
  rotate_left 2
  · (simp only [List.getElem?_toArray, List.getElem?_cons_zero]; try rfl)
  · kernel_rfl
  · kernel_rfl
  · kernel_rfl
  · exact fun _ _ _ h => h
  · refine Or.inl ⟨by rfl, ?_⟩
    (intro V hSV; (try dsimp only at hSV); obtain ⟨⟩ := hSV; go_simp; try with_reducible rfl)
  (try simp only [Act.put, List.setIfInBounds_toArray, List.set_cons_zero, List.set_cons_succ])
  refine wpAnyH_take (i := 1) (oi := ?_) (v := ?_) ?_ ?_ ?_ ?_ ?_ ?_ (by exact hHeld) ?_
  rotate_left 2
  · (simp only [List.getElem?_toArray, List.getElem?_cons_zero, List.getElem?_cons_succ]; try rfl)
  · kernel_rfl
  · kernel_rfl
  · kernel_rfl
  · exact fun _ _ _ h => h
  · refine Or.inl ⟨by rfl, ?_⟩
    (intro V hSV; (try dsimp only at hSV); obtain ⟨⟩ := hSV; go_simp; try with_reducible rfl)
  (try simp only [Act.put, List.setIfInBounds_toArray, List.set_cons_zero, List.set_cons_succ])
  refine wpAnyH_take (i := 2) (oi := ?_) (v := ?_) ?_ ?_ ?_ ?_ ?_ ?_ (by exact hHeld) ?_
  rotate_left 2
  · (simp only [List.getElem?_toArray, List.getElem?_cons_zero, List.getElem?_cons_succ]; try rfl)
  · kernel_rfl
  · kernel_rfl
  · kernel_rfl
  · exact fun _ _ _ h => h
  · refine Or.inl ⟨by rfl, ?_⟩
    (intro V hSV; (try dsimp only at hSV); obtain ⟨⟩ := hSV; go_simp; try with_reducible rfl)
  (try simp only [Act.put, List.setIfInBounds_toArray, List.set_cons_zero, List.set_cons_succ])
  refine wpAnyH_take (i := 3) (oi := ?_) (v := ?_) ?_ ?_ ?_ ?_ ?_ ?_ (by exact hHeld) ?_
  rotate_left 2
  · (simp only [List.getElem?_toArray, List.getElem?_cons_zero, List.getElem?_cons_succ]; try rfl)
  · kernel_rfl
  · kernel_rfl
  · kernel_rfl
  · exact fun _ _ _ h => h
  · refine Or.inl ⟨by rfl, ?_⟩
    (intro V hSV; (try dsimp only at hSV); obtain ⟨⟩ := hSV; go_simp; try with_reducible rfl)
  (try simp only [Act.put, List.setIfInBounds_toArray, List.set_cons_zero, List.set_cons_succ])
  refine wpAnyH_take (i := 5) (oi := ?_) (v := ?_) ?_ ?_ ?_ ?_ ?_ ?_ (by exact hHeld) ?_
  rotate_left 2
  · (simp only [List.getElem?_toArray, List.getElem?_cons_zero, List.getElem?_cons_succ]; try rfl)
  · kernel_rfl
  · kernel_rfl
  · kernel_rfl
  · exact fun _ _ _ h => h
  · refine Or.inl ⟨by rfl, ?_⟩
    (intro V hSV; (try dsimp only at hSV); obtain ⟨⟩ := hSV; go_simp; try with_reducible rfl)
  (try simp only [Act.put, List.setIfInBounds_toArray, List.set_cons_zero, List.set_cons_succ])
  refine wpAnyH_take (i := 6) (oi := ?_) (v := ?_) ?_ ?_ ?_ ?_ ?_ ?_ (by exact hHeld) ?_
  rotate_left 2
  · (simp only [List.getElem?_toArray, List.getElem?_cons_zero, List.getElem?_cons_succ]; try rfl)
  · kernel_rfl
  · kernel_rfl
  · kernel_rfl
  · exact fun _ _ _ h => h
  · refine Or.inl ⟨by rfl, ?_⟩
    (intro V hSV; (try dsimp only at hSV); obtain ⟨⟩ := hSV; go_simp; try with_reducible rfl)
  (try simp only [Act.put, List.setIfInBounds_toArray, List.set_cons_zero, List.set_cons_succ])
  refine wpAnyH_ready (rs := [4, 7]) (by kernel_rfl) (by simp) ?_
  refine AllReadyH.cons (o := ?_) ?_ (fun K hK => ?_) ?_
  rotate_left 1
  · (simp only [List.getElem?_toArray, List.getElem?_cons_zero, List.getElem?_cons_succ]; try rfl)
  · go_simp
    refine hK.out _ _ (by exact trivial) (fun hHeld => ?_)
    clear hK K
    (try simp only [Act.put, List.setIfInBounds_toArray, List.set_cons_zero, List.set_cons_succ])
    refine wpAnyH_ready (rs := [7]) (by kernel_rfl) (by simp) ?_
    refine AllReadyH.cons (o := ?_) ?_ (fun K hK => ?_) AllReadyH.nil
    rotate_left 1
    · (simp only [List.getElem?_toArray, List.getElem?_cons_zero, List.getElem?_cons_succ]; try rfl)
    go_simp
    refine hK.out _ _ (by exact trivial) (fun hHeld => ?_)
    clear hK K
    (try simp only [Act.put, List.setIfInBounds_toArray, List.set_cons_zero, List.set_cons_succ])
    refine wpAnyH_ready (rs := [8]) (by kernel_rfl) (by simp) ?_
    refine AllReadyH.cons (o := ?_) ?_ (fun K hK => ?_) AllReadyH.nil
    rotate_left 1
    · (simp only [List.getElem?_toArray, List.getElem?_cons_zero, List.getElem?_cons_succ]; try rfl)
    refine step_app_le rfl (.tmp 8) (.tmp 11) rfl B v H [(x, y, s, t)] (some ⟨w.heap.size, 0, none⟩) 1 1 rfl rfl rfl (by exact ⟨HO.out.row, HO.out.in_⟩) (by exact HNW.out) (by simp; omega) (by simp; omega) ?_
    intro v4 w4 hown4 hg4 hor
    have hg4 : (w.alloc (.cells #[.int .i64 x, .int .i64 y, .int .i64 s, .int .i64 t] 34)).grownBy w4 v.ownBlock := ⟨hg4.os, hg4.tape, hg4.output, hg4.size, hg4.block⟩
    obtain ⟨A4, d4, rfl, _, _, _⟩ := hown4.ll
    have H4 := Lib.hid hown4
    have HG := Lib.hid hg4
    have HOR := Lib.hid hor
    have hdb : w4.heap[hb]? = (w.alloc (.cells #[.int .i64 x, .int .i64 y, .int .i64 s, .int .i64 t] 34)).heap[hb]? := hg4.block hb HD1.out.lt (fun e => HNE.out hb (by rw [← e]; simp) rfl)
    have HD4 := Lib.hid (HD1.out.of_block hdb)
    have f4 := HD4.out.frozen 0
    have c4 := HD4.out.cell 0
    clear hown4 hg4 hor hdb
    (try go_simp)
    refine hK.out _ _ (by exact trivial) (fun hHeld => ?_)
    clear hK K
    (try simp only [Act.put, List.setIfInBounds_toArray, List.set_cons_zero, List.set_cons_succ])
    refine wpAnyH_take (i := 9) (oi := ?_) (v := ?_) ?_ ?_ ?_ ?_ ?_ ?_ (by exact hHeld) ?_
    rotate_left 2
    · (simp only [List.getElem?_toArray, List.getElem?_cons_zero, List.getElem?_cons_succ]; try rfl)
    · kernel_rfl
    · kernel_rfl
    · kernel_rfl
    · exact fun _ _ _ h => h
    · refine Or.inl ⟨by rfl, ?_⟩
      (intro V hSV; (try dsimp only at hSV); obtain ⟨⟩ := hSV; go_simp; try with_reducible rfl)
    (try simp only [Act.put, List.setIfInBounds_toArray, List.set_cons_zero, List.set_cons_succ])
    refine wpAnyH_take (i := 10) (oi := ?_) (v := ?_) ?_ ?_ ?_ ?_ ?_ ?_ (by exact hHeld) ?_
    rotate_left 2
    · (simp only [List.getElem?_toArray, List.getElem?_cons_zero, List.getElem?_cons_succ]; try rfl)
    · kernel_rfl
    · kernel_rfl
    · kernel_rfl
    · exact fun _ _ _ h => h
    · refine Or.inl ⟨by rfl, ?_⟩
      (intro V hSV; (try dsimp only at hSV); obtain ⟨⟩ := hSV; go_simp; try with_reducible rfl)
    (try simp only [Act.put, List.setIfInBounds_toArray, List.set_cons_zero, List.set_cons_succ])
    refine wpAnyH_ready (rs := [11]) (by kernel_rfl) (by simp) ?_
    refine AllReadyH.cons (o := ?_) ?_ (fun K hK => ?_) AllReadyH.nil
    rotate_left 1
    · (simp only [List.getElem?_toArray, List.getElem?_cons_zero, List.getElem?_cons_succ]; try rfl)
    go_simp
    refine hK.out _ _ (by exact trivial) (fun hHeld => ?_)
    clear hK K
    (try simp only [Act.put, List.setIfInBounds_toArray, List.set_cons_zero, List.set_cons_succ])
    refine wpAnyH_done (by kernel_rfl) ?_ _
    have q9 := HD4.out.set 0 (.slice A4 (H ++ [(x, y, s, t)]).length d4)
    have hdis : ∀ k ∈ (Value.slice A4 (H ++ [(x, y, s, t)]).length d4).ownBlock.toList, k ≠ hb := fun k hk => by
      rcases HOR.out with e | e
      · rw [e] at hk; exact HNE.out k hk
      · rw [e] at hk; simp at hk; omega
    have hown9 : OwR (w4.setCell ⟨hb, 0, none⟩ (.slice A4 (H ++ [(x, y, s, t)]).length d4)) B (.slice A4 (H ++ [(x, y, s, t)]).length d4) (H ++ [(x, y, s, t)]) :=
      ⟨ownsRow_setCell_other H4.out.row (a := ⟨hb, 0, none⟩) (fun e => hdis hb (by rw [e]; simp) rfl) _, H4.out.in_⟩
    have hbel := (((Below.refl w.heap.size w).alloc (Nat.le_refl _) (.cells #[.int .i64 x, .int .i64 y, .int .i64 s, .int .i64 t] 34)).mono hBw).grown HG.out (by simp; omega) (fun k hk => (World.ownsRow.lt HO.out.row k hk).1)
    have hb9 := hbel.setCell (p := ⟨hb, 0, none⟩) hBh (.slice A4 (H ++ [(x, y, s, t)]).length d4)
    have HQ9 := Lib.hid (show Hq (w4.setCell ⟨hb, 0, none⟩ (.slice A4 (H ++ [(x, y, s, t)]).length d4)) B hb (.slice A4 (H ++ [(x, y, s, t)]).length d4) (H ++ [(x, y, s, t)]) from ⟨by simpa using q9, hown9, hdis, hBh⟩)
    have HB9 := Lib.hid hb9
    clear q9 hdis hown9 hbel hb9
    (try go_wp2)
    go_end0
    have e9 : (H ++ [(x, y, s, t)]).length = H.length + 1 := by simp
    have g8 := HQ9.out
    have g9 := HB9.out
    rw [e9] at g8 g9
    exact ⟨rfl, _, g8, g9⟩
  refine AllReadyH.cons (o := ?_) ?_ (fun K hK => ?_) AllReadyH.nil
  rotate_left 1
  · (simp only [List.getElem?_toArray, List.getElem?_cons_zero, List.getElem?_cons_succ]; try rfl)
  go_simp
  refine hK.out _ _ (by exact trivial) (fun hHeld => ?_)
  clear hK K
  (try simp only [Act.put, List.setIfInBounds_toArray, List.set_cons_zero, List.set_cons_succ])
  refine wpAnyH_ready (rs := [4]) (by kernel_rfl) (by simp) ?_
  refine AllReadyH.cons (o := ?_) ?_ (fun K hK => ?_) AllReadyH.nil
  rotate_left 1
  · (simp only [List.getElem?_toArray, List.getElem?_cons_zero, List.getElem?_cons_succ]; try rfl)
  have c0 := HD1.out.cell 0
  go_simp
  clear c0
  refine hK.out _ _ (by exact trivial) (fun hHeld => ?_)
  clear hK K
  (try simp only [Act.put, List.setIfInBounds_toArray, List.set_cons_zero, List.set_cons_succ])
  refine wpAnyH_ready (rs := [8]) (by kernel_rfl) (by simp) ?_
  refine AllReadyH.cons (o := ?_) ?_ (fun K hK => ?_) AllReadyH.nil
  rotate_left 1
  · (simp only [List.getElem?_toArray, List.getElem?_cons_zero, List.getElem?_cons_succ]; try rfl)
  refine step_app_le rfl (.tmp 8) (.tmp 11) rfl B v H [(x, y, s, t)] (some ⟨w.heap.size, 0, none⟩) 1 1 rfl rfl rfl (by exact ⟨HO.out.row, HO.out.in_⟩) (by exact HNW.out) (by simp; omega) (by simp; omega) ?_
  intro v4 w4 hown4 hg4 hor
  have hg4 : (w.alloc (.cells #[.int .i64 x, .int .i64 y, .int .i64 s, .int .i64 t] 34)).grownBy w4 v.ownBlock := ⟨hg4.os, hg4.tape, hg4.output, hg4.size, hg4.block⟩
  obtain ⟨A4, d4, rfl, _, _, _⟩ := hown4.ll
  have H4 := Lib.hid hown4
  have HG := Lib.hid hg4
  have HOR := Lib.hid hor
  have hdb : w4.heap[hb]? = (w.alloc (.cells #[.int .i64 x, .int .i64 y, .int .i64 s, .int .i64 t] 34)).heap[hb]? := hg4.block hb HD1.out.lt (fun e => HNE.out hb (by rw [← e]; simp) rfl)
  have HD4 := Lib.hid (HD1.out.of_block hdb)
  have f4 := HD4.out.frozen 0
  have c4 := HD4.out.cell 0
  clear hown4 hg4 hor hdb
  (try go_simp)
  refine hK.out _ _ (by exact trivial) (fun hHeld => ?_)
  clear hK K
  (try simp only [Act.put, List.setIfInBounds_toArray, List.set_cons_zero, List.set_cons_succ])
  refine wpAnyH_take (i := 9) (oi := ?_) (v := ?_) ?_ ?_ ?_ ?_ ?_ ?_ (by exact hHeld) ?_
  rotate_left 2
  · (simp only [List.getElem?_toArray, List.getElem?_cons_zero, List.getElem?_cons_succ]; try rfl)
  · kernel_rfl
  · kernel_rfl
  · kernel_rfl
  · exact fun _ _ _ h => h
  · refine Or.inl ⟨by rfl, ?_⟩
    (intro V hSV; (try dsimp only at hSV); obtain ⟨⟩ := hSV; go_simp; try with_reducible rfl)
  (try simp only [Act.put, List.setIfInBounds_toArray, List.set_cons_zero, List.set_cons_succ])
  refine wpAnyH_take (i := 10) (oi := ?_) (v := ?_) ?_ ?_ ?_ ?_ ?_ ?_ (by exact hHeld) ?_
  rotate_left 2
  · (simp only [List.getElem?_toArray, List.getElem?_cons_zero, List.getElem?_cons_succ]; try rfl)
  · kernel_rfl
  · kernel_rfl
  · kernel_rfl
  · exact fun _ _ _ h => h
  · refine Or.inl ⟨by rfl, ?_⟩
    (intro V hSV; (try dsimp only at hSV); obtain ⟨⟩ := hSV; go_simp; try with_reducible rfl)
  (try simp only [Act.put, List.setIfInBounds_toArray, List.set_cons_zero, List.set_cons_succ])
  refine wpAnyH_ready (rs := [11]) (by kernel_rfl) (by simp) ?_
  refine AllReadyH.cons (o := ?_) ?_ (fun K hK => ?_) AllReadyH.nil
  rotate_left 1
  · (simp only [List.getElem?_toArray, List.getElem?_cons_zero, List.getElem?_cons_succ]; try rfl)
  go_simp
  refine hK.out _ _ (by exact trivial) (fun hHeld => ?_)
  clear hK K
  (try simp only [Act.put, List.setIfInBounds_toArray, List.set_cons_zero, List.set_cons_succ])
  refine wpAnyH_done (by kernel_rfl) ?_ _
  have q9 := HD4.out.set 0 (.slice A4 (H ++ [(x, y, s, t)]).length d4)
  have hdis : ∀ k ∈ (Value.slice A4 (H ++ [(x, y, s, t)]).length d4).ownBlock.toList, k ≠ hb := fun k hk => by
    rcases HOR.out with e | e
    · rw [e] at hk; exact HNE.out k hk
    · rw [e] at hk; simp at hk; omega
  have hown9 : OwR (w4.setCell ⟨hb, 0, none⟩ (.slice A4 (H ++ [(x, y, s, t)]).length d4)) B (.slice A4 (H ++ [(x, y, s, t)]).length d4) (H ++ [(x, y, s, t)]) :=
    ⟨ownsRow_setCell_other H4.out.row (a := ⟨hb, 0, none⟩) (fun e => hdis hb (by rw [e]; simp) rfl) _, H4.out.in_⟩
  have hbel := (((Below.refl w.heap.size w).alloc (Nat.le_refl _) (.cells #[.int .i64 x, .int .i64 y, .int .i64 s, .int .i64 t] 34)).mono hBw).grown HG.out (by simp; omega) (fun k hk => (World.ownsRow.lt HO.out.row k hk).1)
  have hb9 := hbel.setCell (p := ⟨hb, 0, none⟩) hBh (.slice A4 (H ++ [(x, y, s, t)]).length d4)
  have HQ9 := Lib.hid (show Hq (w4.setCell ⟨hb, 0, none⟩ (.slice A4 (H ++ [(x, y, s, t)]).length d4)) B hb (.slice A4 (H ++ [(x, y, s, t)]).length d4) (H ++ [(x, y, s, t)]) from ⟨by simpa using q9, hown9, hdis, hBh⟩)
  have HB9 := Lib.hid hb9
  clear q9 hdis hown9 hbel hb9
  (try go_wp2)
  go_end0
  have e9 : (H ++ [(x, y, s, t)]).length = H.length + 1 := by simp
  have g8 := HQ9.out
  have g9 := HB9.out
  rw [e9] at g8 g9
  exact ⟨rfl, _, g8, g9⟩
end Go.Proofs.Ytalcjgmmlmhngaa
