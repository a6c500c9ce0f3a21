/-
  Chapter 9, ReqParse in the model: contract. Own work.
-/
import Derived.Test.YtgpjjolgpppeeaaDoorN10
import Derived.Test.YtgpjjolgpppeeaaDoorN12
import Derived.Deep.RegionHeld3
import Derived.Deep.DeepCutAuto
namespace Go.Proofs.YtgpjjolgpppeeaaDoor
open Go.RowKit P
set_option linter.unusedVariables false
set_option linter.unusedSimpArgs false
set_option maxRecDepth 100000

set_option maxHeartbeats 32000000 in
theorem specReqParse_any (A0 : Option Addr) (l : List UInt8) (c : Nat) (w : World) (hlc : l.length ≤ c) (hc9 : c ≤ 9223372036854775807) (hPl : A0 = none → c = 0) (hpp : ∀ a, A0 = some a → ∃ g o, a = ⟨g, o, none⟩) (hA0 : Bs w A0 l) (hl6 : l.length ≤ 1048576) :
    Calls Tryd.prog 60 #[.slice A0 l.length c] w (GivesRq l w) := by
  have hn9 : l.length ≤ 9223372036854775807 := by omega
  have RX := Lib.hid (Blk.new w #[.int .i64 0, .int .i64 0, .int .i64 0, .int .i64 0, .int .i64 0, .slice none 0 0] 29)
  have HAL := Lib.hid ((Below.refl w.heap.size w).alloc (Nat.le_refl _) (.cells #[.int .i64 0, .int .i64 0, .int .i64 0, .int .i64 0, .int .i64 0, .slice none 0 0] 29))
  by_cases hs : l.length < 9
  · have HG := Lib.hid (rqGood_short hs)
    have hs' : (l.length : Int) < 9 := by omega
    clear hs
    go_enter Tryd.func60, Tryd.ntmps60
    have r0 := RX.out.cell 0
    have fr0 := RX.out.frozen 0
    have r1 := RX.out.cell 1
    have fr1 := RX.out.frozen 1
    have r2 := RX.out.cell 2
    have fr2 := RX.out.frozen 2
    have r3 := RX.out.cell 3
    have fr3 := RX.out.frozen 3
    have r4 := RX.out.cell 4
    have fr4 := RX.out.frozen 4
    have r5 := RX.out.cell 5
    have fr5 := RX.out.frozen 5
    have hzz := RX.out.lt
    go_wp2
    refine bodyPost_ret (v := .tuple #[.agg #[.int .i64 0, .int .i64 0, .int .i64 0, .int .i64 0, .int .i64 0, .slice none 0 0], .bool false]) (by simp [results, Tryd.results60, go_sem, r0, r1, r2, r3, r4, r5]) rfl ?_
    refine ⟨.slice none 0 0, by unfold rqFd; rw [HG.out]; rfl, by unfold rqT; rw [HG.out]; exact Own.nil _ _, ?_⟩
    repeat (refine Below.setCell ?_ (by simp) _)
    exact HAL.out
  have hs' : ¬ (l.length : Int) < 9 := by omega
  obtain ⟨b, off, rfl, hbl0, _⟩ := hA0 0 (by omega)
  obtain ⟨x, hdx⟩ : ∃ x, gb l 0 = x := ⟨_, rfl⟩
  have hLx : w.cell? ⟨b, off, none⟩ = some (.int .u8 x) := by
    obtain ⟨b2, o2, e2, _, hc2⟩ := hA0 0 (by omega)
    cases e2
    rw [← hdx, gb_get l 0 (by omega)]; exact hc2
  have hwrx : IntKind.i64.wrap x = x := IntWalk.i64_in _ (by have := gb_bd l 0; rw [hdx] at this; omega)
  have HWx := Lib.hid hdx
  clear hdx
  obtain ⟨s, hds⟩ : ∃ x, gb l 1 = x := ⟨_, rfl⟩
  have hLs : w.cell? ⟨b, off + 1, none⟩ = some (.int .u8 s) := by
    obtain ⟨b2, o2, e2, _, hc2⟩ := hA0 1 (by omega)
    cases e2
    rw [← hds, gb_get l 1 (by omega)]; exact hc2
  have hwrs : IntKind.i64.wrap s = s := IntWalk.i64_in _ (by have := gb_bd l 1; rw [hds] at this; omega)
  have HWs := Lib.hid hds
  clear hds
  obtain ⟨p, hdp⟩ : ∃ x, wd l 2 = x := ⟨_, rfl⟩
  have HWp := Lib.hid hdp
  clear hdp
  obtain ⟨q, hdq⟩ : ∃ x, wd l 4 = x := ⟨_, rfl⟩
  have HWq := Lib.hid hdq
  clear hdq
  obtain ⟨r, hdr⟩ : ∃ x, wd l 6 = x := ⟨_, rfl⟩
  have HWr := Lib.hid hdr
  clear hdr
  obtain ⟨D, hsl, hBD, _, _⟩ := slc_tail (some ⟨b, off, none⟩) l.length c 9 w l hPl hpp rfl (by omega) hlc hc9 hA0
  obtain ⟨T, hT0⟩ : ∃ T, l.drop 9 = T := ⟨_, rfl⟩
  rw [hT0] at hBD
  have HTT := Lib.hid hT0
  have hTl : l.length - 9 = T.length := by rw [← hT0, List.length_drop]
  obtain ⟨N, hN⟩ : ∃ N, l.length - 9 = N := ⟨_, rfl⟩
  obtain ⟨rc, hrc⟩ : ∃ r, c - 9 = r := ⟨_, rfl⟩
  have hsl' : ∀ W, (Instr.slice 22 (.slice (some ⟨b, off, none⟩) l.length c) (some (.int .i64 9)) none none).run Tryd.prog W = .ok (.slice D N rc) W := fun W => by
    have h := hsl W
    rw [hN, hrc] at h
    exact h
  have HN : Hid (N = T.length) := Lib.hid (by rw [← hN]; exact hTl)
  have hlN : l.length = N + 9 := by omega
  have HLN := Lib.hid hlN
  have HBD := Lib.hid hBD
  clear hsl hBD hT0 hTl hrc hN hlN
  have HA0 := Lib.hid hA0
  clear hA0
  have HGM := Lib.hid (rqGood_model (d := l) (by omega))
  go_enter Tryd.func60, Tryd.ntmps60
  go_upto_region 3 with fail
  generalize w.alloc (.cells #[.int .i64 0, .int .i64 0, .int .i64 0, .int .i64 0, .int .i64 0, .slice none 0 0] 29) = w1 at *
  have hT5 : T.length ≤ 1048576 := by have := HN.out; have := HLN.out; omega
  have hA := (HA0.out.below HAL.out)
  have HS := Lib.hid (HBD.out.below HAL.out)
  have hbl : b < w1.heap.size := by have := HAL.out.size; omega
  have HLx := Lib.hid ((HAL.out.cell (p := ⟨b, off, none⟩) hbl0).trans hLx)
  clear hLx
  have HLs := Lib.hid ((HAL.out.cell (p := ⟨b, off + 1, none⟩) hbl0).trans hLs)
  clear hLs
  have hb0 : 0 < l.length := by omega
  have hbi0 : (0 : Int) < (l.length : Int) := by omega
  have hb1 : 1 < l.length := by omega
  have hbi1 : (1 : Int) < (l.length : Int) := by omega
  have hzw : w.heap.size < w1.heap.size := RX.out.lt
  go_cut [4] (fun pv wx => ∃ (bb : Nat) (AV : Option Addr) (cV : Nat), pv = .pointer (some ⟨bb, 0, none⟩) ∧ Blk wx bb #[.int .i64 x, .int .i64 s, .int .i64 p, .int .i64 q, .int .i64 r, .slice AV T.length cV] 29 ∧ Own wx w1.heap.size (.slice AV T.length cV) T ∧ w1.heap.size ≤ bb ∧ Below w1.heap.size w1 wx)
  case first =>
    have HB := Lib.hid (show Below w1.heap.size w1 w1.drew from (Below.refl w1.heap.size w1).drew)
    refine wp_region_noPanic ?_
    refine wp_region_held_drew (S := (fun V => V.cell? ⟨b, off, none⟩ = some (.int .u8 x) ∧ V.cell? ⟨b, off + 1, none⟩ = some (.int .u8 s))) (by kernel_rfl) (by exact (⟨(HB.out.cell (p := ⟨b, off, none⟩) hbl).trans HLx.out, (HB.out.cell (p := ⟨b, off + 1, none⟩) hbl).trans HLs.out⟩)) (fun hHeld => ?_)
    refine wpAnyH_take (i := 0) (oi := ?_) (v := ?_) ?_ ?_ ?_ ?_ ?_ ?_ (by exact hHeld) ?_
    rotate_left 2
    · (simp only [List.getElem?_toArray, List.getElem?_cons_zero]; try rfl)
    · kernel_rfl
    · kernel_rfl
    · kernel_rfl
    · exact fun _ _ _ h => h
    · refine Or.inl ⟨by rfl, ?_⟩
      (intro V hSV; (try dsimp only at hSV); obtain ⟨q0, q1⟩ := hSV; go_simp; try with_reducible rfl)
    (try simp only [Act.put, List.setIfInBounds_toArray, List.set_cons_zero, List.set_cons_succ])
    refine wpAnyH_take (i := 1) (oi := ?_) (v := ?_) ?_ ?_ ?_ ?_ ?_ ?_ (by exact hHeld) ?_
    rotate_left 2
    · (simp only [List.getElem?_toArray, List.getElem?_cons_zero, List.getElem?_cons_succ]; try rfl)
    · kernel_rfl
    · kernel_rfl
    · kernel_rfl
    · exact fun _ _ _ h => h
    · refine Or.inl ⟨by rfl, ?_⟩
      (intro V hSV; (try dsimp only at hSV); obtain ⟨q0, q1⟩ := hSV; go_simp; try with_reducible rfl)
    (try simp only [Act.put, List.setIfInBounds_toArray, List.set_cons_zero, List.set_cons_succ])
    refine wpAnyH_take (i := 2) (oi := ?_) (v := ?_) ?_ ?_ ?_ ?_ ?_ ?_ (by exact hHeld) ?_
    rotate_left 2
    · (simp only [List.getElem?_toArray, List.getElem?_cons_zero, List.getElem?_cons_succ]; try rfl)
    · kernel_rfl
    · kernel_rfl
    · kernel_rfl
    · exact fun _ _ _ h => h
    · refine Or.inl ⟨by rfl, ?_⟩
      (intro V hSV; (try dsimp only at hSV); obtain ⟨q0, q1⟩ := hSV; go_simp; try with_reducible rfl)
    (try simp only [Act.put, List.setIfInBounds_toArray, List.set_cons_zero, List.set_cons_succ])
    refine wpAnyH_take (i := 3) (oi := ?_) (v := ?_) ?_ ?_ ?_ ?_ ?_ ?_ (by exact hHeld) ?_
    rotate_left 2
    · (simp only [List.getElem?_toArray, List.getElem?_cons_zero, List.getElem?_cons_succ]; try rfl)
    · kernel_rfl
    · kernel_rfl
    · kernel_rfl
    · exact fun _ _ _ h => h
    · refine Or.inl ⟨by rfl, ?_⟩
      (intro V hSV; (try dsimp only at hSV); obtain ⟨q0, q1⟩ := hSV; go_simp; try with_reducible rfl)
    (try simp only [Act.put, List.setIfInBounds_toArray, List.set_cons_zero, List.set_cons_succ])
    refine wpAnyH_take (i := 4) (oi := ?_) (v := ?_) ?_ ?_ ?_ ?_ ?_ ?_ (by exact hHeld) ?_
    rotate_left 2
    · (simp only [List.getElem?_toArray, List.getElem?_cons_zero, List.getElem?_cons_succ]; try rfl)
    · kernel_rfl
    · kernel_rfl
    · kernel_rfl
    · exact fun _ _ _ h => h
    · refine Or.inl ⟨by rfl, ?_⟩
      (intro V hSV; (try dsimp only at hSV); obtain ⟨q0, q1⟩ := hSV; go_simp; try with_reducible rfl)
    (try simp only [Act.put, List.setIfInBounds_toArray, List.set_cons_zero, List.set_cons_succ])
    refine wpAnyH_take (i := 5) (oi := ?_) (v := ?_) ?_ ?_ ?_ ?_ ?_ ?_ (by exact hHeld) ?_
    rotate_left 2
    · (simp only [List.getElem?_toArray, List.getElem?_cons_zero, List.getElem?_cons_succ]; try rfl)
    · kernel_rfl
    · kernel_rfl
    · kernel_rfl
    · exact fun _ _ _ h => h
    · refine Or.inl ⟨by rfl, ?_⟩
      (intro V hSV; (try dsimp only at hSV); obtain ⟨q0, q1⟩ := hSV; go_simp; try with_reducible rfl)
    (try simp only [Act.put, List.setIfInBounds_toArray, List.set_cons_zero, List.set_cons_succ])
    refine wpAnyH_take (i := 6) (oi := ?_) (v := ?_) ?_ ?_ ?_ ?_ ?_ ?_ (by exact hHeld) ?_
    rotate_left 2
    · (simp only [List.getElem?_toArray, List.getElem?_cons_zero, List.getElem?_cons_succ]; try rfl)
    · kernel_rfl
    · kernel_rfl
    · kernel_rfl
    · exact fun _ _ _ h => h
    · refine Or.inl ⟨by rfl, ?_⟩
      (intro V hSV; (try dsimp only at hSV); obtain ⟨q0, q1⟩ := hSV; go_simp; try with_reducible rfl)
    (try simp only [Act.put, List.setIfInBounds_toArray, List.set_cons_zero, List.set_cons_succ])
    refine wpAnyH_take (i := 7) (oi := ?_) (v := ?_) ?_ ?_ ?_ ?_ ?_ ?_ (by exact hHeld) ?_
    rotate_left 2
    · (simp only [List.getElem?_toArray, List.getElem?_cons_zero, List.getElem?_cons_succ]; try rfl)
    · kernel_rfl
    · kernel_rfl
    · kernel_rfl
    · exact fun _ _ _ h => h
    · refine Or.inl ⟨by rfl, ?_⟩
      (intro V hSV; (try dsimp only at hSV); obtain ⟨q0, q1⟩ := hSV; go_simp; try with_reducible rfl)
    (try simp only [Act.put, List.setIfInBounds_toArray, List.set_cons_zero, List.set_cons_succ])
    refine wpAnyH_take (i := 8) (oi := ?_) (v := ?_) ?_ ?_ ?_ ?_ ?_ ?_ (by exact hHeld) ?_
    rotate_left 2
    · (simp only [List.getElem?_toArray, List.getElem?_cons_zero, List.getElem?_cons_succ]; try rfl)
    · kernel_rfl
    · kernel_rfl
    · kernel_rfl
    · exact fun _ _ _ h => h
    · refine Or.inl ⟨by rfl, ?_⟩
      (intro V hSV; (try dsimp only at hSV); obtain ⟨q0, q1⟩ := hSV; go_simp; try with_reducible rfl)
    (try simp only [Act.put, List.setIfInBounds_toArray, List.set_cons_zero, List.set_cons_succ])
    refine wpAnyH_take (i := 10) (oi := ?_) (v := ?_) ?_ ?_ ?_ ?_ ?_ ?_ (by exact hHeld) ?_
    rotate_left 2
    · (simp only [List.getElem?_toArray, List.getElem?_cons_zero, List.getElem?_cons_succ]; try rfl)
    · kernel_rfl
    · kernel_rfl
    · kernel_rfl
    · exact fun _ _ _ h => h
    · refine Or.inl ⟨by rfl, ?_⟩
      (intro V hSV; (try dsimp only at hSV); obtain ⟨q0, q1⟩ := hSV; go_simp; try with_reducible rfl)
    (try simp only [Act.put, List.setIfInBounds_toArray, List.set_cons_zero, List.set_cons_succ])
    refine wpAnyH_take (i := 12) (oi := ?_) (v := ?_) ?_ ?_ ?_ ?_ ?_ ?_ (by exact hHeld) ?_
    rotate_left 2
    · (simp only [List.getElem?_toArray, List.getElem?_cons_zero, List.getElem?_cons_succ]; try rfl)
    · kernel_rfl
    · kernel_rfl
    · kernel_rfl
    · exact fun _ _ _ h => h
    · refine Or.inl ⟨by rfl, ?_⟩
      (intro V hSV; (try dsimp only at hSV); obtain ⟨q0, q1⟩ := hSV; go_simp; try with_reducible rfl)
    (try simp only [Act.put, List.setIfInBounds_toArray, List.set_cons_zero, List.set_cons_succ])
    refine wpAnyH_take (i := 15) (oi := ?_) (v := ?_) ?_ ?_ ?_ ?_ ?_ ?_ (by exact hHeld) ?_
    rotate_left 2
    · (simp only [List.getElem?_toArray, List.getElem?_cons_zero, List.getElem?_cons_succ]; try rfl)
    · kernel_rfl
    · kernel_rfl
    · kernel_rfl
    · exact fun _ _ _ h => h
    · refine Or.inl ⟨by rfl, ?_⟩
      (intro V hSV; (try dsimp only at hSV); obtain ⟨q0, q1⟩ := hSV; go_simp; try with_reducible rfl)
    (try simp only [Act.put, List.setIfInBounds_toArray, List.set_cons_zero, List.set_cons_succ])
    refine wpAnyH_take (i := 16) (oi := ?_) (v := ?_) ?_ ?_ ?_ ?_ ?_ ?_ (by exact hHeld) ?_
    rotate_left 2
    · (simp only [List.getElem?_toArray, List.getElem?_cons_zero, List.getElem?_cons_succ]; try rfl)
    · kernel_rfl
    · kernel_rfl
    · kernel_rfl
    · exact fun _ _ _ h => h
    · refine Or.inl ⟨by rfl, ?_⟩
      (intro V hSV; (try dsimp only at hSV); obtain ⟨q0, q1⟩ := hSV; go_simp; try with_reducible rfl)
    (try simp only [Act.put, List.setIfInBounds_toArray, List.set_cons_zero, List.set_cons_succ])
    refine wpAnyH_ready (rs := [9, 14, 19]) (by kernel_rfl) (by simp) ?_
    refine AllReadyH.cons (o := ?_) ?_ (fun K hK => ?_) ?_
    rotate_left 1
    · (simp only [List.getElem?_toArray, List.getElem?_cons_zero, List.getElem?_cons_succ]; try rfl)
    · go_simp
      refine (l09At_any (some ⟨b, off, none⟩) l c 2 _ hn9 (by omega) (by exact hA.below HB.out)).mono ?_
      rintro e y1 ⟨rfl, hE⟩
      have hb : Below (w1.drew).heap.size (w1.drew) y1 := by obtain ⟨n, rfl⟩ := hE; exact below_of_drewN _ n
      rw [HWp.out]
      have HB := Lib.hid (HB.out.trans (hb.mono HB.out.size))
      clear hb hE
      go_wp2_with fail
      refine hK.out _ _ (by exact (⟨(HB.out.cell (p := ⟨b, off, none⟩) hbl).trans HLx.out, (HB.out.cell (p := ⟨b, off + 1, none⟩) hbl).trans HLs.out⟩)) (fun hHeld => ?_)
      clear hK K
      (try simp only [Act.put, List.setIfInBounds_toArray, List.set_cons_zero, List.set_cons_succ])
      refine wpAnyH_ready (rs := [11, 14, 19]) (by kernel_rfl) (by simp) ?_
      refine AllReadyH.cons (o := ?_) ?_ (fun K hK => ?_) ?_
      rotate_left 1
      · (simp only [List.getElem?_toArray, List.getElem?_cons_zero, List.getElem?_cons_succ]; try rfl)
      · go_simp
        refine (l09At_any (some ⟨b, off, none⟩) l c 4 _ hn9 (by omega) (by exact hA.below HB.out)).mono ?_
        rintro e y2 ⟨rfl, hE⟩
        have hb : Below (y1).heap.size (y1) y2 := by obtain ⟨n, rfl⟩ := hE; exact below_of_drewN _ n
        rw [HWq.out]
        have HB := Lib.hid (HB.out.trans (hb.mono HB.out.size))
        clear hb hE
        go_wp2_with fail
        refine hK.out _ _ (by exact (⟨(HB.out.cell (p := ⟨b, off, none⟩) hbl).trans HLx.out, (HB.out.cell (p := ⟨b, off + 1, none⟩) hbl).trans HLs.out⟩)) (fun hHeld => ?_)
        clear hK K
        (try simp only [Act.put, List.setIfInBounds_toArray, List.set_cons_zero, List.set_cons_succ])
        refine wpAnyH_ready (rs := [13, 14, 19]) (by kernel_rfl) (by simp) ?_
        refine AllReadyH.cons (o := ?_) ?_ (fun K hK => ?_) ?_
        rotate_left 1
        · (simp only [List.getElem?_toArray, List.getElem?_cons_zero, List.getElem?_cons_succ]; try rfl)
        · go_simp
          refine (l09At_any (some ⟨b, off, none⟩) l c 6 _ hn9 (by omega) (by exact hA.below HB.out)).mono ?_
          rintro e y3 ⟨rfl, hE⟩
          have hb : Below (y2).heap.size (y2) y3 := by obtain ⟨n, rfl⟩ := hE; exact below_of_drewN _ n
          rw [HWr.out]
          have HB := Lib.hid (HB.out.trans (hb.mono HB.out.size))
          clear hb hE
          go_wp2_with fail
          refine hK.out _ _ (by exact (⟨(HB.out.cell (p := ⟨b, off, none⟩) hbl).trans HLx.out, (HB.out.cell (p := ⟨b, off + 1, none⟩) hbl).trans HLs.out⟩)) (fun hHeld => ?_)
          clear hK K
          (try simp only [Act.put, List.setIfInBounds_toArray, List.set_cons_zero, List.set_cons_succ])
          refine wpAnyH_ready (rs := [14, 19]) (by kernel_rfl) (by simp) ?_
          refine AllReadyH.cons (o := ?_) ?_ (fun K hK => ?_) ?_
          rotate_left 1
          · (simp only [List.getElem?_toArray, List.getElem?_cons_zero, List.getElem?_cons_succ]; try rfl)
          · have hbA := (Below.refl (y3).heap.size (y3)).alloc (Nat.le_refl _) (.cells #[] 5)
            have hE0 : Own ((y3).alloc (.cells #[] 5)) w1.heap.size (.slice (some ⟨y3.heap.size, 0, none⟩) 0 0) [] := by
              have h := Own.mono (show Own ((y3).alloc (.cells #[] 5)) (y3).heap.size (.slice (some ⟨(y3).heap.size, 0, none⟩) 0 0) [] from Own.new (y3) [] (by simp [maxLen])) (show w1.heap.size ≤ (y3).heap.size from HB.out.size)
              first | exact h | simpa using h
            have E0 := Lib.hid hE0
            clear hE0
            have HB := Lib.hid (HB.out.trans (hbA.mono HB.out.size))
            clear hbA
            go_simp
            refine hK.out _ _ (by exact (⟨(HB.out.cell (p := ⟨b, off, none⟩) hbl).trans HLx.out, (HB.out.cell (p := ⟨b, off + 1, none⟩) hbl).trans HLs.out⟩)) (fun hHeld => ?_)
            clear hK K
            (try simp only [Act.put, List.setIfInBounds_toArray, List.set_cons_zero, List.set_cons_succ])
            refine wpAnyH_ready (rs := [17, 19]) (by kernel_rfl) (by simp) ?_
            refine AllReadyH.cons (o := ?_) ?_ (fun K hK => ?_) ?_
            rotate_left 1
            · (simp only [List.getElem?_toArray, List.getElem?_cons_zero, List.getElem?_cons_succ]; try rfl)
            · have hfresh := E0.out.range
              refine step_app_bytes9 rfl (.tmp 23) (.tmp 25) rfl _ (Value.slice (some ⟨y3.heap.size, 0, none⟩) 0 0) [] T D N rc rfl rfl HN.out (by exact E0.out) (by exact HS.out.below HB.out) (by simp; omega) (by exact HB.out.size) ?_
              intro v9 y5 hown hg hv9
              have hg : World.grownBy (((y3).alloc (.cells #[] 5))) y5 (Value.slice (some ⟨y3.heap.size, 0, none⟩) 0 0).ownBlock := ⟨hg.os, hg.tape, hg.output, hg.size, hg.block⟩
              have hke := Keeps.of_grown hg
              have hown : Own y5 w1.heap.size v9 T := hown
              have HB := Lib.hid (HB.out.trans (hke.below (B := w1.heap.size) HB.out.size (fun k hk => (hfresh k hk).1)))
              obtain ⟨AV, cV, rfl, lV, kV, _, _, _⟩ := own_plain9 hown
              have VV := Lib.hid hown
              clear hke hg hown hfresh
              (try go_simp)
              refine hK.out _ _ (by exact (⟨(HB.out.cell (p := ⟨b, off, none⟩) hbl).trans HLx.out, (HB.out.cell (p := ⟨b, off + 1, none⟩) hbl).trans HLs.out⟩)) (fun hHeld => ?_)
              clear hK K
              (try simp only [Act.put, List.setIfInBounds_toArray, List.set_cons_zero, List.set_cons_succ])
              refine wpAnyH_take (i := 18) (oi := ?_) (v := ?_) ?_ ?_ ?_ ?_ ?_ ?_ (by exact hHeld) ?_
              rotate_left 2
              · (simp only [List.getElem?_toArray, List.getElem?_cons_zero, List.getElem?_cons_succ]; try rfl)
              · kernel_rfl
              · kernel_rfl
              · kernel_rfl
              · exact fun _ _ _ h => h
              · refine Or.inl ⟨by rfl, ?_⟩
                (intro V hSV; (try dsimp only at hSV); obtain ⟨q0, q1⟩ := hSV; go_simp; try with_reducible rfl)
              (try simp only [Act.put, List.setIfInBounds_toArray, List.set_cons_zero, List.set_cons_succ])
              refine wpAnyH_ready (rs := [19]) (by kernel_rfl) (by simp) ?_
              refine AllReadyH.cons (o := ?_) ?_ (fun K hK => ?_) AllReadyH.nil
              rotate_left 1
              · (simp only [List.getElem?_toArray, List.getElem?_cons_zero, List.getElem?_cons_succ]; try rfl)
              have HB0 := HB
              have VV0 := VV
              have hbA := (Below.refl (y5).heap.size (y5)).alloc (Nat.le_refl _) (.cells #[.int .i64 0, .int .i64 0, .int .i64 0, .int .i64 0, .int .i64 0, .slice none 0 0] 29)
              have hBX : Blk ((y5).alloc (.cells #[.int .i64 0, .int .i64 0, .int .i64 0, .int .i64 0, .int .i64 0, .slice none 0 0] 29)) (y5.heap.size) #[.int .i64 0, .int .i64 0, .int .i64 0, .int .i64 0, .int .i64 0, .slice none 0 0] 29 := by
                have h := Blk.new (y5) #[.int .i64 0, .int .i64 0, .int .i64 0, .int .i64 0, .int .i64 0, .slice none 0 0] 29
                first | exact h | simpa using h
              have BX := Lib.hid hBX
              have HLO : Hid (w1.heap.size ≤ y5.heap.size) := Lib.hid (by have h := HB.out.size; first | exact h | (simp; done) | (simp at h ⊢; omega))
              clear hBX
              have HVB : Hid (∀ k ∈ (Value.slice AV T.length cV).ownBlock.toList, k ≠ y5.heap.size) := Lib.hid (fun k hk e => by have h := (VV.out.range k hk).2; (try simp at h); omega)
              have HB := Lib.hid (HB.out.trans (hbA.mono HB.out.size))
              have VV := Lib.hid (VV.out.below hbA)
              clear hbA
              go_simp
              refine hK.out _ _ (by exact (⟨(HB.out.cell (p := ⟨b, off, none⟩) hbl).trans HLx.out, (HB.out.cell (p := ⟨b, off + 1, none⟩) hbl).trans HLs.out⟩)) (fun hHeld => ?_)
              clear hK K
              (try simp only [Act.put, List.setIfInBounds_toArray, List.set_cons_zero, List.set_cons_succ])
              have hbF := (Below.refl (y5).heap.size (y5)).alloc (Nat.le_refl _) (.cells #[.int .i64 x, .int .i64 s, .int .i64 p, .int .i64 q, .int .i64 r, .slice AV T.length cV] 29)
              have hBF : Blk (((y5).alloc (.cells #[.int .i64 x, .int .i64 s, .int .i64 p, .int .i64 q, .int .i64 r, .slice AV T.length cV] 29))) (y5.heap.size) #[.int .i64 x, .int .i64 s, .int .i64 p, .int .i64 q, .int .i64 r, .slice AV T.length cV] 29 := by
                have h := Blk.new (y5) #[.int .i64 x, .int .i64 s, .int .i64 p, .int .i64 q, .int .i64 r, .slice AV T.length cV] 29
                first | exact h | simpa using h
              have BF := Lib.hid hBF
              have VF := Lib.hid (VV0.out.below hbF)
              have HBF := Lib.hid (HB0.out.trans (hbF.mono HB0.out.size))
              have HB := HBF
              clear hbF hBF
              refine wpAnyH_ready (rs := [20]) (by kernel_rfl) (by simp) ?_
              refine AllReadyH.cons (o := ?_) ?_ (fun K hK => ?_) AllReadyH.nil
              rotate_left 1
              · (simp only [List.getElem?_toArray, List.getElem?_cons_zero, List.getElem?_cons_succ]; try rfl)
              go_simp
              refine hK.out _ _ (by exact (⟨(HB.out.cell (p := ⟨b, off, none⟩) hbl).trans HLx.out, (HB.out.cell (p := ⟨b, off + 1, none⟩) hbl).trans HLs.out⟩)) (fun hHeld => ?_)
              clear hK K
              (try simp only [Act.put, List.setIfInBounds_toArray, List.set_cons_zero, List.set_cons_succ])
              refine wpAnyH_done (by kernel_rfl) ?_ _
              refine NoPanic.normal ?_
              go_wp2_with fail
              go_meet
              exact ⟨y5.heap.size, AV, cV, rfl, BF.out, VF.out, HLO.out, HBF.out⟩
            refine AllReadyH.cons (o := ?_) ?_ (fun K hK => ?_) AllReadyH.nil
            rotate_left 1
            · (simp only [List.getElem?_toArray, List.getElem?_cons_zero, List.getElem?_cons_succ]; try rfl)
            have hbA := (Below.refl (((y3).alloc (.cells #[] 5))).heap.size (((y3).alloc (.cells #[] 5)))).alloc (Nat.le_refl _) (.cells #[.int .i64 0, .int .i64 0, .int .i64 0, .int .i64 0, .int .i64 0, .slice none 0 0] 29)
            have hBX : Blk ((((y3).alloc (.cells #[] 5))).alloc (.cells #[.int .i64 0, .int .i64 0, .int .i64 0, .int .i64 0, .int .i64 0, .slice none 0 0] 29)) (y3.heap.size + 1) #[.int .i64 0, .int .i64 0, .int .i64 0, .int .i64 0, .int .i64 0, .slice none 0 0] 29 := by
              have h := Blk.new (((y3).alloc (.cells #[] 5))) #[.int .i64 0, .int .i64 0, .int .i64 0, .int .i64 0, .int .i64 0, .slice none 0 0] 29
              first | exact h | simpa using h
            have BX := Lib.hid hBX
            have HLO : Hid (w1.heap.size ≤ y3.heap.size + 1) := Lib.hid (by have h := HB.out.size; first | exact h | (simp; done) | (simp at h ⊢; omega))
            clear hBX
            have HNE : Hid (y3.heap.size + 1 ≠ y3.heap.size) := Lib.hid (Nat.ne_of_gt (by have h := (E0.out.range (y3.heap.size) (by simp [Value.ownBlock])).2; first | exact h | (simp; done) | (simp at h ⊢; omega)))
            have HB := Lib.hid (HB.out.trans (hbA.mono HB.out.size))
            have E0 := Lib.hid (E0.out.below hbA)
            clear hbA
            go_simp
            refine hK.out _ _ (by exact (⟨(HB.out.cell (p := ⟨b, off, none⟩) hbl).trans HLx.out, (HB.out.cell (p := ⟨b, off + 1, none⟩) hbl).trans HLs.out⟩)) (fun hHeld => ?_)
            clear hK K
            (try simp only [Act.put, List.setIfInBounds_toArray, List.set_cons_zero, List.set_cons_succ])
            refine wpAnyH_ready (rs := [17]) (by kernel_rfl) (by simp) ?_
            refine AllReadyH.cons (o := ?_) ?_ (fun K hK => ?_) AllReadyH.nil
            rotate_left 1
            · (simp only [List.getElem?_toArray, List.getElem?_cons_zero, List.getElem?_cons_succ]; try rfl)
            have hfresh := E0.out.range
            refine step_app_bytes9 rfl (.tmp 23) (.tmp 25) rfl _ (Value.slice (some ⟨y3.heap.size, 0, none⟩) 0 0) [] T D N rc rfl rfl HN.out (by exact E0.out) (by exact HS.out.below HB.out) (by simp; omega) (by exact HB.out.size) ?_
            intro v9 y6 hown hg hv9
            have hg : World.grownBy (((((y3).alloc (.cells #[] 5))).alloc (.cells #[.int .i64 0, .int .i64 0, .int .i64 0, .int .i64 0, .int .i64 0, .slice none 0 0] 29))) y6 (Value.slice (some ⟨y3.heap.size, 0, none⟩) 0 0).ownBlock := ⟨hg.os, hg.tape, hg.output, hg.size, hg.block⟩
            have hke := Keeps.of_grown hg
            have hown : Own y6 w1.heap.size v9 T := hown
            have hbbl := BX.out.lt
            have BX := Lib.hid (BX.out.of_block (hke.block _ BX.out.lt (fun h => by first | (simp [Value.ownBlock] at h; done) | (have h2 := h; simp only [Value.ownBlock, Option.toList_some, List.mem_singleton] at h2; exact HNE.out h2))))
            have HB := Lib.hid (HB.out.trans (hke.below (B := w1.heap.size) HB.out.size (fun k hk => (hfresh k hk).1)))
            obtain ⟨AV, cV, rfl, lV, kV, _, _, _⟩ := own_plain9 hown
            have VV := Lib.hid hown
            have HVB : Hid (∀ k ∈ (Value.slice AV T.length cV).ownBlock.toList, k ≠ y3.heap.size + 1) := Lib.hid (fun k hk e => by
              rcases hv9 with h | h
              · have h3 : k = y3.heap.size := by rw [h] at hk; simpa [Value.ownBlock] using hk
                exact HNE.out (e.symm.trans h3)
              · have h3 : k = (((((y3).alloc (.cells #[] 5))).alloc (.cells #[.int .i64 0, .int .i64 0, .int .i64 0, .int .i64 0, .int .i64 0, .slice none 0 0] 29))).heap.size := by rw [h] at hk; simpa using hk
                have h2 : y3.heap.size + 1 < (((((y3).alloc (.cells #[] 5))).alloc (.cells #[.int .i64 0, .int .i64 0, .int .i64 0, .int .i64 0, .int .i64 0, .slice none 0 0] 29))).heap.size := hbbl
                omega)
            clear hbbl
            clear hke hg hown hfresh
            (try go_simp)
            refine hK.out _ _ (by exact (⟨(HB.out.cell (p := ⟨b, off, none⟩) hbl).trans HLx.out, (HB.out.cell (p := ⟨b, off + 1, none⟩) hbl).trans HLs.out⟩)) (fun hHeld => ?_)
            clear hK K
            (try simp only [Act.put, List.setIfInBounds_toArray, List.set_cons_zero, List.set_cons_succ])
            refine wpAnyH_take (i := 18) (oi := ?_) (v := ?_) ?_ ?_ ?_ ?_ ?_ ?_ (by exact hHeld) ?_
            rotate_left 2
            · (simp only [List.getElem?_toArray, List.getElem?_cons_zero, List.getElem?_cons_succ]; try rfl)
            · kernel_rfl
            · kernel_rfl
            · kernel_rfl
            · exact fun _ _ _ h => h
            · refine Or.inl ⟨by rfl, ?_⟩
              (intro V hSV; (try dsimp only at hSV); obtain ⟨q0, q1⟩ := hSV; go_simp; try with_reducible rfl)
            (try simp only [Act.put, List.setIfInBounds_toArray, List.set_cons_zero, List.set_cons_succ])
            have g0 := BX.out.cell 0
            have f0 := BX.out.frozen 0
            have g1 := BX.out.cell 1
            have f1 := BX.out.frozen 1
            have g2 := BX.out.cell 2
            have f2 := BX.out.frozen 2
            have g3 := BX.out.cell 3
            have f3 := BX.out.frozen 3
            have g4 := BX.out.cell 4
            have f4 := BX.out.frozen 4
            have g5 := BX.out.cell 5
            have f5 := BX.out.frozen 5
            have BF : Hid (Blk (((((((((((((y6).setCell ⟨y3.heap.size + 1, 0, none⟩ (.int .i64 x))).setCell ⟨y3.heap.size + 1, 1, none⟩ (.int .i64 s))).setCell ⟨y3.heap.size + 1, 2, none⟩ (.int .i64 p))).setCell ⟨y3.heap.size + 1, 3, none⟩ (.int .i64 q))).setCell ⟨y3.heap.size + 1, 4, none⟩ (.int .i64 r))).setCell ⟨y3.heap.size + 1, 5, none⟩ (.slice AV T.length cV))) (y3.heap.size + 1) #[.int .i64 x, .int .i64 s, .int .i64 p, .int .i64 q, .int .i64 r, .slice AV T.length cV] 29) := Lib.hid (by simpa using ((((((BX.out.set 0 (.int .i64 x)).set 1 (.int .i64 s)).set 2 (.int .i64 p)).set 3 (.int .i64 q)).set 4 (.int .i64 r)).set 5 (.slice AV T.length cV)))
            have HBF : Hid (Below w1.heap.size w1 (((((((((((((y6).setCell ⟨y3.heap.size + 1, 0, none⟩ (.int .i64 x))).setCell ⟨y3.heap.size + 1, 1, none⟩ (.int .i64 s))).setCell ⟨y3.heap.size + 1, 2, none⟩ (.int .i64 p))).setCell ⟨y3.heap.size + 1, 3, none⟩ (.int .i64 q))).setCell ⟨y3.heap.size + 1, 4, none⟩ (.int .i64 r))).setCell ⟨y3.heap.size + 1, 5, none⟩ (.slice AV T.length cV)))) := Lib.hid ((((((HB.out.setCell (p := ⟨y3.heap.size + 1, 0, none⟩) HLO.out (.int .i64 x)).setCell (p := ⟨y3.heap.size + 1, 1, none⟩) HLO.out (.int .i64 s)).setCell (p := ⟨y3.heap.size + 1, 2, none⟩) HLO.out (.int .i64 p)).setCell (p := ⟨y3.heap.size + 1, 3, none⟩) HLO.out (.int .i64 q)).setCell (p := ⟨y3.heap.size + 1, 4, none⟩) HLO.out (.int .i64 r)).setCell (p := ⟨y3.heap.size + 1, 5, none⟩) HLO.out (.slice AV T.length cV))
            have VF : Hid (Own (((((((((((((y6).setCell ⟨y3.heap.size + 1, 0, none⟩ (.int .i64 x))).setCell ⟨y3.heap.size + 1, 1, none⟩ (.int .i64 s))).setCell ⟨y3.heap.size + 1, 2, none⟩ (.int .i64 p))).setCell ⟨y3.heap.size + 1, 3, none⟩ (.int .i64 q))).setCell ⟨y3.heap.size + 1, 4, none⟩ (.int .i64 r))).setCell ⟨y3.heap.size + 1, 5, none⟩ (.slice AV T.length cV))) w1.heap.size (.slice AV T.length cV) T) := Lib.hid ((((((VV.out.heap (fun k hk => Below.heap_setCell _ ⟨y3.heap.size + 1, 0, none⟩ (.int .i64 x) k (fun e => HVB.out k hk e))).heap (fun k hk => Below.heap_setCell _ ⟨y3.heap.size + 1, 1, none⟩ (.int .i64 s) k (fun e => HVB.out k hk e))).heap (fun k hk => Below.heap_setCell _ ⟨y3.heap.size + 1, 2, none⟩ (.int .i64 p) k (fun e => HVB.out k hk e))).heap (fun k hk => Below.heap_setCell _ ⟨y3.heap.size + 1, 3, none⟩ (.int .i64 q) k (fun e => HVB.out k hk e))).heap (fun k hk => Below.heap_setCell _ ⟨y3.heap.size + 1, 4, none⟩ (.int .i64 r) k (fun e => HVB.out k hk e))).heap (fun k hk => Below.heap_setCell _ ⟨y3.heap.size + 1, 5, none⟩ (.slice AV T.length cV) k (fun e => HVB.out k hk e)))
            have HB := HBF
            refine wpAnyH_ready (rs := [20]) (by kernel_rfl) (by simp) ?_
            refine AllReadyH.cons (o := ?_) ?_ (fun K hK => ?_) AllReadyH.nil
            rotate_left 1
            · (simp only [List.getElem?_toArray, List.getElem?_cons_zero, List.getElem?_cons_succ]; try rfl)
            go_simp
            refine hK.out _ _ (by exact (⟨(HB.out.cell (p := ⟨b, off, none⟩) hbl).trans HLx.out, (HB.out.cell (p := ⟨b, off + 1, none⟩) hbl).trans HLs.out⟩)) (fun hHeld => ?_)
            clear hK K
            (try simp only [Act.put, List.setIfInBounds_toArray, List.set_cons_zero, List.set_cons_succ])
            refine wpAnyH_done (by kernel_rfl) ?_ _
            refine NoPanic.normal ?_
            go_wp2_with fail
            go_meet
            exact ⟨y3.heap.size + 1, AV, cV, rfl, BF.out, VF.out, HLO.out, HBF.out⟩
          refine AllReadyH.cons (o := ?_) ?_ (fun K hK => ?_) AllReadyH.nil
          rotate_left 1
          · (simp only [List.getElem?_toArray, List.getElem?_cons_zero, List.getElem?_cons_succ]; try rfl)
          have hbA := (Below.refl (y3).heap.size (y3)).alloc (Nat.le_refl _) (.cells #[.int .i64 0, .int .i64 0, .int .i64 0, .int .i64 0, .int .i64 0, .slice none 0 0] 29)
          have hBX : Blk ((y3).alloc (.cells #[.int .i64 0, .int .i64 0, .int .i64 0, .int .i64 0, .int .i64 0, .slice none 0 0] 29)) (y3.heap.size) #[.int .i64 0, .int .i64 0, .int .i64 0, .int .i64 0, .int .i64 0, .slice none 0 0] 29 := by
            have h := Blk.new (y3) #[.int .i64 0, .int .i64 0, .int .i64 0, .int .i64 0, .int .i64 0, .slice none 0 0] 29
            first | exact h | simpa using h
          have BX := Lib.hid hBX
          have HLO : Hid (w1.heap.size ≤ y3.heap.size) := Lib.hid (by have h := HB.out.size; first | exact h | (simp; done) | (simp at h ⊢; omega))
          clear hBX
          have HB := Lib.hid (HB.out.trans (hbA.mono HB.out.size))
          clear hbA
          go_simp
          refine hK.out _ _ (by exact (⟨(HB.out.cell (p := ⟨b, off, none⟩) hbl).trans HLx.out, (HB.out.cell (p := ⟨b, off + 1, none⟩) hbl).trans HLs.out⟩)) (fun hHeld => ?_)
          clear hK K
          (try simp only [Act.put, List.setIfInBounds_toArray, List.set_cons_zero, List.set_cons_succ])
          refine wpAnyH_ready (rs := [14]) (by kernel_rfl) (by simp) ?_
          refine AllReadyH.cons (o := ?_) ?_ (fun K hK => ?_) AllReadyH.nil
          rotate_left 1
          · (simp only [List.getElem?_toArray, List.getElem?_cons_zero, List.getElem?_cons_succ]; try rfl)
          have hbA := (Below.refl (((y3).alloc (.cells #[.int .i64 0, .int .i64 0, .int .i64 0, .int .i64 0, .int .i64 0, .slice none 0 0] 29))).heap.size (((y3).alloc (.cells #[.int .i64 0, .int .i64 0, .int .i64 0, .int .i64 0, .int .i64 0, .slice none 0 0] 29)))).alloc (Nat.le_refl _) (.cells #[] 5)
          have hE0 : Own ((((y3).alloc (.cells #[.int .i64 0, .int .i64 0, .int .i64 0, .int .i64 0, .int .i64 0, .slice none 0 0] 29))).alloc (.cells #[] 5)) w1.heap.size (.slice (some ⟨y3.heap.size + 1, 0, none⟩) 0 0) [] := by
            have h := Own.mono (show Own ((((y3).alloc (.cells #[.int .i64 0, .int .i64 0, .int .i64 0, .int .i64 0, .int .i64 0, .slice none 0 0] 29))).alloc (.cells #[] 5)) (((y3).alloc (.cells #[.int .i64 0, .int .i64 0, .int .i64 0, .int .i64 0, .int .i64 0, .slice none 0 0] 29))).heap.size (.slice (some ⟨(((y3).alloc (.cells #[.int .i64 0, .int .i64 0, .int .i64 0, .int .i64 0, .int .i64 0, .slice none 0 0] 29))).heap.size, 0, none⟩) 0 0) [] from Own.new (((y3).alloc (.cells #[.int .i64 0, .int .i64 0, .int .i64 0, .int .i64 0, .int .i64 0, .slice none 0 0] 29))) [] (by simp [maxLen])) (show w1.heap.size ≤ (((y3).alloc (.cells #[.int .i64 0, .int .i64 0, .int .i64 0, .int .i64 0, .int .i64 0, .slice none 0 0] 29))).heap.size from HB.out.size)
            first | exact h | simpa using h
          have E0 := Lib.hid hE0
          clear hE0
          have HNE : Hid (y3.heap.size ≠ y3.heap.size + 1) := Lib.hid (Nat.ne_of_lt (by have h := BX.out.lt; first | exact h | (simp; done) | (simp at h ⊢; omega)))
          have HB := Lib.hid (HB.out.trans (hbA.mono HB.out.size))
          have BX := Lib.hid (BX.out.below hbA)
          clear hbA
          go_simp
          refine hK.out _ _ (by exact (⟨(HB.out.cell (p := ⟨b, off, none⟩) hbl).trans HLx.out, (HB.out.cell (p := ⟨b, off + 1, none⟩) hbl).trans HLs.out⟩)) (fun hHeld => ?_)
          clear hK K
          (try simp only [Act.put, List.setIfInBounds_toArray, List.set_cons_zero, List.set_cons_succ])
          refine wpAnyH_ready (rs := [17]) (by kernel_rfl) (by simp) ?_
          refine AllReadyH.cons (o := ?_) ?_ (fun K hK => ?_) AllReadyH.nil
          rotate_left 1
          · (simp only [List.getElem?_toArray, List.getElem?_cons_zero, List.getElem?_cons_succ]; try rfl)
          have hfresh := E0.out.range
          refine step_app_bytes9 rfl (.tmp 23) (.tmp 25) rfl _ (Value.slice (some ⟨y3.heap.size + 1, 0, none⟩) 0 0) [] T D N rc rfl rfl HN.out (by exact E0.out) (by exact HS.out.below HB.out) (by simp; omega) (by exact HB.out.size) ?_
          intro v9 y8 hown hg hv9
          have hg : World.grownBy (((((y3).alloc (.cells #[.int .i64 0, .int .i64 0, .int .i64 0, .int .i64 0, .int .i64 0, .slice none 0 0] 29))).alloc (.cells #[] 5))) y8 (Value.slice (some ⟨y3.heap.size + 1, 0, none⟩) 0 0).ownBlock := ⟨hg.os, hg.tape, hg.output, hg.size, hg.block⟩
          have hke := Keeps.of_grown hg
          have hown : Own y8 w1.heap.size v9 T := hown
          have hbbl := BX.out.lt
          have BX := Lib.hid (BX.out.of_block (hke.block _ BX.out.lt (fun h => by first | (simp [Value.ownBlock] at h; done) | (have h2 := h; simp only [Value.ownBlock, Option.toList_some, List.mem_singleton] at h2; exact HNE.out h2))))
          have HB := Lib.hid (HB.out.trans (hke.below (B := w1.heap.size) HB.out.size (fun k hk => (hfresh k hk).1)))
          obtain ⟨AV, cV, rfl, lV, kV, _, _, _⟩ := own_plain9 hown
          have VV := Lib.hid hown
          have HVB : Hid (∀ k ∈ (Value.slice AV T.length cV).ownBlock.toList, k ≠ y3.heap.size) := Lib.hid (fun k hk e => by
            rcases hv9 with h | h
            · have h3 : k = y3.heap.size + 1 := by rw [h] at hk; simpa [Value.ownBlock] using hk
              exact HNE.out (e.symm.trans h3)
            · have h3 : k = (((((y3).alloc (.cells #[.int .i64 0, .int .i64 0, .int .i64 0, .int .i64 0, .int .i64 0, .slice none 0 0] 29))).alloc (.cells #[] 5))).heap.size := by rw [h] at hk; simpa using hk
              have h2 : y3.heap.size < (((((y3).alloc (.cells #[.int .i64 0, .int .i64 0, .int .i64 0, .int .i64 0, .int .i64 0, .slice none 0 0] 29))).alloc (.cells #[] 5))).heap.size := hbbl
              omega)
          clear hbbl
          clear hke hg hown hfresh
          (try go_simp)
          refine hK.out _ _ (by exact (⟨(HB.out.cell (p := ⟨b, off, none⟩) hbl).trans HLx.out, (HB.out.cell (p := ⟨b, off + 1, none⟩) hbl).trans HLs.out⟩)) (fun hHeld => ?_)
          clear hK K
          (try simp only [Act.put, List.setIfInBounds_toArray, List.set_cons_zero, List.set_cons_succ])
          refine wpAnyH_take (i := 18) (oi := ?_) (v := ?_) ?_ ?_ ?_ ?_ ?_ ?_ (by exact hHeld) ?_
          rotate_left 2
          · (simp only [List.getElem?_toArray, List.getElem?_cons_zero, List.getElem?_cons_succ]; try rfl)
          · kernel_rfl
          · kernel_rfl
          · kernel_rfl
          · exact fun _ _ _ h => h
          · refine Or.inl ⟨by rfl, ?_⟩
            (intro V hSV; (try dsimp only at hSV); obtain ⟨q0, q1⟩ := hSV; go_simp; try with_reducible rfl)
          (try simp only [Act.put, List.setIfInBounds_toArray, List.set_cons_zero, List.set_cons_succ])
          have g0 := BX.out.cell 0
          have f0 := BX.out.frozen 0
          have g1 := BX.out.cell 1
          have f1 := BX.out.frozen 1
          have g2 := BX.out.cell 2
          have f2 := BX.out.frozen 2
          have g3 := BX.out.cell 3
          have f3 := BX.out.frozen 3
          have g4 := BX.out.cell 4
          have f4 := BX.out.frozen 4
          have g5 := BX.out.cell 5
          have f5 := BX.out.frozen 5
          have BF : Hid (Blk (((((((((((((y8).setCell ⟨y3.heap.size, 0, none⟩ (.int .i64 x))).setCell ⟨y3.heap.size, 1, none⟩ (.int .i64 s))).setCell ⟨y3.heap.size, 2, none⟩ (.int .i64 p))).setCell ⟨y3.heap.size, 3, none⟩ (.int .i64 q))).setCell ⟨y3.heap.size, 4, none⟩ (.int .i64 r))).setCell ⟨y3.heap.size, 5, none⟩ (.slice AV T.length cV))) (y3.heap.size) #[.int .i64 x, .int .i64 s, .int .i64 p, .int .i64 q, .int .i64 r, .slice AV T.length cV] 29) := Lib.hid (by simpa using ((((((BX.out.set 0 (.int .i64 x)).set 1 (.int .i64 s)).set 2 (.int .i64 p)).set 3 (.int .i64 q)).set 4 (.int .i64 r)).set 5 (.slice AV T.length cV)))
          have HBF : Hid (Below w1.heap.size w1 (((((((((((((y8).setCell ⟨y3.heap.size, 0, none⟩ (.int .i64 x))).setCell ⟨y3.heap.size, 1, none⟩ (.int .i64 s))).setCell ⟨y3.heap.size, 2, none⟩ (.int .i64 p))).setCell ⟨y3.heap.size, 3, none⟩ (.int .i64 q))).setCell ⟨y3.heap.size, 4, none⟩ (.int .i64 r))).setCell ⟨y3.heap.size, 5, none⟩ (.slice AV T.length cV)))) := Lib.hid ((((((HB.out.setCell (p := ⟨y3.heap.size, 0, none⟩) HLO.out (.int .i64 x)).setCell (p := ⟨y3.heap.size, 1, none⟩) HLO.out (.int .i64 s)).setCell (p := ⟨y3.heap.size, 2, none⟩) HLO.out (.int .i64 p)).setCell (p := ⟨y3.heap.size, 3, none⟩) HLO.out (.int .i64 q)).setCell (p := ⟨y3.heap.size, 4, none⟩) HLO.out (.int .i64 r)).setCell (p := ⟨y3.heap.size, 5, none⟩) HLO.out (.slice AV T.length cV))
          have VF : Hid (Own (((((((((((((y8).setCell ⟨y3.heap.size, 0, none⟩ (.int .i64 x))).setCell ⟨y3.heap.size, 1, none⟩ (.int .i64 s))).setCell ⟨y3.heap.size, 2, none⟩ (.int .i64 p))).setCell ⟨y3.heap.size, 3, none⟩ (.int .i64 q))).setCell ⟨y3.heap.size, 4, none⟩ (.int .i64 r))).setCell ⟨y3.heap.size, 5, none⟩ (.slice AV T.length cV))) w1.heap.size (.slice AV T.length cV) T) := Lib.hid ((((((VV.out.heap (fun k hk => Below.heap_setCell _ ⟨y3.heap.size, 0, none⟩ (.int .i64 x) k (fun e => HVB.out k hk e))).heap (fun k hk => Below.heap_setCell _ ⟨y3.heap.size, 1, none⟩ (.int .i64 s) k (fun e => HVB.out k hk e))).heap (fun k hk => Below.heap_setCell _ ⟨y3.heap.size, 2, none⟩ (.int .i64 p) k (fun e => HVB.out k hk e))).heap (fun k hk => Below.heap_setCell _ ⟨y3.heap.size, 3, none⟩ (.int .i64 q) k (fun e => HVB.out k hk e))).heap (fun k hk => Below.heap_setCell _ ⟨y3.heap.size, 4, none⟩ (.int .i64 r) k (fun e => HVB.out k hk e))).heap (fun k hk => Below.heap_setCell _ ⟨y3.heap.size, 5, none⟩ (.slice AV T.length cV) k (fun e => HVB.out k hk e)))
          have HB := HBF
          refine wpAnyH_ready (rs := [20]) (by kernel_rfl) (by simp) ?_
          refine AllReadyH.cons (o := ?_) ?_ (fun K hK => ?_) AllReadyH.nil
          rotate_left 1
          · (simp only [List.getElem?_toArray, List.getElem?_cons_zero, List.getElem?_cons_succ]; try rfl)
          go_simp
          refine hK.out _ _ (by exact (⟨(HB.out.cell (p := ⟨b, off, none⟩) hbl).trans HLx.out, (HB.out.cell (p := ⟨b, off + 1, none⟩) hbl).trans HLs.out⟩)) (fun hHeld => ?_)
          clear hK K
          (try simp only [Act.put, List.setIfInBounds_toArray, List.set_cons_zero, List.set_cons_succ])
          refine wpAnyH_done (by kernel_rfl) ?_ _
          refine NoPanic.normal ?_
          go_wp2_with fail
          go_meet
          exact ⟨y3.heap.size, AV, cV, rfl, BF.out, VF.out, HLO.out, HBF.out⟩
        refine AllReadyH.cons (o := ?_) ?_ (fun K hK => ?_) ?_
        rotate_left 1
        · (simp only [List.getElem?_toArray, List.getElem?_cons_zero, List.getElem?_cons_succ]; try rfl)
        · have hbA := (Below.refl (y2).heap.size (y2)).alloc (Nat.le_refl _) (.cells #[] 5)
          have hE0 : Own ((y2).alloc (.cells #[] 5)) w1.heap.size (.slice (some ⟨y2.heap.size, 0, none⟩) 0 0) [] := by
            have h := Own.mono (show Own ((y2).alloc (.cells #[] 5)) (y2).heap.size (.slice (some ⟨(y2).heap.size, 0, none⟩) 0 0) [] from Own.new (y2) [] (by simp [maxLen])) (show w1.heap.size ≤ (y2).heap.size from HB.out.size)
            first | exact h | simpa using h
          have E0 := Lib.hid hE0
          clear hE0
          have HB := Lib.hid (HB.out.trans (hbA.mono HB.out.size))
          clear hbA
          go_simp
          refine hK.out _ _ (by exact (⟨(HB.out.cell (p := ⟨b, off, none⟩) hbl).trans HLx.out, (HB.out.cell (p := ⟨b, off + 1, none⟩) hbl).trans HLs.out⟩)) (fun hHeld => ?_)
          clear hK K
          (try simp only [Act.put, List.setIfInBounds_toArray, List.set_cons_zero, List.set_cons_succ])
          refine wpAnyH_ready (rs := [13, 19]) (by kernel_rfl) (by simp) ?_
          refine AllReadyH.cons (o := ?_) ?_ (fun K hK => ?_) ?_
          rotate_left 1
          · (simp only [List.getElem?_toArray, List.getElem?_cons_zero, List.getElem?_cons_succ]; try rfl)
          · go_simp
            refine (l09At_any (some ⟨b, off, none⟩) l c 6 _ hn9 (by omega) (by exact hA.below HB.out)).mono ?_
            rintro e y10 ⟨rfl, hE⟩
            have hb : Below (((y2).alloc (.cells #[] 5))).heap.size (((y2).alloc (.cells #[] 5))) y10 := by obtain ⟨n, rfl⟩ := hE; exact below_of_drewN _ n
            rw [HWr.out]
            have HB := Lib.hid (HB.out.trans (hb.mono HB.out.size))
            have E0 := Lib.hid (E0.out.below hb)
            clear hb hE
            go_wp2_with fail
            refine hK.out _ _ (by exact (⟨(HB.out.cell (p := ⟨b, off, none⟩) hbl).trans HLx.out, (HB.out.cell (p := ⟨b, off + 1, none⟩) hbl).trans HLs.out⟩)) (fun hHeld => ?_)
            clear hK K
            (try simp only [Act.put, List.setIfInBounds_toArray, List.set_cons_zero, List.set_cons_succ])
            refine wpAnyH_ready (rs := [17, 19]) (by kernel_rfl) (by simp) ?_
            refine AllReadyH.cons (o := ?_) ?_ (fun K hK => ?_) ?_
            rotate_left 1
            · (simp only [List.getElem?_toArray, List.getElem?_cons_zero, List.getElem?_cons_succ]; try rfl)
            · have hfresh := E0.out.range
              refine step_app_bytes9 rfl (.tmp 23) (.tmp 25) rfl _ (Value.slice (some ⟨y2.heap.size, 0, none⟩) 0 0) [] T D N rc rfl rfl HN.out (by exact E0.out) (by exact HS.out.below HB.out) (by simp; omega) (by exact HB.out.size) ?_
              intro v9 y11 hown hg hv9
              have hg : World.grownBy (y10) y11 (Value.slice (some ⟨y2.heap.size, 0, none⟩) 0 0).ownBlock := ⟨hg.os, hg.tape, hg.output, hg.size, hg.block⟩
              have hke := Keeps.of_grown hg
              have hown : Own y11 w1.heap.size v9 T := hown
              have HB := Lib.hid (HB.out.trans (hke.below (B := w1.heap.size) HB.out.size (fun k hk => (hfresh k hk).1)))
              obtain ⟨AV, cV, rfl, lV, kV, _, _, _⟩ := own_plain9 hown
              have VV := Lib.hid hown
              clear hke hg hown hfresh
              (try go_simp)
              refine hK.out _ _ (by exact (⟨(HB.out.cell (p := ⟨b, off, none⟩) hbl).trans HLx.out, (HB.out.cell (p := ⟨b, off + 1, none⟩) hbl).trans HLs.out⟩)) (fun hHeld => ?_)
              clear hK K
              (try simp only [Act.put, List.setIfInBounds_toArray, List.set_cons_zero, List.set_cons_succ])
              refine wpAnyH_take (i := 18) (oi := ?_) (v := ?_) ?_ ?_ ?_ ?_ ?_ ?_ (by exact hHeld) ?_
              rotate_left 2
              · (simp only [List.getElem?_toArray, List.getElem?_cons_zero, List.getElem?_cons_succ]; try rfl)
              · kernel_rfl
              · kernel_rfl
              · kernel_rfl
              · exact fun _ _ _ h => h
              · refine Or.inl ⟨by rfl, ?_⟩
                (intro V hSV; (try dsimp only at hSV); obtain ⟨q0, q1⟩ := hSV; go_simp; try with_reducible rfl)
              (try simp only [Act.put, List.setIfInBounds_toArray, List.set_cons_zero, List.set_cons_succ])
              refine wpAnyH_ready (rs := [19]) (by kernel_rfl) (by simp) ?_
              refine AllReadyH.cons (o := ?_) ?_ (fun K hK => ?_) AllReadyH.nil
              rotate_left 1
              · (simp only [List.getElem?_toArray, List.getElem?_cons_zero, List.getElem?_cons_succ]; try rfl)
              have HB0 := HB
              have VV0 := VV
              have hbA := (Below.refl (y11).heap.size (y11)).alloc (Nat.le_refl _) (.cells #[.int .i64 0, .int .i64 0, .int .i64 0, .int .i64 0, .int .i64 0, .slice none 0 0] 29)
              have hBX : Blk ((y11).alloc (.cells #[.int .i64 0, .int .i64 0, .int .i64 0, .int .i64 0, .int .i64 0, .slice none 0 0] 29)) (y11.heap.size) #[.int .i64 0, .int .i64 0, .int .i64 0, .int .i64 0, .int .i64 0, .slice none 0 0] 29 := by
                have h := Blk.new (y11) #[.int .i64 0, .int .i64 0, .int .i64 0, .int .i64 0, .int .i64 0, .slice none 0 0] 29
                first | exact h | simpa using h
              have BX := Lib.hid hBX
              have HLO : Hid (w1.heap.size ≤ y11.heap.size) := Lib.hid (by have h := HB.out.size; first | exact h | (simp; done) | (simp at h ⊢; omega))
              clear hBX
              have HVB : Hid (∀ k ∈ (Value.slice AV T.length cV).ownBlock.toList, k ≠ y11.heap.size) := Lib.hid (fun k hk e => by have h := (VV.out.range k hk).2; (try simp at h); omega)
              have HB := Lib.hid (HB.out.trans (hbA.mono HB.out.size))
              have VV := Lib.hid (VV.out.below hbA)
              clear hbA
              go_simp
              refine hK.out _ _ (by exact (⟨(HB.out.cell (p := ⟨b, off, none⟩) hbl).trans HLx.out, (HB.out.cell (p := ⟨b, off + 1, none⟩) hbl).trans HLs.out⟩)) (fun hHeld => ?_)
              clear hK K
              (try simp only [Act.put, List.setIfInBounds_toArray, List.set_cons_zero, List.set_cons_succ])
              have hbF := (Below.refl (y11).heap.size (y11)).alloc (Nat.le_refl _) (.cells #[.int .i64 x, .int .i64 s, .int .i64 p, .int .i64 q, .int .i64 r, .slice AV T.length cV] 29)
              have hBF : Blk (((y11).alloc (.cells #[.int .i64 x, .int .i64 s, .int .i64 p, .int .i64 q, .int .i64 r, .slice AV T.length cV] 29))) (y11.heap.size) #[.int .i64 x, .int .i64 s, .int .i64 p, .int .i64 q, .int .i64 r, .slice AV T.length cV] 29 := by
                have h := Blk.new (y11) #[.int .i64 x, .int .i64 s, .int .i64 p, .int .i64 q, .int .i64 r, .slice AV T.length cV] 29
                first | exact h | simpa using h
              have BF := Lib.hid hBF
              have VF := Lib.hid (VV0.out.below hbF)
              have HBF := Lib.hid (HB0.out.trans (hbF.mono HB0.out.size))
              have HB := HBF
              clear hbF hBF
              refine wpAnyH_ready (rs := [20]) (by kernel_rfl) (by simp) ?_
              refine AllReadyH.cons (o := ?_) ?_ (fun K hK => ?_) AllReadyH.nil
              rotate_left 1
              · (simp only [List.getElem?_toArray, List.getElem?_cons_zero, List.getElem?_cons_succ]; try rfl)
              go_simp
              refine hK.out _ _ (by exact (⟨(HB.out.cell (p := ⟨b, off, none⟩) hbl).trans HLx.out, (HB.out.cell (p := ⟨b, off + 1, none⟩) hbl).trans HLs.out⟩)) (fun hHeld => ?_)
              clear hK K
              (try simp only [Act.put, List.setIfInBounds_toArray, List.set_cons_zero, List.set_cons_succ])
              refine wpAnyH_done (by kernel_rfl) ?_ _
              refine NoPanic.normal ?_
              go_wp2_with fail
              go_meet
              exact ⟨y11.heap.size, AV, cV, rfl, BF.out, VF.out, HLO.out, HBF.out⟩
            refine AllReadyH.cons (o := ?_) ?_ (fun K hK => ?_) AllReadyH.nil
            rotate_left 1
            · (simp only [List.getElem?_toArray, List.getElem?_cons_zero, List.getElem?_cons_succ]; try rfl)
            have hbA := (Below.refl (y10).heap.size (y10)).alloc (Nat.le_refl _) (.cells #[.int .i64 0, .int .i64 0, .int .i64 0, .int .i64 0, .int .i64 0, .slice none 0 0] 29)
            have hBX : Blk ((y10).alloc (.cells #[.int .i64 0, .int .i64 0, .int .i64 0, .int .i64 0, .int .i64 0, .slice none 0 0] 29)) (y10.heap.size) #[.int .i64 0, .int .i64 0, .int .i64 0, .int .i64 0, .int .i64 0, .slice none 0 0] 29 := by
              have h := Blk.new (y10) #[.int .i64 0, .int .i64 0, .int .i64 0, .int .i64 0, .int .i64 0, .slice none 0 0] 29
              first | exact h | simpa using h
            have BX := Lib.hid hBX
            have HLO : Hid (w1.heap.size ≤ y10.heap.size) := Lib.hid (by have h := HB.out.size; first | exact h | (simp; done) | (simp at h ⊢; omega))
            clear hBX
            have HNE : Hid (y10.heap.size ≠ y2.heap.size) := Lib.hid (Nat.ne_of_gt (by have h := (E0.out.range (y2.heap.size) (by simp [Value.ownBlock])).2; first | exact h | (simp; done) | (simp at h ⊢; omega)))
            have HB := Lib.hid (HB.out.trans (hbA.mono HB.out.size))
            have E0 := Lib.hid (E0.out.below hbA)
            clear hbA
            go_simp
            refine hK.out _ _ (by exact (⟨(HB.out.cell (p := ⟨b, off, none⟩) hbl).trans HLx.out, (HB.out.cell (p := ⟨b, off + 1, none⟩) hbl).trans HLs.out⟩)) (fun hHeld => ?_)
            clear hK K
            (try simp only [Act.put, List.setIfInBounds_toArray, List.set_cons_zero, List.set_cons_succ])
            refine wpAnyH_ready (rs := [17]) (by kernel_rfl) (by simp) ?_
            refine AllReadyH.cons (o := ?_) ?_ (fun K hK => ?_) AllReadyH.nil
            rotate_left 1
            · (simp only [List.getElem?_toArray, List.getElem?_cons_zero, List.getElem?_cons_succ]; try rfl)
            have hfresh := E0.out.range
            refine step_app_bytes9 rfl (.tmp 23) (.tmp 25) rfl _ (Value.slice (some ⟨y2.heap.size, 0, none⟩) 0 0) [] T D N rc rfl rfl HN.out (by exact E0.out) (by exact HS.out.below HB.out) (by simp; omega) (by exact HB.out.size) ?_
            intro v9 y12 hown hg hv9
            have hg : World.grownBy (((y10).alloc (.cells #[.int .i64 0, .int .i64 0, .int .i64 0, .int .i64 0, .int .i64 0, .slice none 0 0] 29))) y12 (Value.slice (some ⟨y2.heap.size, 0, none⟩) 0 0).ownBlock := ⟨hg.os, hg.tape, hg.output, hg.size, hg.block⟩
            have hke := Keeps.of_grown hg
            have hown : Own y12 w1.heap.size v9 T := hown
            have hbbl := BX.out.lt
            have BX := Lib.hid (BX.out.of_block (hke.block _ BX.out.lt (fun h => by first | (simp [Value.ownBlock] at h; done) | (have h2 := h; simp only [Value.ownBlock, Option.toList_some, List.mem_singleton] at h2; exact HNE.out h2))))
            have HB := Lib.hid (HB.out.trans (hke.below (B := w1.heap.size) HB.out.size (fun k hk => (hfresh k hk).1)))
            obtain ⟨AV, cV, rfl, lV, kV, _, _, _⟩ := own_plain9 hown
            have VV := Lib.hid hown
            have HVB : Hid (∀ k ∈ (Value.slice AV T.length cV).ownBlock.toList, k ≠ y10.heap.size) := Lib.hid (fun k hk e => by
              rcases hv9 with h | h
              · have h3 : k = y2.heap.size := by rw [h] at hk; simpa [Value.ownBlock] using hk
                exact HNE.out (e.symm.trans h3)
              · have h3 : k = (((y10).alloc (.cells #[.int .i64 0, .int .i64 0, .int .i64 0, .int .i64 0, .int .i64 0, .slice none 0 0] 29))).heap.size := by rw [h] at hk; simpa using hk
                have h2 : y10.heap.size < (((y10).alloc (.cells #[.int .i64 0, .int .i64 0, .int .i64 0, .int .i64 0, .int .i64 0, .slice none 0 0] 29))).heap.size := hbbl
                omega)
            clear hbbl
            clear hke hg hown hfresh
            (try go_simp)
            refine hK.out _ _ (by exact (⟨(HB.out.cell (p := ⟨b, off, none⟩) hbl).trans HLx.out, (HB.out.cell (p := ⟨b, off + 1, none⟩) hbl).trans HLs.out⟩)) (fun hHeld => ?_)
            clear hK K
            (try simp only [Act.put, List.setIfInBounds_toArray, List.set_cons_zero, List.set_cons_succ])
            refine wpAnyH_take (i := 18) (oi := ?_) (v := ?_) ?_ ?_ ?_ ?_ ?_ ?_ (by exact hHeld) ?_
            rotate_left 2
            · (simp only [List.getElem?_toArray, List.getElem?_cons_zero, List.getElem?_cons_succ]; try rfl)
            · kernel_rfl
            · kernel_rfl
            · kernel_rfl
            · exact fun _ _ _ h => h
            · refine Or.inl ⟨by rfl, ?_⟩
              (intro V hSV; (try dsimp only at hSV); obtain ⟨q0, q1⟩ := hSV; go_simp; try with_reducible rfl)
            (try simp only [Act.put, List.setIfInBounds_toArray, List.set_cons_zero, List.set_cons_succ])
            have g0 := BX.out.cell 0
            have f0 := BX.out.frozen 0
            have g1 := BX.out.cell 1
            have f1 := BX.out.frozen 1
            have g2 := BX.out.cell 2
            have f2 := BX.out.frozen 2
            have g3 := BX.out.cell 3
            have f3 := BX.out.frozen 3
            have g4 := BX.out.cell 4
            have f4 := BX.out.frozen 4
            have g5 := BX.out.cell 5
            have f5 := BX.out.frozen 5
            have BF : Hid (Blk (((((((((((((y12).setCell ⟨y10.heap.size, 0, none⟩ (.int .i64 x))).setCell ⟨y10.heap.size, 1, none⟩ (.int .i64 s))).setCell ⟨y10.heap.size, 2, none⟩ (.int .i64 p))).setCell ⟨y10.heap.size, 3, none⟩ (.int .i64 q))).setCell ⟨y10.heap.size, 4, none⟩ (.int .i64 r))).setCell ⟨y10.heap.size, 5, none⟩ (.slice AV T.length cV))) (y10.heap.size) #[.int .i64 x, .int .i64 s, .int .i64 p, .int .i64 q, .int .i64 r, .slice AV T.length cV] 29) := Lib.hid (by simpa using ((((((BX.out.set 0 (.int .i64 x)).set 1 (.int .i64 s)).set 2 (.int .i64 p)).set 3 (.int .i64 q)).set 4 (.int .i64 r)).set 5 (.slice AV T.length cV)))
            have HBF : Hid (Below w1.heap.size w1 (((((((((((((y12).setCell ⟨y10.heap.size, 0, none⟩ (.int .i64 x))).setCell ⟨y10.heap.size, 1, none⟩ (.int .i64 s))).setCell ⟨y10.heap.size, 2, none⟩ (.int .i64 p))).setCell ⟨y10.heap.size, 3, none⟩ (.int .i64 q))).setCell ⟨y10.heap.size, 4, none⟩ (.int .i64 r))).setCell ⟨y10.heap.size, 5, none⟩ (.slice AV T.length cV)))) := Lib.hid ((((((HB.out.setCell (p := ⟨y10.heap.size, 0, none⟩) HLO.out (.int .i64 x)).setCell (p := ⟨y10.heap.size, 1, none⟩) HLO.out (.int .i64 s)).setCell (p := ⟨y10.heap.size, 2, none⟩) HLO.out (.int .i64 p)).setCell (p := ⟨y10.heap.size, 3, none⟩) HLO.out (.int .i64 q)).setCell (p := ⟨y10.heap.size, 4, none⟩) HLO.out (.int .i64 r)).setCell (p := ⟨y10.heap.size, 5, none⟩) HLO.out (.slice AV T.length cV))
            have VF : Hid (Own (((((((((((((y12).setCell ⟨y10.heap.size, 0, none⟩ (.int .i64 x))).setCell ⟨y10.heap.size, 1, none⟩ (.int .i64 s))).setCell ⟨y10.heap.size, 2, none⟩ (.int .i64 p))).setCell ⟨y10.heap.size, 3, none⟩ (.int .i64 q))).setCell ⟨y10.heap.size, 4, none⟩ (.int .i64 r))).setCell ⟨y10.heap.size, 5, none⟩ (.slice AV T.length cV))) w1.heap.size (.slice AV T.length cV) T) := Lib.hid ((((((VV.out.heap (fun k hk => Below.heap_setCell _ ⟨y10.heap.size, 0, none⟩ (.int .i64 x) k (fun e => HVB.out k hk e))).heap (fun k hk => Below.heap_setCell _ ⟨y10.heap.size, 1, none⟩ (.int .i64 s) k (fun e => HVB.out k hk e))).heap (fun k hk => Below.heap_setCell _ ⟨y10.heap.size, 2, none⟩ (.int .i64 p) k (fun e => HVB.out k hk e))).heap (fun k hk => Below.heap_setCell _ ⟨y10.heap.size, 3, none⟩ (.int .i64 q) k (fun e => HVB.out k hk e))).heap (fun k hk => Below.heap_setCell _ ⟨y10.heap.size, 4, none⟩ (.int .i64 r) k (fun e => HVB.out k hk e))).heap (fun k hk => Below.heap_setCell _ ⟨y10.heap.size, 5, none⟩ (.slice AV T.length cV) k (fun e => HVB.out k hk e)))
            have HB := HBF
            refine wpAnyH_ready (rs := [20]) (by kernel_rfl) (by simp) ?_
            refine AllReadyH.cons (o := ?_) ?_ (fun K hK => ?_) AllReadyH.nil
            rotate_left 1
            · (simp only [List.getElem?_toArray, List.getElem?_cons_zero, List.getElem?_cons_succ]; try rfl)
            go_simp
            refine hK.out _ _ (by exact (⟨(HB.out.cell (p := ⟨b, off, none⟩) hbl).trans HLx.out, (HB.out.cell (p := ⟨b, off + 1, none⟩) hbl).trans HLs.out⟩)) (fun hHeld => ?_)
            clear hK K
            (try simp only [Act.put, List.setIfInBounds_toArray, List.set_cons_zero, List.set_cons_succ])
            refine wpAnyH_done (by kernel_rfl) ?_ _
            refine NoPanic.normal ?_
            go_wp2_with fail
            go_meet
            exact ⟨y10.heap.size, AV, cV, rfl, BF.out, VF.out, HLO.out, HBF.out⟩
          refine AllReadyH.cons (o := ?_) ?_ (fun K hK => ?_) AllReadyH.nil
          rotate_left 1
          · (simp only [List.getElem?_toArray, List.getElem?_cons_zero, List.getElem?_cons_succ]; try rfl)
          have hbA := (Below.refl (((y2).alloc (.cells #[] 5))).heap.size (((y2).alloc (.cells #[] 5)))).alloc (Nat.le_refl _) (.cells #[.int .i64 0, .int .i64 0, .int .i64 0, .int .i64 0, .int .i64 0, .slice none 0 0] 29)
          have hBX : Blk ((((y2).alloc (.cells #[] 5))).alloc (.cells #[.int .i64 0, .int .i64 0, .int .i64 0, .int .i64 0, .int .i64 0, .slice none 0 0] 29)) (y2.heap.size + 1) #[.int .i64 0, .int .i64 0, .int .i64 0, .int .i64 0, .int .i64 0, .slice none 0 0] 29 := by
            have h := Blk.new (((y2).alloc (.cells #[] 5))) #[.int .i64 0, .int .i64 0, .int .i64 0, .int .i64 0, .int .i64 0, .slice none 0 0] 29
            first | exact h | simpa using h
          have BX := Lib.hid hBX
          have HLO : Hid (w1.heap.size ≤ y2.heap.size + 1) := Lib.hid (by have h := HB.out.size; first | exact h | (simp; done) | (simp at h ⊢; omega))
          clear hBX
          have HNE : Hid (y2.heap.size + 1 ≠ y2.heap.size) := Lib.hid (Nat.ne_of_gt (by have h := (E0.out.range (y2.heap.size) (by simp [Value.ownBlock])).2; first | exact h | (simp; done) | (simp at h ⊢; omega)))
          have HB := Lib.hid (HB.out.trans (hbA.mono HB.out.size))
          have E0 := Lib.hid (E0.out.below hbA)
          clear hbA
          go_simp
          refine hK.out _ _ (by exact (⟨(HB.out.cell (p := ⟨b, off, none⟩) hbl).trans HLx.out, (HB.out.cell (p := ⟨b, off + 1, none⟩) hbl).trans HLs.out⟩)) (fun hHeld => ?_)
          clear hK K
          (try simp only [Act.put, List.setIfInBounds_toArray, List.set_cons_zero, List.set_cons_succ])
          refine wpAnyH_ready (rs := [13]) (by kernel_rfl) (by simp) ?_
          refine AllReadyH.cons (o := ?_) ?_ (fun K hK => ?_) AllReadyH.nil
          rotate_left 1
          · (simp only [List.getElem?_toArray, List.getElem?_cons_zero, List.getElem?_cons_succ]; try rfl)
          go_simp
          refine (l09At_any (some ⟨b, off, none⟩) l c 6 _ hn9 (by omega) (by exact hA.below HB.out)).mono ?_
          rintro e y13 ⟨rfl, hE⟩
          have hb : Below (((((y2).alloc (.cells #[] 5))).alloc (.cells #[.int .i64 0, .int .i64 0, .int .i64 0, .int .i64 0, .int .i64 0, .slice none 0 0] 29))).heap.size (((((y2).alloc (.cells #[] 5))).alloc (.cells #[.int .i64 0, .int .i64 0, .int .i64 0, .int .i64 0, .int .i64 0, .slice none 0 0] 29))) y13 := by obtain ⟨n, rfl⟩ := hE; exact below_of_drewN _ n
          rw [HWr.out]
          have HB := Lib.hid (HB.out.trans (hb.mono HB.out.size))
          have E0 := Lib.hid (E0.out.below hb)
          have BX := Lib.hid (BX.out.below hb)
          clear hb hE
          go_wp2_with fail
          refine hK.out _ _ (by exact (⟨(HB.out.cell (p := ⟨b, off, none⟩) hbl).trans HLx.out, (HB.out.cell (p := ⟨b, off + 1, none⟩) hbl).trans HLs.out⟩)) (fun hHeld => ?_)
          clear hK K
          (try simp only [Act.put, List.setIfInBounds_toArray, List.set_cons_zero, List.set_cons_succ])
          refine wpAnyH_ready (rs := [17]) (by kernel_rfl) (by simp) ?_
          refine AllReadyH.cons (o := ?_) ?_ (fun K hK => ?_) AllReadyH.nil
          rotate_left 1
          · (simp only [List.getElem?_toArray, List.getElem?_cons_zero, List.getElem?_cons_succ]; try rfl)
          have hfresh := E0.out.range
          refine step_app_bytes9 rfl (.tmp 23) (.tmp 25) rfl _ (Value.slice (some ⟨y2.heap.size, 0, none⟩) 0 0) [] T D N rc rfl rfl HN.out (by exact E0.out) (by exact HS.out.below HB.out) (by simp; omega) (by exact HB.out.size) ?_
          intro v9 y14 hown hg hv9
          have hg : World.grownBy (y13) y14 (Value.slice (some ⟨y2.heap.size, 0, none⟩) 0 0).ownBlock := ⟨hg.os, hg.tape, hg.output, hg.size, hg.block⟩
          have hke := Keeps.of_grown hg
          have hown : Own y14 w1.heap.size v9 T := hown
          have hbbl := BX.out.lt
          have BX := Lib.hid (BX.out.of_block (hke.block _ BX.out.lt (fun h => by first | (simp [Value.ownBlock] at h; done) | (have h2 := h; simp only [Value.ownBlock, Option.toList_some, List.mem_singleton] at h2; exact HNE.out h2))))
          have HB := Lib.hid (HB.out.trans (hke.below (B := w1.heap.size) HB.out.size (fun k hk => (hfresh k hk).1)))
          obtain ⟨AV, cV, rfl, lV, kV, _, _, _⟩ := own_plain9 hown
          have VV := Lib.hid hown
          have HVB : Hid (∀ k ∈ (Value.slice AV T.length cV).ownBlock.toList, k ≠ y2.heap.size + 1) := Lib.hid (fun k hk e => by
            rcases hv9 with h | h
            · have h3 : k = y2.heap.size := by rw [h] at hk; simpa [Value.ownBlock] using hk
              exact HNE.out (e.symm.trans h3)
            · have h3 : k = (y13).heap.size := by rw [h] at hk; simpa using hk
              have h2 : y2.heap.size + 1 < (y13).heap.size := hbbl
              omega)
          clear hbbl
          clear hke hg hown hfresh
          (try go_simp)
          refine hK.out _ _ (by exact (⟨(HB.out.cell (p := ⟨b, off, none⟩) hbl).trans HLx.out, (HB.out.cell (p := ⟨b, off + 1, none⟩) hbl).trans HLs.out⟩)) (fun hHeld => ?_)
          clear hK K
          (try simp only [Act.put, List.setIfInBounds_toArray, List.set_cons_zero, List.set_cons_succ])
          refine wpAnyH_take (i := 18) (oi := ?_) (v := ?_) ?_ ?_ ?_ ?_ ?_ ?_ (by exact hHeld) ?_
          rotate_left 2
          · (simp only [List.getElem?_toArray, List.getElem?_cons_zero, List.getElem?_cons_succ]; try rfl)
          · kernel_rfl
          · kernel_rfl
          · kernel_rfl
          · exact fun _ _ _ h => h
          · refine Or.inl ⟨by rfl, ?_⟩
            (intro V hSV; (try dsimp only at hSV); obtain ⟨q0, q1⟩ := hSV; go_simp; try with_reducible rfl)
          (try simp only [Act.put, List.setIfInBounds_toArray, List.set_cons_zero, List.set_cons_succ])
          have g0 := BX.out.cell 0
          have f0 := BX.out.frozen 0
          have g1 := BX.out.cell 1
          have f1 := BX.out.frozen 1
          have g2 := BX.out.cell 2
          have f2 := BX.out.frozen 2
          have g3 := BX.out.cell 3
          have f3 := BX.out.frozen 3
          have g4 := BX.out.cell 4
          have f4 := BX.out.frozen 4
          have g5 := BX.out.cell 5
          have f5 := BX.out.frozen 5
          have BF : Hid (Blk (((((((((((((y14).setCell ⟨y2.heap.size + 1, 0, none⟩ (.int .i64 x))).setCell ⟨y2.heap.size + 1, 1, none⟩ (.int .i64 s))).setCell ⟨y2.heap.size + 1, 2, none⟩ (.int .i64 p))).setCell ⟨y2.heap.size + 1, 3, none⟩ (.int .i64 q))).setCell ⟨y2.heap.size + 1, 4, none⟩ (.int .i64 r))).setCell ⟨y2.heap.size + 1, 5, none⟩ (.slice AV T.length cV))) (y2.heap.size + 1) #[.int .i64 x, .int .i64 s, .int .i64 p, .int .i64 q, .int .i64 r, .slice AV T.length cV] 29) := Lib.hid (by simpa using ((((((BX.out.set 0 (.int .i64 x)).set 1 (.int .i64 s)).set 2 (.int .i64 p)).set 3 (.int .i64 q)).set 4 (.int .i64 r)).set 5 (.slice AV T.length cV)))
          have HBF : Hid (Below w1.heap.size w1 (((((((((((((y14).setCell ⟨y2.heap.size + 1, 0, none⟩ (.int .i64 x))).setCell ⟨y2.heap.size + 1, 1, none⟩ (.int .i64 s))).setCell ⟨y2.heap.size + 1, 2, none⟩ (.int .i64 p))).setCell ⟨y2.heap.size + 1, 3, none⟩ (.int .i64 q))).setCell ⟨y2.heap.size + 1, 4, none⟩ (.int .i64 r))).setCell ⟨y2.heap.size + 1, 5, none⟩ (.slice AV T.length cV)))) := Lib.hid ((((((HB.out.setCell (p := ⟨y2.heap.size + 1, 0, none⟩) HLO.out (.int .i64 x)).setCell (p := ⟨y2.heap.size + 1, 1, none⟩) HLO.out (.int .i64 s)).setCell (p := ⟨y2.heap.size + 1, 2, none⟩) HLO.out (.int .i64 p)).setCell (p := ⟨y2.heap.size + 1, 3, none⟩) HLO.out (.int .i64 q)).setCell (p := ⟨y2.heap.size + 1, 4, none⟩) HLO.out (.int .i64 r)).setCell (p := ⟨y2.heap.size + 1, 5, none⟩) HLO.out (.slice AV T.length cV))
          have VF : Hid (Own (((((((((((((y14).setCell ⟨y2.heap.size + 1, 0, none⟩ (.int .i64 x))).setCell ⟨y2.heap.size + 1, 1, none⟩ (.int .i64 s))).setCell ⟨y2.heap.size + 1, 2, none⟩ (.int .i64 p))).setCell ⟨y2.heap.size + 1, 3, none⟩ (.int .i64 q))).setCell ⟨y2.heap.size + 1, 4, none⟩ (.int .i64 r))).setCell ⟨y2.heap.size + 1, 5, none⟩ (.slice AV T.length cV))) w1.heap.size (.slice AV T.length cV) T) := Lib.hid ((((((VV.out.heap (fun k hk => Below.heap_setCell _ ⟨y2.heap.size + 1, 0, none⟩ (.int .i64 x) k (fun e => HVB.out k hk e))).heap (fun k hk => Below.heap_setCell _ ⟨y2.heap.size + 1, 1, none⟩ (.int .i64 s) k (fun e => HVB.out k hk e))).heap (fun k hk => Below.heap_setCell _ ⟨y2.heap.size + 1, 2, none⟩ (.int .i64 p) k (fun e => HVB.out k hk e))).heap (fun k hk => Below.heap_setCell _ ⟨y2.heap.size + 1, 3, none⟩ (.int .i64 q) k (fun e => HVB.out k hk e))).heap (fun k hk => Below.heap_setCell _ ⟨y2.heap.size + 1, 4, none⟩ (.int .i64 r) k (fun e => HVB.out k hk e))).heap (fun k hk => Below.heap_setCell _ ⟨y2.heap.size + 1, 5, none⟩ (.slice AV T.length cV) k (fun e => HVB.out k hk e)))
          have HB := HBF
          refine wpAnyH_ready (rs := [20]) (by kernel_rfl) (by simp) ?_
          refine AllReadyH.cons (o := ?_) ?_ (fun K hK => ?_) AllReadyH.nil
          rotate_left 1
          · (simp only [List.getElem?_toArray, List.getElem?_cons_zero, List.getElem?_cons_succ]; try rfl)
          go_simp
          refine hK.out _ _ (by exact (⟨(HB.out.cell (p := ⟨b, off, none⟩) hbl).trans HLx.out, (HB.out.cell (p := ⟨b, off + 1, none⟩) hbl).trans HLs.out⟩)) (fun hHeld => ?_)
          clear hK K
          (try simp only [Act.put, List.setIfInBounds_toArray, List.set_cons_zero, List.set_cons_succ])
          refine wpAnyH_done (by kernel_rfl) ?_ _
          refine NoPanic.normal ?_
          go_wp2_with fail
          go_meet
          exact ⟨y2.heap.size + 1, AV, cV, rfl, BF.out, VF.out, HLO.out, HBF.out⟩
        refine AllReadyH.cons (o := ?_) ?_ (fun K hK => ?_) AllReadyH.nil
        rotate_left 1
        · (simp only [List.getElem?_toArray, List.getElem?_cons_zero, List.getElem?_cons_succ]; try rfl)
        have hbA := (Below.refl (y2).heap.size (y2)).alloc (Nat.le_refl _) (.cells #[.int .i64 0, .int .i64 0, .int .i64 0, .int .i64 0, .int .i64 0, .slice none 0 0] 29)
        have hBX : Blk ((y2).alloc (.cells #[.int .i64 0, .int .i64 0, .int .i64 0, .int .i64 0, .int .i64 0, .slice none 0 0] 29)) (y2.heap.size) #[.int .i64 0, .int .i64 0, .int .i64 0, .int .i64 0, .int .i64 0, .slice none 0 0] 29 := by
          have h := Blk.new (y2) #[.int .i64 0, .int .i64 0, .int .i64 0, .int .i64 0, .int .i64 0, .slice none 0 0] 29
          first | exact h | simpa using h
        have BX := Lib.hid hBX
        have HLO : Hid (w1.heap.size ≤ y2.heap.size) := Lib.hid (by have h := HB.out.size; first | exact h | (simp; done) | (simp at h ⊢; omega))
        clear hBX
        have HB := Lib.hid (HB.out.trans (hbA.mono HB.out.size))
        clear hbA
        go_simp
        refine hK.out _ _ (by exact (⟨(HB.out.cell (p := ⟨b, off, none⟩) hbl).trans HLx.out, (HB.out.cell (p := ⟨b, off + 1, none⟩) hbl).trans HLs.out⟩)) (fun hHeld => ?_)
        clear hK K
        (try simp only [Act.put, List.setIfInBounds_toArray, List.set_cons_zero, List.set_cons_succ])
        refine wpAnyH_ready (rs := [13, 14]) (by kernel_rfl) (by simp) ?_
        refine AllReadyH.cons (o := ?_) ?_ (fun K hK => ?_) ?_
        rotate_left 1
        · (simp only [List.getElem?_toArray, List.getElem?_cons_zero, List.getElem?_cons_succ]; try rfl)
        · go_simp
          refine (l09At_any (some ⟨b, off, none⟩) l c 6 _ hn9 (by omega) (by exact hA.below HB.out)).mono ?_
          rintro e y15 ⟨rfl, hE⟩
          have hb : Below (((y2).alloc (.cells #[.int .i64 0, .int .i64 0, .int .i64 0, .int .i64 0, .int .i64 0, .slice none 0 0] 29))).heap.size (((y2).alloc (.cells #[.int .i64 0, .int .i64 0, .int .i64 0, .int .i64 0, .int .i64 0, .slice none 0 0] 29))) y15 := by obtain ⟨n, rfl⟩ := hE; exact below_of_drewN _ n
          rw [HWr.out]
          have HB := Lib.hid (HB.out.trans (hb.mono HB.out.size))
          have BX := Lib.hid (BX.out.below hb)
          clear hb hE
          go_wp2_with fail
          refine hK.out _ _ (by exact (⟨(HB.out.cell (p := ⟨b, off, none⟩) hbl).trans HLx.out, (HB.out.cell (p := ⟨b, off + 1, none⟩) hbl).trans HLs.out⟩)) (fun hHeld => ?_)
          clear hK K
          (try simp only [Act.put, List.setIfInBounds_toArray, List.set_cons_zero, List.set_cons_succ])
          refine wpAnyH_ready (rs := [14]) (by kernel_rfl) (by simp) ?_
          refine AllReadyH.cons (o := ?_) ?_ (fun K hK => ?_) AllReadyH.nil
          rotate_left 1
          · (simp only [List.getElem?_toArray, List.getElem?_cons_zero, List.getElem?_cons_succ]; try rfl)
          have hbA := (Below.refl (y15).heap.size (y15)).alloc (Nat.le_refl _) (.cells #[] 5)
          have hE0 : Own ((y15).alloc (.cells #[] 5)) w1.heap.size (.slice (some ⟨y15.heap.size, 0, none⟩) 0 0) [] := by
            have h := Own.mono (show Own ((y15).alloc (.cells #[] 5)) (y15).heap.size (.slice (some ⟨(y15).heap.size, 0, none⟩) 0 0) [] from Own.new (y15) [] (by simp [maxLen])) (show w1.heap.size ≤ (y15).heap.size from HB.out.size)
            first | exact h | simpa using h
          have E0 := Lib.hid hE0
          clear hE0
          have HNE : Hid (y2.heap.size ≠ y15.heap.size) := Lib.hid (Nat.ne_of_lt (by have h := BX.out.lt; first | exact h | (simp; done) | (simp at h ⊢; omega)))
          have HB := Lib.hid (HB.out.trans (hbA.mono HB.out.size))
          have BX := Lib.hid (BX.out.below hbA)
          clear hbA
          go_simp
          refine hK.out _ _ (by exact (⟨(HB.out.cell (p := ⟨b, off, none⟩) hbl).trans HLx.out, (HB.out.cell (p := ⟨b, off + 1, none⟩) hbl).trans HLs.out⟩)) (fun hHeld => ?_)
          clear hK K
          (try simp only [Act.put, List.setIfInBounds_toArray, List.set_cons_zero, List.set_cons_succ])
          refine wpAnyH_ready (rs := [17]) (by kernel_rfl) (by simp) ?_
          refine AllReadyH.cons (o := ?_) ?_ (fun K hK => ?_) AllReadyH.nil
          rotate_left 1
          · (simp only [List.getElem?_toArray, List.getElem?_cons_zero, List.getElem?_cons_succ]; try rfl)
          have hfresh := E0.out.range
          refine step_app_bytes9 rfl (.tmp 23) (.tmp 25) rfl _ (Value.slice (some ⟨y15.heap.size, 0, none⟩) 0 0) [] T D N rc rfl rfl HN.out (by exact E0.out) (by exact HS.out.below HB.out) (by simp; omega) (by exact HB.out.size) ?_
          intro v9 y17 hown hg hv9
          have hg : World.grownBy (((y15).alloc (.cells #[] 5))) y17 (Value.slice (some ⟨y15.heap.size, 0, none⟩) 0 0).ownBlock := ⟨hg.os, hg.tape, hg.output, hg.size, hg.block⟩
          have hke := Keeps.of_grown hg
          have hown : Own y17 w1.heap.size v9 T := hown
          have hbbl := BX.out.lt
          have BX := Lib.hid (BX.out.of_block (hke.block _ BX.out.lt (fun h => by first | (simp [Value.ownBlock] at h; done) | (have h2 := h; simp only [Value.ownBlock, Option.toList_some, List.mem_singleton] at h2; exact HNE.out h2))))
          have HB := Lib.hid (HB.out.trans (hke.below (B := w1.heap.size) HB.out.size (fun k hk => (hfresh k hk).1)))
          obtain ⟨AV, cV, rfl, lV, kV, _, _, _⟩ := own_plain9 hown
          have VV := Lib.hid hown
          have HVB : Hid (∀ k ∈ (Value.slice AV T.length cV).ownBlock.toList, k ≠ y2.heap.size) := Lib.hid (fun k hk e => by
            rcases hv9 with h | h
            · have h3 : k = y15.heap.size := by rw [h] at hk; simpa [Value.ownBlock] using hk
              exact HNE.out (e.symm.trans h3)
            · have h3 : k = (((y15).alloc (.cells #[] 5))).heap.size := by rw [h] at hk; simpa using hk
              have h2 : y2.heap.size < (((y15).alloc (.cells #[] 5))).heap.size := hbbl
              omega)
          clear hbbl
          clear hke hg hown hfresh
          (try go_simp)
          refine hK.out _ _ (by exact (⟨(HB.out.cell (p := ⟨b, off, none⟩) hbl).trans HLx.out, (HB.out.cell (p := ⟨b, off + 1, none⟩) hbl).trans HLs.out⟩)) (fun hHeld => ?_)
          clear hK K
          (try simp only [Act.put, List.setIfInBounds_toArray, List.set_cons_zero, List.set_cons_succ])
          refine wpAnyH_take (i := 18) (oi := ?_) (v := ?_) ?_ ?_ ?_ ?_ ?_ ?_ (by exact hHeld) ?_
          rotate_left 2
          · (simp only [List.getElem?_toArray, List.getElem?_cons_zero, List.getElem?_cons_succ]; try rfl)
          · kernel_rfl
          · kernel_rfl
          · kernel_rfl
          · exact fun _ _ _ h => h
          · refine Or.inl ⟨by rfl, ?_⟩
            (intro V hSV; (try dsimp only at hSV); obtain ⟨q0, q1⟩ := hSV; go_simp; try with_reducible rfl)
          (try simp only [Act.put, List.setIfInBounds_toArray, List.set_cons_zero, List.set_cons_succ])
          have g0 := BX.out.cell 0
          have f0 := BX.out.frozen 0
          have g1 := BX.out.cell 1
          have f1 := BX.out.frozen 1
          have g2 := BX.out.cell 2
          have f2 := BX.out.frozen 2
          have g3 := BX.out.cell 3
          have f3 := BX.out.frozen 3
          have g4 := BX.out.cell 4
          have f4 := BX.out.frozen 4
          have g5 := BX.out.cell 5
          have f5 := BX.out.frozen 5
          have BF : Hid (Blk (((((((((((((y17).setCell ⟨y2.heap.size, 0, none⟩ (.int .i64 x))).setCell ⟨y2.heap.size, 1, none⟩ (.int .i64 s))).setCell ⟨y2.heap.size, 2, none⟩ (.int .i64 p))).setCell ⟨y2.heap.size, 3, none⟩ (.int .i64 q))).setCell ⟨y2.heap.size, 4, none⟩ (.int .i64 r))).setCell ⟨y2.heap.size, 5, none⟩ (.slice AV T.length cV))) (y2.heap.size) #[.int .i64 x, .int .i64 s, .int .i64 p, .int .i64 q, .int .i64 r, .slice AV T.length cV] 29) := Lib.hid (by simpa using ((((((BX.out.set 0 (.int .i64 x)).set 1 (.int .i64 s)).set 2 (.int .i64 p)).set 3 (.int .i64 q)).set 4 (.int .i64 r)).set 5 (.slice AV T.length cV)))
          have HBF : Hid (Below w1.heap.size w1 (((((((((((((y17).setCell ⟨y2.heap.size, 0, none⟩ (.int .i64 x))).setCell ⟨y2.heap.size, 1, none⟩ (.int .i64 s))).setCell ⟨y2.heap.size, 2, none⟩ (.int .i64 p))).setCell ⟨y2.heap.size, 3, none⟩ (.int .i64 q))).setCell ⟨y2.heap.size, 4, none⟩ (.int .i64 r))).setCell ⟨y2.heap.size, 5, none⟩ (.slice AV T.length cV)))) := Lib.hid ((((((HB.out.setCell (p := ⟨y2.heap.size, 0, none⟩) HLO.out (.int .i64 x)).setCell (p := ⟨y2.heap.size, 1, none⟩) HLO.out (.int .i64 s)).setCell (p := ⟨y2.heap.size, 2, none⟩) HLO.out (.int .i64 p)).setCell (p := ⟨y2.heap.size, 3, none⟩) HLO.out (.int .i64 q)).setCell (p := ⟨y2.heap.size, 4, none⟩) HLO.out (.int .i64 r)).setCell (p := ⟨y2.heap.size, 5, none⟩) HLO.out (.slice AV T.length cV))
          have VF : Hid (Own (((((((((((((y17).setCell ⟨y2.heap.size, 0, none⟩ (.int .i64 x))).setCell ⟨y2.heap.size, 1, none⟩ (.int .i64 s))).setCell ⟨y2.heap.size, 2, none⟩ (.int .i64 p))).setCell ⟨y2.heap.size, 3, none⟩ (.int .i64 q))).setCell ⟨y2.heap.size, 4, none⟩ (.int .i64 r))).setCell ⟨y2.heap.size, 5, none⟩ (.slice AV T.length cV))) w1.heap.size (.slice AV T.length cV) T) := Lib.hid ((((((VV.out.heap (fun k hk => Below.heap_setCell _ ⟨y2.heap.size, 0, none⟩ (.int .i64 x) k (fun e => HVB.out k hk e))).heap (fun k hk => Below.heap_setCell _ ⟨y2.heap.size, 1, none⟩ (.int .i64 s) k (fun e => HVB.out k hk e))).heap (fun k hk => Below.heap_setCell _ ⟨y2.heap.size, 2, none⟩ (.int .i64 p) k (fun e => HVB.out k hk e))).heap (fun k hk => Below.heap_setCell _ ⟨y2.heap.size, 3, none⟩ (.int .i64 q) k (fun e => HVB.out k hk e))).heap (fun k hk => Below.heap_setCell _ ⟨y2.heap.size, 4, none⟩ (.int .i64 r) k (fun e => HVB.out k hk e))).heap (fun k hk => Below.heap_setCell _ ⟨y2.heap.size, 5, none⟩ (.slice AV T.length cV) k (fun e => HVB.out k hk e)))
          have HB := HBF
          refine wpAnyH_ready (rs := [20]) (by kernel_rfl) (by simp) ?_
          refine AllReadyH.cons (o := ?_) ?_ (fun K hK => ?_) AllReadyH.nil
          rotate_left 1
          · (simp only [List.getElem?_toArray, List.getElem?_cons_zero, List.getElem?_cons_succ]; try rfl)
          go_simp
          refine hK.out _ _ (by exact (⟨(HB.out.cell (p := ⟨b, off, none⟩) hbl).trans HLx.out, (HB.out.cell (p := ⟨b, off + 1, none⟩) hbl).trans HLs.out⟩)) (fun hHeld => ?_)
          clear hK K
          (try simp only [Act.put, List.setIfInBounds_toArray, List.set_cons_zero, List.set_cons_succ])
          refine wpAnyH_done (by kernel_rfl) ?_ _
          refine NoPanic.normal ?_
          go_wp2_with fail
          go_meet
          exact ⟨y2.heap.size, AV, cV, rfl, BF.out, VF.out, HLO.out, HBF.out⟩
        refine AllReadyH.cons (o := ?_) ?_ (fun K hK => ?_) AllReadyH.nil
        rotate_left 1
        · (simp only [List.getElem?_toArray, List.getElem?_cons_zero, List.getElem?_cons_succ]; try rfl)
        have hbA := (Below.refl (((y2).alloc (.cells #[.int .i64 0, .int .i64 0, .int .i64 0, .int .i64 0, .int .i64 0, .slice none 0 0] 29))).heap.size (((y2).alloc (.cells #[.int .i64 0, .int .i64 0, .int .i64 0, .int .i64 0, .int .i64 0, .slice none 0 0] 29)))).alloc (Nat.le_refl _) (.cells #[] 5)
        have hE0 : Own ((((y2).alloc (.cells #[.int .i64 0, .int .i64 0, .int .i64 0, .int .i64 0, .int .i64 0, .slice none 0 0] 29))).alloc (.cells #[] 5)) w1.heap.size (.slice (some ⟨y2.heap.size + 1, 0, none⟩) 0 0) [] := by
          have h := Own.mono (show Own ((((y2).alloc (.cells #[.int .i64 0, .int .i64 0, .int .i64 0, .int .i64 0, .int .i64 0, .slice none 0 0] 29))).alloc (.cells #[] 5)) (((y2).alloc (.cells #[.int .i64 0, .int .i64 0, .int .i64 0, .int .i64 0, .int .i64 0, .slice none 0 0] 29))).heap.size (.slice (some ⟨(((y2).alloc (.cells #[.int .i64 0, .int .i64 0, .int .i64 0, .int .i64 0, .int .i64 0, .slice none 0 0] 29))).heap.size, 0, none⟩) 0 0) [] from Own.new (((y2).alloc (.cells #[.int .i64 0, .int .i64 0, .int .i64 0, .int .i64 0, .int .i64 0, .slice none 0 0] 29))) [] (by simp [maxLen])) (show w1.heap.size ≤ (((y2).alloc (.cells #[.int .i64 0, .int .i64 0, .int .i64 0, .int .i64 0, .int .i64 0, .slice none 0 0] 29))).heap.size from HB.out.size)
          first | exact h | simpa using h
        have E0 := Lib.hid hE0
        clear hE0
        have HNE : Hid (y2.heap.size ≠ y2.heap.size + 1) := Lib.hid (Nat.ne_of_lt (by have h := BX.out.lt; first | exact h | (simp; done) | (simp at h ⊢; omega)))
        have HB := Lib.hid (HB.out.trans (hbA.mono HB.out.size))
        have BX := Lib.hid (BX.out.below hbA)
        clear hbA
        go_simp
        refine hK.out _ _ (by exact (⟨(HB.out.cell (p := ⟨b, off, none⟩) hbl).trans HLx.out, (HB.out.cell (p := ⟨b, off + 1, none⟩) hbl).trans HLs.out⟩)) (fun hHeld => ?_)
        clear hK K
        (try simp only [Act.put, List.setIfInBounds_toArray, List.set_cons_zero, List.set_cons_succ])
        refine wpAnyH_ready (rs := [13]) (by kernel_rfl) (by simp) ?_
        refine AllReadyH.cons (o := ?_) ?_ (fun K hK => ?_) AllReadyH.nil
        rotate_left 1
        · (simp only [List.getElem?_toArray, List.getElem?_cons_zero, List.getElem?_cons_succ]; try rfl)
        go_simp
        refine (l09At_any (some ⟨b, off, none⟩) l c 6 _ hn9 (by omega) (by exact hA.below HB.out)).mono ?_
        rintro e y19 ⟨rfl, hE⟩
        have hb : Below (((((y2).alloc (.cells #[.int .i64 0, .int .i64 0, .int .i64 0, .int .i64 0, .int .i64 0, .slice none 0 0] 29))).alloc (.cells #[] 5))).heap.size (((((y2).alloc (.cells #[.int .i64 0, .int .i64 0, .int .i64 0, .int .i64 0, .int .i64 0, .slice none 0 0] 29))).alloc (.cells #[] 5))) y19 := by obtain ⟨n, rfl⟩ := hE; exact below_of_drewN _ n
        rw [HWr.out]
        have HB := Lib.hid (HB.out.trans (hb.mono HB.out.size))
        have BX := Lib.hid (BX.out.below hb)
        have E0 := Lib.hid (E0.out.below hb)
        clear hb hE
        go_wp2_with fail
        refine hK.out _ _ (by exact (⟨(HB.out.cell (p := ⟨b, off, none⟩) hbl).trans HLx.out, (HB.out.cell (p := ⟨b, off + 1, none⟩) hbl).trans HLs.out⟩)) (fun hHeld => ?_)
        clear hK K
        (try simp only [Act.put, List.setIfInBounds_toArray, List.set_cons_zero, List.set_cons_succ])
        refine wpAnyH_ready (rs := [17]) (by kernel_rfl) (by simp) ?_
        refine AllReadyH.cons (o := ?_) ?_ (fun K hK => ?_) AllReadyH.nil
        rotate_left 1
        · (simp only [List.getElem?_toArray, List.getElem?_cons_zero, List.getElem?_cons_succ]; try rfl)
        have hfresh := E0.out.range
        refine step_app_bytes9 rfl (.tmp 23) (.tmp 25) rfl _ (Value.slice (some ⟨y2.heap.size + 1, 0, none⟩) 0 0) [] T D N rc rfl rfl HN.out (by exact E0.out) (by exact HS.out.below HB.out) (by simp; omega) (by exact HB.out.size) ?_
        intro v9 y20 hown hg hv9
        have hg : World.grownBy (y19) y20 (Value.slice (some ⟨y2.heap.size + 1, 0, none⟩) 0 0).ownBlock := ⟨hg.os, hg.tape, hg.output, hg.size, hg.block⟩
        have hke := Keeps.of_grown hg
        have hown : Own y20 w1.heap.size v9 T := hown
        have hbbl := BX.out.lt
        have BX := Lib.hid (BX.out.of_block (hke.block _ BX.out.lt (fun h => by first | (simp [Value.ownBlock] at h; done) | (have h2 := h; simp only [Value.ownBlock, Option.toList_some, List.mem_singleton] at h2; exact HNE.out h2))))
        have HB := Lib.hid (HB.out.trans (hke.below (B := w1.heap.size) HB.out.size (fun k hk => (hfresh k hk).1)))
        obtain ⟨AV, cV, rfl, lV, kV, _, _, _⟩ := own_plain9 hown
        have VV := Lib.hid hown
        have HVB : Hid (∀ k ∈ (Value.slice AV T.length cV).ownBlock.toList, k ≠ y2.heap.size) := Lib.hid (fun k hk e => by
          rcases hv9 with h | h
          · have h3 : k = y2.heap.size + 1 := by rw [h] at hk; simpa [Value.ownBlock] using hk
            exact HNE.out (e.symm.trans h3)
          · have h3 : k = (y19).heap.size := by rw [h] at hk; simpa using hk
            have h2 : y2.heap.size < (y19).heap.size := hbbl
            omega)
        clear hbbl
        clear hke hg hown hfresh
        (try go_simp)
        refine hK.out _ _ (by exact (⟨(HB.out.cell (p := ⟨b, off, none⟩) hbl).trans HLx.out, (HB.out.cell (p := ⟨b, off + 1, none⟩) hbl).trans HLs.out⟩)) (fun hHeld => ?_)
        clear hK K
        (try simp only [Act.put, List.setIfInBounds_toArray, List.set_cons_zero, List.set_cons_succ])
        refine wpAnyH_take (i := 18) (oi := ?_) (v := ?_) ?_ ?_ ?_ ?_ ?_ ?_ (by exact hHeld) ?_
        rotate_left 2
        · (simp only [List.getElem?_toArray, List.getElem?_cons_zero, List.getElem?_cons_succ]; try rfl)
        · kernel_rfl
        · kernel_rfl
        · kernel_rfl
        · exact fun _ _ _ h => h
        · refine Or.inl ⟨by rfl, ?_⟩
          (intro V hSV; (try dsimp only at hSV); obtain ⟨q0, q1⟩ := hSV; go_simp; try with_reducible rfl)
        (try simp only [Act.put, List.setIfInBounds_toArray, List.set_cons_zero, List.set_cons_succ])
        have g0 := BX.out.cell 0
        have f0 := BX.out.frozen 0
        have g1 := BX.out.cell 1
        have f1 := BX.out.frozen 1
        have g2 := BX.out.cell 2
        have f2 := BX.out.frozen 2
        have g3 := BX.out.cell 3
        have f3 := BX.out.frozen 3
        have g4 := BX.out.cell 4
        have f4 := BX.out.frozen 4
        have g5 := BX.out.cell 5
        have f5 := BX.out.frozen 5
        have BF : Hid (Blk (((((((((((((y20).setCell ⟨y2.heap.size, 0, none⟩ (.int .i64 x))).setCell ⟨y2.heap.size, 1, none⟩ (.int .i64 s))).setCell ⟨y2.heap.size, 2, none⟩ (.int .i64 p))).setCell ⟨y2.heap.size, 3, none⟩ (.int .i64 q))).setCell ⟨y2.heap.size, 4, none⟩ (.int .i64 r))).setCell ⟨y2.heap.size, 5, none⟩ (.slice AV T.length cV))) (y2.heap.size) #[.int .i64 x, .int .i64 s, .int .i64 p, .int .i64 q, .int .i64 r, .slice AV T.length cV] 29) := Lib.hid (by simpa using ((((((BX.out.set 0 (.int .i64 x)).set 1 (.int .i64 s)).set 2 (.int .i64 p)).set 3 (.int .i64 q)).set 4 (.int .i64 r)).set 5 (.slice AV T.length cV)))
        have HBF : Hid (Below w1.heap.size w1 (((((((((((((y20).setCell ⟨y2.heap.size, 0, none⟩ (.int .i64 x))).setCell ⟨y2.heap.size, 1, none⟩ (.int .i64 s))).setCell ⟨y2.heap.size, 2, none⟩ (.int .i64 p))).setCell ⟨y2.heap.size, 3, none⟩ (.int .i64 q))).setCell ⟨y2.heap.size, 4, none⟩ (.int .i64 r))).setCell ⟨y2.heap.size, 5, none⟩ (.slice AV T.length cV)))) := Lib.hid ((((((HB.out.setCell (p := ⟨y2.heap.size, 0, none⟩) HLO.out (.int .i64 x)).setCell (p := ⟨y2.heap.size, 1, none⟩) HLO.out (.int .i64 s)).setCell (p := ⟨y2.heap.size, 2, none⟩) HLO.out (.int .i64 p)).setCell (p := ⟨y2.heap.size, 3, none⟩) HLO.out (.int .i64 q)).setCell (p := ⟨y2.heap.size, 4, none⟩) HLO.out (.int .i64 r)).setCell (p := ⟨y2.heap.size, 5, none⟩) HLO.out (.slice AV T.length cV))
        have VF : Hid (Own (((((((((((((y20).setCell ⟨y2.heap.size, 0, none⟩ (.int .i64 x))).setCell ⟨y2.heap.size, 1, none⟩ (.int .i64 s))).setCell ⟨y2.heap.size, 2, none⟩ (.int .i64 p))).setCell ⟨y2.heap.size, 3, none⟩ (.int .i64 q))).setCell ⟨y2.heap.size, 4, none⟩ (.int .i64 r))).setCell ⟨y2.heap.size, 5, none⟩ (.slice AV T.length cV))) w1.heap.size (.slice AV T.length cV) T) := Lib.hid ((((((VV.out.heap (fun k hk => Below.heap_setCell _ ⟨y2.heap.size, 0, none⟩ (.int .i64 x) k (fun e => HVB.out k hk e))).heap (fun k hk => Below.heap_setCell _ ⟨y2.heap.size, 1, none⟩ (.int .i64 s) k (fun e => HVB.out k hk e))).heap (fun k hk => Below.heap_setCell _ ⟨y2.heap.size, 2, none⟩ (.int .i64 p) k (fun e => HVB.out k hk e))).heap (fun k hk => Below.heap_setCell _ ⟨y2.heap.size, 3, none⟩ (.int .i64 q) k (fun e => HVB.out k hk e))).heap (fun k hk => Below.heap_setCell _ ⟨y2.heap.size, 4, none⟩ (.int .i64 r) k (fun e => HVB.out k hk e))).heap (fun k hk => Below.heap_setCell _ ⟨y2.heap.size, 5, none⟩ (.slice AV T.length cV) k (fun e => HVB.out k hk e)))
        have HB := HBF
        refine wpAnyH_ready (rs := [20]) (by kernel_rfl) (by simp) ?_
        refine AllReadyH.cons (o := ?_) ?_ (fun K hK => ?_) AllReadyH.nil
        rotate_left 1
        · (simp only [List.getElem?_toArray, List.getElem?_cons_zero, List.getElem?_cons_succ]; try rfl)
        go_simp
        refine hK.out _ _ (by exact (⟨(HB.out.cell (p := ⟨b, off, none⟩) hbl).trans HLx.out, (HB.out.cell (p := ⟨b, off + 1, none⟩) hbl).trans HLs.out⟩)) (fun hHeld => ?_)
        clear hK K
        (try simp only [Act.put, List.setIfInBounds_toArray, List.set_cons_zero, List.set_cons_succ])
        refine wpAnyH_done (by kernel_rfl) ?_ _
        refine NoPanic.normal ?_
        go_wp2_with fail
        go_meet
        exact ⟨y2.heap.size, AV, cV, rfl, BF.out, VF.out, HLO.out, HBF.out⟩
      refine AllReadyH.cons (o := ?_) ?_ (fun K hK => ?_) ?_
      rotate_left 1
      · (simp only [List.getElem?_toArray, List.getElem?_cons_zero, List.getElem?_cons_succ]; try rfl)
      · have hbA := (Below.refl (y1).heap.size (y1)).alloc (Nat.le_refl _) (.cells #[] 5)
        have hE0 : Own ((y1).alloc (.cells #[] 5)) w1.heap.size (.slice (some ⟨y1.heap.size, 0, none⟩) 0 0) [] := by
          have h := Own.mono (show Own ((y1).alloc (.cells #[] 5)) (y1).heap.size (.slice (some ⟨(y1).heap.size, 0, none⟩) 0 0) [] from Own.new (y1) [] (by simp [maxLen])) (show w1.heap.size ≤ (y1).heap.size from HB.out.size)
          first | exact h | simpa using h
        have E0 := Lib.hid hE0
        clear hE0
        have HB := Lib.hid (HB.out.trans (hbA.mono HB.out.size))
        clear hbA
        go_simp
        refine hK.out _ _ (by exact (⟨(HB.out.cell (p := ⟨b, off, none⟩) hbl).trans HLx.out, (HB.out.cell (p := ⟨b, off + 1, none⟩) hbl).trans HLs.out⟩)) (fun hHeld => ?_)
        clear hK K
        (try simp only [Act.put, List.setIfInBounds_toArray, List.set_cons_zero, List.set_cons_succ])
        refine wpAnyH_ready (rs := [11, 19]) (by kernel_rfl) (by simp) ?_
        refine AllReadyH.cons (o := ?_) ?_ (fun K hK => ?_) ?_
        rotate_left 1
        · (simp only [List.getElem?_toArray, List.getElem?_cons_zero, List.getElem?_cons_succ]; try rfl)
        · go_simp
          refine (l09At_any (some ⟨b, off, none⟩) l c 4 _ hn9 (by omega) (by exact hA.below HB.out)).mono ?_
          rintro e y22 ⟨rfl, hE⟩
          have hb : Below (((y1).alloc (.cells #[] 5))).heap.size (((y1).alloc (.cells #[] 5))) y22 := by obtain ⟨n, rfl⟩ := hE; exact below_of_drewN _ n
          rw [HWq.out]
          have HB := Lib.hid (HB.out.trans (hb.mono HB.out.size))
          have E0 := Lib.hid (E0.out.below hb)
          clear hb hE
          go_wp2_with fail
          refine hK.out _ _ (by exact (⟨(HB.out.cell (p := ⟨b, off, none⟩) hbl).trans HLx.out, (HB.out.cell (p := ⟨b, off + 1, none⟩) hbl).trans HLs.out⟩)) (fun hHeld => ?_)
          clear hK K
          (try simp only [Act.put, List.setIfInBounds_toArray, List.set_cons_zero, List.set_cons_succ])
          refine wpAnyH_ready (rs := [13, 19]) (by kernel_rfl) (by simp) ?_
          refine AllReadyH.cons (o := ?_) ?_ (fun K hK => ?_) ?_
          rotate_left 1
          · (simp only [List.getElem?_toArray, List.getElem?_cons_zero, List.getElem?_cons_succ]; try rfl)
          · go_simp
            refine (l09At_any (some ⟨b, off, none⟩) l c 6 _ hn9 (by omega) (by exact hA.below HB.out)).mono ?_
            rintro e y23 ⟨rfl, hE⟩
            have hb : Below (y22).heap.size (y22) y23 := by obtain ⟨n, rfl⟩ := hE; exact below_of_drewN _ n
            rw [HWr.out]
            have HB := Lib.hid (HB.out.trans (hb.mono HB.out.size))
            have E0 := Lib.hid (E0.out.below hb)
            clear hb hE
            go_wp2_with fail
            refine hK.out _ _ (by exact (⟨(HB.out.cell (p := ⟨b, off, none⟩) hbl).trans HLx.out, (HB.out.cell (p := ⟨b, off + 1, none⟩) hbl).trans HLs.out⟩)) (fun hHeld => ?_)
            clear hK K
            (try simp only [Act.put, List.setIfInBounds_toArray, List.set_cons_zero, List.set_cons_succ])
            refine wpAnyH_ready (rs := [17, 19]) (by kernel_rfl) (by simp) ?_
            refine AllReadyH.cons (o := ?_) ?_ (fun K hK => ?_) ?_
            rotate_left 1
            · (simp only [List.getElem?_toArray, List.getElem?_cons_zero, List.getElem?_cons_succ]; try rfl)
            · have hfresh := E0.out.range
              refine step_app_bytes9 rfl (.tmp 23) (.tmp 25) rfl _ (Value.slice (some ⟨y1.heap.size, 0, none⟩) 0 0) [] T D N rc rfl rfl HN.out (by exact E0.out) (by exact HS.out.below HB.out) (by simp; omega) (by exact HB.out.size) ?_
              intro v9 y24 hown hg hv9
              have hg : World.grownBy (y23) y24 (Value.slice (some ⟨y1.heap.size, 0, none⟩) 0 0).ownBlock := ⟨hg.os, hg.tape, hg.output, hg.size, hg.block⟩
              have hke := Keeps.of_grown hg
              have hown : Own y24 w1.heap.size v9 T := hown
              have HB := Lib.hid (HB.out.trans (hke.below (B := w1.heap.size) HB.out.size (fun k hk => (hfresh k hk).1)))
              obtain ⟨AV, cV, rfl, lV, kV, _, _, _⟩ := own_plain9 hown
              have VV := Lib.hid hown
              clear hke hg hown hfresh
              (try go_simp)
              refine hK.out _ _ (by exact (⟨(HB.out.cell (p := ⟨b, off, none⟩) hbl).trans HLx.out, (HB.out.cell (p := ⟨b, off + 1, none⟩) hbl).trans HLs.out⟩)) (fun hHeld => ?_)
              clear hK K
              (try simp only [Act.put, List.setIfInBounds_toArray, List.set_cons_zero, List.set_cons_succ])
              refine wpAnyH_take (i := 18) (oi := ?_) (v := ?_) ?_ ?_ ?_ ?_ ?_ ?_ (by exact hHeld) ?_
              rotate_left 2
              · (simp only [List.getElem?_toArray, List.getElem?_cons_zero, List.getElem?_cons_succ]; try rfl)
              · kernel_rfl
              · kernel_rfl
              · kernel_rfl
              · exact fun _ _ _ h => h
              · refine Or.inl ⟨by rfl, ?_⟩
                (intro V hSV; (try dsimp only at hSV); obtain ⟨q0, q1⟩ := hSV; go_simp; try with_reducible rfl)
              (try simp only [Act.put, List.setIfInBounds_toArray, List.set_cons_zero, List.set_cons_succ])
              refine wpAnyH_ready (rs := [19]) (by kernel_rfl) (by simp) ?_
              refine AllReadyH.cons (o := ?_) ?_ (fun K hK => ?_) AllReadyH.nil
              rotate_left 1
              · (simp only [List.getElem?_toArray, List.getElem?_cons_zero, List.getElem?_cons_succ]; try rfl)
              have HB0 := HB
              have VV0 := VV
              have hbA := (Below.refl (y24).heap.size (y24)).alloc (Nat.le_refl _) (.cells #[.int .i64 0, .int .i64 0, .int .i64 0, .int .i64 0, .int .i64 0, .slice none 0 0] 29)
              have hBX : Blk ((y24).alloc (.cells #[.int .i64 0, .int .i64 0, .int .i64 0, .int .i64 0, .int .i64 0, .slice none 0 0] 29)) (y24.heap.size) #[.int .i64 0, .int .i64 0, .int .i64 0, .int .i64 0, .int .i64 0, .slice none 0 0] 29 := by
                have h := Blk.new (y24) #[.int .i64 0, .int .i64 0, .int .i64 0, .int .i64 0, .int .i64 0, .slice none 0 0] 29
                first | exact h | simpa using h
              have BX := Lib.hid hBX
              have HLO : Hid (w1.heap.size ≤ y24.heap.size) := Lib.hid (by have h := HB.out.size; first | exact h | (simp; done) | (simp at h ⊢; omega))
              clear hBX
              have HVB : Hid (∀ k ∈ (Value.slice AV T.length cV).ownBlock.toList, k ≠ y24.heap.size) := Lib.hid (fun k hk e => by have h := (VV.out.range k hk).2; (try simp at h); omega)
              have HB := Lib.hid (HB.out.trans (hbA.mono HB.out.size))
              have VV := Lib.hid (VV.out.below hbA)
              clear hbA
              go_simp
              refine hK.out _ _ (by exact (⟨(HB.out.cell (p := ⟨b, off, none⟩) hbl).trans HLx.out, (HB.out.cell (p := ⟨b, off + 1, none⟩) hbl).trans HLs.out⟩)) (fun hHeld => ?_)
              clear hK K
              (try simp only [Act.put, List.setIfInBounds_toArray, List.set_cons_zero, List.set_cons_succ])
              have hbF := (Below.refl (y24).heap.size (y24)).alloc (Nat.le_refl _) (.cells #[.int .i64 x, .int .i64 s, .int .i64 p, .int .i64 q, .int .i64 r, .slice AV T.length cV] 29)
              have hBF : Blk (((y24).alloc (.cells #[.int .i64 x, .int .i64 s, .int .i64 p, .int .i64 q, .int .i64 r, .slice AV T.length cV] 29))) (y24.heap.size) #[.int .i64 x, .int .i64 s, .int .i64 p, .int .i64 q, .int .i64 r, .slice AV T.length cV] 29 := by
                have h := Blk.new (y24) #[.int .i64 x, .int .i64 s, .int .i64 p, .int .i64 q, .int .i64 r, .slice AV T.length cV] 29
                first | exact h | simpa using h
              have BF := Lib.hid hBF
              have VF := Lib.hid (VV0.out.below hbF)
              have HBF := Lib.hid (HB0.out.trans (hbF.mono HB0.out.size))
              have HB := HBF
              clear hbF hBF
              refine wpAnyH_ready (rs := [20]) (by kernel_rfl) (by simp) ?_
              refine AllReadyH.cons (o := ?_) ?_ (fun K hK => ?_) AllReadyH.nil
              rotate_left 1
              · (simp only [List.getElem?_toArray, List.getElem?_cons_zero, List.getElem?_cons_succ]; try rfl)
              go_simp
              refine hK.out _ _ (by exact (⟨(HB.out.cell (p := ⟨b, off, none⟩) hbl).trans HLx.out, (HB.out.cell (p := ⟨b, off + 1, none⟩) hbl).trans HLs.out⟩)) (fun hHeld => ?_)
              clear hK K
              (try simp only [Act.put, List.setIfInBounds_toArray, List.set_cons_zero, List.set_cons_succ])
              refine wpAnyH_done (by kernel_rfl) ?_ _
              refine NoPanic.normal ?_
              go_wp2_with fail
              go_meet
              exact ⟨y24.heap.size, AV, cV, rfl, BF.out, VF.out, HLO.out, HBF.out⟩
            refine AllReadyH.cons (o := ?_) ?_ (fun K hK => ?_) AllReadyH.nil
            rotate_left 1
            · (simp only [List.getElem?_toArray, List.getElem?_cons_zero, List.getElem?_cons_succ]; try rfl)
            have hbA := (Below.refl (y23).heap.size (y23)).alloc (Nat.le_refl _) (.cells #[.int .i64 0, .int .i64 0, .int .i64 0, .int .i64 0, .int .i64 0, .slice none 0 0] 29)
            have hBX : Blk ((y23).alloc (.cells #[.int .i64 0, .int .i64 0, .int .i64 0, .int .i64 0, .int .i64 0, .slice none 0 0] 29)) (y23.heap.size) #[.int .i64 0, .int .i64 0, .int .i64 0, .int .i64 0, .int .i64 0, .slice none 0 0] 29 := by
              have h := Blk.new (y23) #[.int .i64 0, .int .i64 0, .int .i64 0, .int .i64 0, .int .i64 0, .slice none 0 0] 29
              first | exact h | simpa using h
            have BX := Lib.hid hBX
            have HLO : Hid (w1.heap.size ≤ y23.heap.size) := Lib.hid (by have h := HB.out.size; first | exact h | (simp; done) | (simp at h ⊢; omega))
            clear hBX
            have HNE : Hid (y23.heap.size ≠ y1.heap.size) := Lib.hid (Nat.ne_of_gt (by have h := (E0.out.range (y1.heap.size) (by simp [Value.ownBlock])).2; first | exact h | (simp; done) | (simp at h ⊢; omega)))
            have HB := Lib.hid (HB.out.trans (hbA.mono HB.out.size))
            have E0 := Lib.hid (E0.out.below hbA)
            clear hbA
            go_simp
            refine hK.out _ _ (by exact (⟨(HB.out.cell (p := ⟨b, off, none⟩) hbl).trans HLx.out, (HB.out.cell (p := ⟨b, off + 1, none⟩) hbl).trans HLs.out⟩)) (fun hHeld => ?_)
            clear hK K
            (try simp only [Act.put, List.setIfInBounds_toArray, List.set_cons_zero, List.set_cons_succ])
            refine wpAnyH_ready (rs := [17]) (by kernel_rfl) (by simp) ?_
            refine AllReadyH.cons (o := ?_) ?_ (fun K hK => ?_) AllReadyH.nil
            rotate_left 1
            · (simp only [List.getElem?_toArray, List.getElem?_cons_zero, List.getElem?_cons_succ]; try rfl)
            have hfresh := E0.out.range
            refine step_app_bytes9 rfl (.tmp 23) (.tmp 25) rfl _ (Value.slice (some ⟨y1.heap.size, 0, none⟩) 0 0) [] T D N rc rfl rfl HN.out (by exact E0.out) (by exact HS.out.below HB.out) (by simp; omega) (by exact HB.out.size) ?_
            intro v9 y25 hown hg hv9
            have hg : World.grownBy (((y23).alloc (.cells #[.int .i64 0, .int .i64 0, .int .i64 0, .int .i64 0, .int .i64 0, .slice none 0 0] 29))) y25 (Value.slice (some ⟨y1.heap.size, 0, none⟩) 0 0).ownBlock := ⟨hg.os, hg.tape, hg.output, hg.size, hg.block⟩
            have hke := Keeps.of_grown hg
            have hown : Own y25 w1.heap.size v9 T := hown
            have hbbl := BX.out.lt
            have BX := Lib.hid (BX.out.of_block (hke.block _ BX.out.lt (fun h => by first | (simp [Value.ownBlock] at h; done) | (have h2 := h; simp only [Value.ownBlock, Option.toList_some, List.mem_singleton] at h2; exact HNE.out h2))))
            have HB := Lib.hid (HB.out.trans (hke.below (B := w1.heap.size) HB.out.size (fun k hk => (hfresh k hk).1)))
            obtain ⟨AV, cV, rfl, lV, kV, _, _, _⟩ := own_plain9 hown
            have VV := Lib.hid hown
            have HVB : Hid (∀ k ∈ (Value.slice AV T.length cV).ownBlock.toList, k ≠ y23.heap.size) := Lib.hid (fun k hk e => by
              rcases hv9 with h | h
              · have h3 : k = y1.heap.size := by rw [h] at hk; simpa [Value.ownBlock] using hk
                exact HNE.out (e.symm.trans h3)
              · have h3 : k = (((y23).alloc (.cells #[.int .i64 0, .int .i64 0, .int .i64 0, .int .i64 0, .int .i64 0, .slice none 0 0] 29))).heap.size := by rw [h] at hk; simpa using hk
                have h2 : y23.heap.size < (((y23).alloc (.cells #[.int .i64 0, .int .i64 0, .int .i64 0, .int .i64 0, .int .i64 0, .slice none 0 0] 29))).heap.size := hbbl
                omega)
            clear hbbl
            clear hke hg hown hfresh
            (try go_simp)
            refine hK.out _ _ (by exact (⟨(HB.out.cell (p := ⟨b, off, none⟩) hbl).trans HLx.out, (HB.out.cell (p := ⟨b, off + 1, none⟩) hbl).trans HLs.out⟩)) (fun hHeld => ?_)
            clear hK K
            (try simp only [Act.put, List.setIfInBounds_toArray, List.set_cons_zero, List.set_cons_succ])
            refine wpAnyH_take (i := 18) (oi := ?_) (v := ?_) ?_ ?_ ?_ ?_ ?_ ?_ (by exact hHeld) ?_
            rotate_left 2
            · (simp only [List.getElem?_toArray, List.getElem?_cons_zero, List.getElem?_cons_succ]; try rfl)
            · kernel_rfl
            · kernel_rfl
            · kernel_rfl
            · exact fun _ _ _ h => h
            · refine Or.inl ⟨by rfl, ?_⟩
              (intro V hSV; (try dsimp only at hSV); obtain ⟨q0, q1⟩ := hSV; go_simp; try with_reducible rfl)
            (try simp only [Act.put, List.setIfInBounds_toArray, List.set_cons_zero, List.set_cons_succ])
            have g0 := BX.out.cell 0
            have f0 := BX.out.frozen 0
            have g1 := BX.out.cell 1
            have f1 := BX.out.frozen 1
            have g2 := BX.out.cell 2
            have f2 := BX.out.frozen 2
            have g3 := BX.out.cell 3
            have f3 := BX.out.frozen 3
            have g4 := BX.out.cell 4
            have f4 := BX.out.frozen 4
            have g5 := BX.out.cell 5
            have f5 := BX.out.frozen 5
            have BF : Hid (Blk (((((((((((((y25).setCell ⟨y23.heap.size, 0, none⟩ (.int .i64 x))).setCell ⟨y23.heap.size, 1, none⟩ (.int .i64 s))).setCell ⟨y23.heap.size, 2, none⟩ (.int .i64 p))).setCell ⟨y23.heap.size, 3, none⟩ (.int .i64 q))).setCell ⟨y23.heap.size, 4, none⟩ (.int .i64 r))).setCell ⟨y23.heap.size, 5, none⟩ (.slice AV T.length cV))) (y23.heap.size) #[.int .i64 x, .int .i64 s, .int .i64 p, .int .i64 q, .int .i64 r, .slice AV T.length cV] 29) := Lib.hid (by simpa using ((((((BX.out.set 0 (.int .i64 x)).set 1 (.int .i64 s)).set 2 (.int .i64 p)).set 3 (.int .i64 q)).set 4 (.int .i64 r)).set 5 (.slice AV T.length cV)))
            have HBF : Hid (Below w1.heap.size w1 (((((((((((((y25).setCell ⟨y23.heap.size, 0, none⟩ (.int .i64 x))).setCell ⟨y23.heap.size, 1, none⟩ (.int .i64 s))).setCell ⟨y23.heap.size, 2, none⟩ (.int .i64 p))).setCell ⟨y23.heap.size, 3, none⟩ (.int .i64 q))).setCell ⟨y23.heap.size, 4, none⟩ (.int .i64 r))).setCell ⟨y23.heap.size, 5, none⟩ (.slice AV T.length cV)))) := Lib.hid ((((((HB.out.setCell (p := ⟨y23.heap.size, 0, none⟩) HLO.out (.int .i64 x)).setCell (p := ⟨y23.heap.size, 1, none⟩) HLO.out (.int .i64 s)).setCell (p := ⟨y23.heap.size, 2, none⟩) HLO.out (.int .i64 p)).setCell (p := ⟨y23.heap.size, 3, none⟩) HLO.out (.int .i64 q)).setCell (p := ⟨y23.heap.size, 4, none⟩) HLO.out (.int .i64 r)).setCell (p := ⟨y23.heap.size, 5, none⟩) HLO.out (.slice AV T.length cV))
            have VF : Hid (Own (((((((((((((y25).setCell ⟨y23.heap.size, 0, none⟩ (.int .i64 x))).setCell ⟨y23.heap.size, 1, none⟩ (.int .i64 s))).setCell ⟨y23.heap.size, 2, none⟩ (.int .i64 p))).setCell ⟨y23.heap.size, 3, none⟩ (.int .i64 q))).setCell ⟨y23.heap.size, 4, none⟩ (.int .i64 r))).setCell ⟨y23.heap.size, 5, none⟩ (.slice AV T.length cV))) w1.heap.size (.slice AV T.length cV) T) := Lib.hid ((((((VV.out.heap (fun k hk => Below.heap_setCell _ ⟨y23.heap.size, 0, none⟩ (.int .i64 x) k (fun e => HVB.out k hk e))).heap (fun k hk => Below.heap_setCell _ ⟨y23.heap.size, 1, none⟩ (.int .i64 s) k (fun e => HVB.out k hk e))).heap (fun k hk => Below.heap_setCell _ ⟨y23.heap.size, 2, none⟩ (.int .i64 p) k (fun e => HVB.out k hk e))).heap (fun k hk => Below.heap_setCell _ ⟨y23.heap.size, 3, none⟩ (.int .i64 q) k (fun e => HVB.out k hk e))).heap (fun k hk => Below.heap_setCell _ ⟨y23.heap.size, 4, none⟩ (.int .i64 r) k (fun e => HVB.out k hk e))).heap (fun k hk => Below.heap_setCell _ ⟨y23.heap.size, 5, none⟩ (.slice AV T.length cV) k (fun e => HVB.out k hk e)))
            have HB := HBF
            refine wpAnyH_ready (rs := [20]) (by kernel_rfl) (by simp) ?_
            refine AllReadyH.cons (o := ?_) ?_ (fun K hK => ?_) AllReadyH.nil
            rotate_left 1
            · (simp only [List.getElem?_toArray, List.getElem?_cons_zero, List.getElem?_cons_succ]; try rfl)
            go_simp
            refine hK.out _ _ (by exact (⟨(HB.out.cell (p := ⟨b, off, none⟩) hbl).trans HLx.out, (HB.out.cell (p := ⟨b, off + 1, none⟩) hbl).trans HLs.out⟩)) (fun hHeld => ?_)
            clear hK K
            (try simp only [Act.put, List.setIfInBounds_toArray, List.set_cons_zero, List.set_cons_succ])
            refine wpAnyH_done (by kernel_rfl) ?_ _
            refine NoPanic.normal ?_
            go_wp2_with fail
            go_meet
            exact ⟨y23.heap.size, AV, cV, rfl, BF.out, VF.out, HLO.out, HBF.out⟩
          refine AllReadyH.cons (o := ?_) ?_ (fun K hK => ?_) AllReadyH.nil
          rotate_left 1
          · (simp only [List.getElem?_toArray, List.getElem?_cons_zero, List.getElem?_cons_succ]; try rfl)
          have hbA := (Below.refl (y22).heap.size (y22)).alloc (Nat.le_refl _) (.cells #[.int .i64 0, .int .i64 0, .int .i64 0, .int .i64 0, .int .i64 0, .slice none 0 0] 29)
          have hBX : Blk ((y22).alloc (.cells #[.int .i64 0, .int .i64 0, .int .i64 0, .int .i64 0, .int .i64 0, .slice none 0 0] 29)) (y22.heap.size) #[.int .i64 0, .int .i64 0, .int .i64 0, .int .i64 0, .int .i64 0, .slice none 0 0] 29 := by
            have h := Blk.new (y22) #[.int .i64 0, .int .i64 0, .int .i64 0, .int .i64 0, .int .i64 0, .slice none 0 0] 29
            first | exact h | simpa using h
          have BX := Lib.hid hBX
          have HLO : Hid (w1.heap.size ≤ y22.heap.size) := Lib.hid (by have h := HB.out.size; first | exact h | (simp; done) | (simp at h ⊢; omega))
          clear hBX
          have HNE : Hid (y22.heap.size ≠ y1.heap.size) := Lib.hid (Nat.ne_of_gt (by have h := (E0.out.range (y1.heap.size) (by simp [Value.ownBlock])).2; first | exact h | (simp; done) | (simp at h ⊢; omega)))
          have HB := Lib.hid (HB.out.trans (hbA.mono HB.out.size))
          have E0 := Lib.hid (E0.out.below hbA)
          clear hbA
          go_simp
          refine hK.out _ _ (by exact (⟨(HB.out.cell (p := ⟨b, off, none⟩) hbl).trans HLx.out, (HB.out.cell (p := ⟨b, off + 1, none⟩) hbl).trans HLs.out⟩)) (fun hHeld => ?_)
          clear hK K
          (try simp only [Act.put, List.setIfInBounds_toArray, List.set_cons_zero, List.set_cons_succ])
          refine wpAnyH_ready (rs := [13]) (by kernel_rfl) (by simp) ?_
          refine AllReadyH.cons (o := ?_) ?_ (fun K hK => ?_) AllReadyH.nil
          rotate_left 1
          · (simp only [List.getElem?_toArray, List.getElem?_cons_zero, List.getElem?_cons_succ]; try rfl)
          go_simp
          refine (l09At_any (some ⟨b, off, none⟩) l c 6 _ hn9 (by omega) (by exact hA.below HB.out)).mono ?_
          rintro e y26 ⟨rfl, hE⟩
          have hb : Below (((y22).alloc (.cells #[.int .i64 0, .int .i64 0, .int .i64 0, .int .i64 0, .int .i64 0, .slice none 0 0] 29))).heap.size (((y22).alloc (.cells #[.int .i64 0, .int .i64 0, .int .i64 0, .int .i64 0, .int .i64 0, .slice none 0 0] 29))) y26 := by obtain ⟨n, rfl⟩ := hE; exact below_of_drewN _ n
          rw [HWr.out]
          have HB := Lib.hid (HB.out.trans (hb.mono HB.out.size))
          have E0 := Lib.hid (E0.out.below hb)
          have BX := Lib.hid (BX.out.below hb)
          clear hb hE
          go_wp2_with fail
          refine hK.out _ _ (by exact (⟨(HB.out.cell (p := ⟨b, off, none⟩) hbl).trans HLx.out, (HB.out.cell (p := ⟨b, off + 1, none⟩) hbl).trans HLs.out⟩)) (fun hHeld => ?_)
          clear hK K
          (try simp only [Act.put, List.setIfInBounds_toArray, List.set_cons_zero, List.set_cons_succ])
          refine wpAnyH_ready (rs := [17]) (by kernel_rfl) (by simp) ?_
          refine AllReadyH.cons (o := ?_) ?_ (fun K hK => ?_) AllReadyH.nil
          rotate_left 1
          · (simp only [List.getElem?_toArray, List.getElem?_cons_zero, List.getElem?_cons_succ]; try rfl)
          have hfresh := E0.out.range
          refine step_app_bytes9 rfl (.tmp 23) (.tmp 25) rfl _ (Value.slice (some ⟨y1.heap.size, 0, none⟩) 0 0) [] T D N rc rfl rfl HN.out (by exact E0.out) (by exact HS.out.below HB.out) (by simp; omega) (by exact HB.out.size) ?_
          intro v9 y27 hown hg hv9
          have hg : World.grownBy (y26) y27 (Value.slice (some ⟨y1.heap.size, 0, none⟩) 0 0).ownBlock := ⟨hg.os, hg.tape, hg.output, hg.size, hg.block⟩
          have hke := Keeps.of_grown hg
          have hown : Own y27 w1.heap.size v9 T := hown
          have hbbl := BX.out.lt
          have BX := Lib.hid (BX.out.of_block (hke.block _ BX.out.lt (fun h => by first | (simp [Value.ownBlock] at h; done) | (have h2 := h; simp only [Value.ownBlock, Option.toList_some, List.mem_singleton] at h2; exact HNE.out h2))))
          have HB := Lib.hid (HB.out.trans (hke.below (B := w1.heap.size) HB.out.size (fun k hk => (hfresh k hk).1)))
          obtain ⟨AV, cV, rfl, lV, kV, _, _, _⟩ := own_plain9 hown
          have VV := Lib.hid hown
          have HVB : Hid (∀ k ∈ (Value.slice AV T.length cV).ownBlock.toList, k ≠ y22.heap.size) := Lib.hid (fun k hk e => by
            rcases hv9 with h | h
            · have h3 : k = y1.heap.size := by rw [h] at hk; simpa [Value.ownBlock] using hk
              exact HNE.out (e.symm.trans h3)
            · have h3 : k = (y26).heap.size := by rw [h] at hk; simpa using hk
              have h2 : y22.heap.size < (y26).heap.size := hbbl
              omega)
          clear hbbl
          clear hke hg hown hfresh
          (try go_simp)
          refine hK.out _ _ (by exact (⟨(HB.out.cell (p := ⟨b, off, none⟩) hbl).trans HLx.out, (HB.out.cell (p := ⟨b, off + 1, none⟩) hbl).trans HLs.out⟩)) (fun hHeld => ?_)
          clear hK K
          (try simp only [Act.put, List.setIfInBounds_toArray, List.set_cons_zero, List.set_cons_succ])
          refine wpAnyH_take (i := 18) (oi := ?_) (v := ?_) ?_ ?_ ?_ ?_ ?_ ?_ (by exact hHeld) ?_
          rotate_left 2
          · (simp only [List.getElem?_toArray, List.getElem?_cons_zero, List.getElem?_cons_succ]; try rfl)
          · kernel_rfl
          · kernel_rfl
          · kernel_rfl
          · exact fun _ _ _ h => h
          · refine Or.inl ⟨by rfl, ?_⟩
            (intro V hSV; (try dsimp only at hSV); obtain ⟨q0, q1⟩ := hSV; go_simp; try with_reducible rfl)
          (try simp only [Act.put, List.setIfInBounds_toArray, List.set_cons_zero, List.set_cons_succ])
          have g0 := BX.out.cell 0
          have f0 := BX.out.frozen 0
          have g1 := BX.out.cell 1
          have f1 := BX.out.frozen 1
          have g2 := BX.out.cell 2
          have f2 := BX.out.frozen 2
          have g3 := BX.out.cell 3
          have f3 := BX.out.frozen 3
          have g4 := BX.out.cell 4
          have f4 := BX.out.frozen 4
          have g5 := BX.out.cell 5
          have f5 := BX.out.frozen 5
          have BF : Hid (Blk (((((((((((((y27).setCell ⟨y22.heap.size, 0, none⟩ (.int .i64 x))).setCell ⟨y22.heap.size, 1, none⟩ (.int .i64 s))).setCell ⟨y22.heap.size, 2, none⟩ (.int .i64 p))).setCell ⟨y22.heap.size, 3, none⟩ (.int .i64 q))).setCell ⟨y22.heap.size, 4, none⟩ (.int .i64 r))).setCell ⟨y22.heap.size, 5, none⟩ (.slice AV T.length cV))) (y22.heap.size) #[.int .i64 x, .int .i64 s, .int .i64 p, .int .i64 q, .int .i64 r, .slice AV T.length cV] 29) := Lib.hid (by simpa using ((((((BX.out.set 0 (.int .i64 x)).set 1 (.int .i64 s)).set 2 (.int .i64 p)).set 3 (.int .i64 q)).set 4 (.int .i64 r)).set 5 (.slice AV T.length cV)))
          have HBF : Hid (Below w1.heap.size w1 (((((((((((((y27).setCell ⟨y22.heap.size, 0, none⟩ (.int .i64 x))).setCell ⟨y22.heap.size, 1, none⟩ (.int .i64 s))).setCell ⟨y22.heap.size, 2, none⟩ (.int .i64 p))).setCell ⟨y22.heap.size, 3, none⟩ (.int .i64 q))).setCell ⟨y22.heap.size, 4, none⟩ (.int .i64 r))).setCell ⟨y22.heap.size, 5, none⟩ (.slice AV T.length cV)))) := Lib.hid ((((((HB.out.setCell (p := ⟨y22.heap.size, 0, none⟩) HLO.out (.int .i64 x)).setCell (p := ⟨y22.heap.size, 1, none⟩) HLO.out (.int .i64 s)).setCell (p := ⟨y22.heap.size, 2, none⟩) HLO.out (.int .i64 p)).setCell (p := ⟨y22.heap.size, 3, none⟩) HLO.out (.int .i64 q)).setCell (p := ⟨y22.heap.size, 4, none⟩) HLO.out (.int .i64 r)).setCell (p := ⟨y22.heap.size, 5, none⟩) HLO.out (.slice AV T.length cV))
          have VF : Hid (Own (((((((((((((y27).setCell ⟨y22.heap.size, 0, none⟩ (.int .i64 x))).setCell ⟨y22.heap.size, 1, none⟩ (.int .i64 s))).setCell ⟨y22.heap.size, 2, none⟩ (.int .i64 p))).setCell ⟨y22.heap.size, 3, none⟩ (.int .i64 q))).setCell ⟨y22.heap.size, 4, none⟩ (.int .i64 r))).setCell ⟨y22.heap.size, 5, none⟩ (.slice AV T.length cV))) w1.heap.size (.slice AV T.length cV) T) := Lib.hid ((((((VV.out.heap (fun k hk => Below.heap_setCell _ ⟨y22.heap.size, 0, none⟩ (.int .i64 x) k (fun e => HVB.out k hk e))).heap (fun k hk => Below.heap_setCell _ ⟨y22.heap.size, 1, none⟩ (.int .i64 s) k (fun e => HVB.out k hk e))).heap (fun k hk => Below.heap_setCell _ ⟨y22.heap.size, 2, none⟩ (.int .i64 p) k (fun e => HVB.out k hk e))).heap (fun k hk => Below.heap_setCell _ ⟨y22.heap.size, 3, none⟩ (.int .i64 q) k (fun e => HVB.out k hk e))).heap (fun k hk => Below.heap_setCell _ ⟨y22.heap.size, 4, none⟩ (.int .i64 r) k (fun e => HVB.out k hk e))).heap (fun k hk => Below.heap_setCell _ ⟨y22.heap.size, 5, none⟩ (.slice AV T.length cV) k (fun e => HVB.out k hk e)))
          have HB := HBF
          refine wpAnyH_ready (rs := [20]) (by kernel_rfl) (by simp) ?_
          refine AllReadyH.cons (o := ?_) ?_ (fun K hK => ?_) AllReadyH.nil
          rotate_left 1
          · (simp only [List.getElem?_toArray, List.getElem?_cons_zero, List.getElem?_cons_succ]; try rfl)
          go_simp
          refine hK.out _ _ (by exact (⟨(HB.out.cell (p := ⟨b, off, none⟩) hbl).trans HLx.out, (HB.out.cell (p := ⟨b, off + 1, none⟩) hbl).trans HLs.out⟩)) (fun hHeld => ?_)
          clear hK K
          (try simp only [Act.put, List.setIfInBounds_toArray, List.set_cons_zero, List.set_cons_succ])
          refine wpAnyH_done (by kernel_rfl) ?_ _
          refine NoPanic.normal ?_
          go_wp2_with fail
          go_meet
          exact ⟨y22.heap.size, AV, cV, rfl, BF.out, VF.out, HLO.out, HBF.out⟩
        refine AllReadyH.cons (o := ?_) ?_ (fun K hK => ?_) AllReadyH.nil
        rotate_left 1
        · (simp only [List.getElem?_toArray, List.getElem?_cons_zero, List.getElem?_cons_succ]; try rfl)
        have hbA := (Below.refl (((y1).alloc (.cells #[] 5))).heap.size (((y1).alloc (.cells #[] 5)))).alloc (Nat.le_refl _) (.cells #[.int .i64 0, .int .i64 0, .int .i64 0, .int .i64 0, .int .i64 0, .slice none 0 0] 29)
        have hBX : Blk ((((y1).alloc (.cells #[] 5))).alloc (.cells #[.int .i64 0, .int .i64 0, .int .i64 0, .int .i64 0, .int .i64 0, .slice none 0 0] 29)) (y1.heap.size + 1) #[.int .i64 0, .int .i64 0, .int .i64 0, .int .i64 0, .int .i64 0, .slice none 0 0] 29 := by
          have h := Blk.new (((y1).alloc (.cells #[] 5))) #[.int .i64 0, .int .i64 0, .int .i64 0, .int .i64 0, .int .i64 0, .slice none 0 0] 29
          first | exact h | simpa using h
        have BX := Lib.hid hBX
        have HLO : Hid (w1.heap.size ≤ y1.heap.size + 1) := Lib.hid (by have h := HB.out.size; first | exact h | (simp; done) | (simp at h ⊢; omega))
        clear hBX
        have HNE : Hid (y1.heap.size + 1 ≠ y1.heap.size) := Lib.hid (Nat.ne_of_gt (by have h := (E0.out.range (y1.heap.size) (by simp [Value.ownBlock])).2; first | exact h | (simp; done) | (simp at h ⊢; omega)))
        have HB := Lib.hid (HB.out.trans (hbA.mono HB.out.size))
        have E0 := Lib.hid (E0.out.below hbA)
        clear hbA
        go_simp
        refine hK.out _ _ (by exact (⟨(HB.out.cell (p := ⟨b, off, none⟩) hbl).trans HLx.out, (HB.out.cell (p := ⟨b, off + 1, none⟩) hbl).trans HLs.out⟩)) (fun hHeld => ?_)
        clear hK K
        (try simp only [Act.put, List.setIfInBounds_toArray, List.set_cons_zero, List.set_cons_succ])
        refine wpAnyH_ready (rs := [11]) (by kernel_rfl) (by simp) ?_
        refine AllReadyH.cons (o := ?_) ?_ (fun K hK => ?_) AllReadyH.nil
        rotate_left 1
        · (simp only [List.getElem?_toArray, List.getElem?_cons_zero, List.getElem?_cons_succ]; try rfl)
        go_simp
        refine (l09At_any (some ⟨b, off, none⟩) l c 4 _ hn9 (by omega) (by exact hA.below HB.out)).mono ?_
        rintro e y28 ⟨rfl, hE⟩
        have hb : Below (((((y1).alloc (.cells #[] 5))).alloc (.cells #[.int .i64 0, .int .i64 0, .int .i64 0, .int .i64 0, .int .i64 0, .slice none 0 0] 29))).heap.size (((((y1).alloc (.cells #[] 5))).alloc (.cells #[.int .i64 0, .int .i64 0, .int .i64 0, .int .i64 0, .int .i64 0, .slice none 0 0] 29))) y28 := by obtain ⟨n, rfl⟩ := hE; exact below_of_drewN _ n
        rw [HWq.out]
        have HB := Lib.hid (HB.out.trans (hb.mono HB.out.size))
        have E0 := Lib.hid (E0.out.below hb)
        have BX := Lib.hid (BX.out.below hb)
        clear hb hE
        go_wp2_with fail
        refine hK.out _ _ (by exact (⟨(HB.out.cell (p := ⟨b, off, none⟩) hbl).trans HLx.out, (HB.out.cell (p := ⟨b, off + 1, none⟩) hbl).trans HLs.out⟩)) (fun hHeld => ?_)
        clear hK K
        (try simp only [Act.put, List.setIfInBounds_toArray, List.set_cons_zero, List.set_cons_succ])
        refine wpAnyH_ready (rs := [13]) (by kernel_rfl) (by simp) ?_
        refine AllReadyH.cons (o := ?_) ?_ (fun K hK => ?_) AllReadyH.nil
        rotate_left 1
        · (simp only [List.getElem?_toArray, List.getElem?_cons_zero, List.getElem?_cons_succ]; try rfl)
        go_simp
        refine (l09At_any (some ⟨b, off, none⟩) l c 6 _ hn9 (by omega) (by exact hA.below HB.out)).mono ?_
        rintro e y29 ⟨rfl, hE⟩
        have hb : Below (y28).heap.size (y28) y29 := by obtain ⟨n, rfl⟩ := hE; exact below_of_drewN _ n
        rw [HWr.out]
        have HB := Lib.hid (HB.out.trans (hb.mono HB.out.size))
        have E0 := Lib.hid (E0.out.below hb)
        have BX := Lib.hid (BX.out.below hb)
        clear hb hE
        go_wp2_with fail
        refine hK.out _ _ (by exact (⟨(HB.out.cell (p := ⟨b, off, none⟩) hbl).trans HLx.out, (HB.out.cell (p := ⟨b, off + 1, none⟩) hbl).trans HLs.out⟩)) (fun hHeld => ?_)
        clear hK K
        (try simp only [Act.put, List.setIfInBounds_toArray, List.set_cons_zero, List.set_cons_succ])
        refine wpAnyH_ready (rs := [17]) (by kernel_rfl) (by simp) ?_
        refine AllReadyH.cons (o := ?_) ?_ (fun K hK => ?_) AllReadyH.nil
        rotate_left 1
        · (simp only [List.getElem?_toArray, List.getElem?_cons_zero, List.getElem?_cons_succ]; try rfl)
        have hfresh := E0.out.range
        refine step_app_bytes9 rfl (.tmp 23) (.tmp 25) rfl _ (Value.slice (some ⟨y1.heap.size, 0, none⟩) 0 0) [] T D N rc rfl rfl HN.out (by exact E0.out) (by exact HS.out.below HB.out) (by simp; omega) (by exact HB.out.size) ?_
        intro v9 y30 hown hg hv9
        have hg : World.grownBy (y29) y30 (Value.slice (some ⟨y1.heap.size, 0, none⟩) 0 0).ownBlock := ⟨hg.os, hg.tape, hg.output, hg.size, hg.block⟩
        have hke := Keeps.of_grown hg
        have hown : Own y30 w1.heap.size v9 T := hown
        have hbbl := BX.out.lt
        have BX := Lib.hid (BX.out.of_block (hke.block _ BX.out.lt (fun h => by first | (simp [Value.ownBlock] at h; done) | (have h2 := h; simp only [Value.ownBlock, Option.toList_some, List.mem_singleton] at h2; exact HNE.out h2))))
        have HB := Lib.hid (HB.out.trans (hke.below (B := w1.heap.size) HB.out.size (fun k hk => (hfresh k hk).1)))
        obtain ⟨AV, cV, rfl, lV, kV, _, _, _⟩ := own_plain9 hown
        have VV := Lib.hid hown
        have HVB : Hid (∀ k ∈ (Value.slice AV T.length cV).ownBlock.toList, k ≠ y1.heap.size + 1) := Lib.hid (fun k hk e => by
          rcases hv9 with h | h
          · have h3 : k = y1.heap.size := by rw [h] at hk; simpa [Value.ownBlock] using hk
            exact HNE.out (e.symm.trans h3)
          · have h3 : k = (y29).heap.size := by rw [h] at hk; simpa using hk
            have h2 : y1.heap.size + 1 < (y29).heap.size := hbbl
            omega)
        clear hbbl
        clear hke hg hown hfresh
        (try go_simp)
        refine hK.out _ _ (by exact (⟨(HB.out.cell (p := ⟨b, off, none⟩) hbl).trans HLx.out, (HB.out.cell (p := ⟨b, off + 1, none⟩) hbl).trans HLs.out⟩)) (fun hHeld => ?_)
        clear hK K
        (try simp only [Act.put, List.setIfInBounds_toArray, List.set_cons_zero, List.set_cons_succ])
        refine wpAnyH_take (i := 18) (oi := ?_) (v := ?_) ?_ ?_ ?_ ?_ ?_ ?_ (by exact hHeld) ?_
        rotate_left 2
        · (simp only [List.getElem?_toArray, List.getElem?_cons_zero, List.getElem?_cons_succ]; try rfl)
        · kernel_rfl
        · kernel_rfl
        · kernel_rfl
        · exact fun _ _ _ h => h
        · refine Or.inl ⟨by rfl, ?_⟩
          (intro V hSV; (try dsimp only at hSV); obtain ⟨q0, q1⟩ := hSV; go_simp; try with_reducible rfl)
        (try simp only [Act.put, List.setIfInBounds_toArray, List.set_cons_zero, List.set_cons_succ])
        have g0 := BX.out.cell 0
        have f0 := BX.out.frozen 0
        have g1 := BX.out.cell 1
        have f1 := BX.out.frozen 1
        have g2 := BX.out.cell 2
        have f2 := BX.out.frozen 2
        have g3 := BX.out.cell 3
        have f3 := BX.out.frozen 3
        have g4 := BX.out.cell 4
        have f4 := BX.out.frozen 4
        have g5 := BX.out.cell 5
        have f5 := BX.out.frozen 5
        have BF : Hid (Blk (((((((((((((y30).setCell ⟨y1.heap.size + 1, 0, none⟩ (.int .i64 x))).setCell ⟨y1.heap.size + 1, 1, none⟩ (.int .i64 s))).setCell ⟨y1.heap.size + 1, 2, none⟩ (.int .i64 p))).setCell ⟨y1.heap.size + 1, 3, none⟩ (.int .i64 q))).setCell ⟨y1.heap.size + 1, 4, none⟩ (.int .i64 r))).setCell ⟨y1.heap.size + 1, 5, none⟩ (.slice AV T.length cV))) (y1.heap.size + 1) #[.int .i64 x, .int .i64 s, .int .i64 p, .int .i64 q, .int .i64 r, .slice AV T.length cV] 29) := Lib.hid (by simpa using ((((((BX.out.set 0 (.int .i64 x)).set 1 (.int .i64 s)).set 2 (.int .i64 p)).set 3 (.int .i64 q)).set 4 (.int .i64 r)).set 5 (.slice AV T.length cV)))
        have HBF : Hid (Below w1.heap.size w1 (((((((((((((y30).setCell ⟨y1.heap.size + 1, 0, none⟩ (.int .i64 x))).setCell ⟨y1.heap.size + 1, 1, none⟩ (.int .i64 s))).setCell ⟨y1.heap.size + 1, 2, none⟩ (.int .i64 p))).setCell ⟨y1.heap.size + 1, 3, none⟩ (.int .i64 q))).setCell ⟨y1.heap.size + 1, 4, none⟩ (.int .i64 r))).setCell ⟨y1.heap.size + 1, 5, none⟩ (.slice AV T.length cV)))) := Lib.hid ((((((HB.out.setCell (p := ⟨y1.heap.size + 1, 0, none⟩) HLO.out (.int .i64 x)).setCell (p := ⟨y1.heap.size + 1, 1, none⟩) HLO.out (.int .i64 s)).setCell (p := ⟨y1.heap.size + 1, 2, none⟩) HLO.out (.int .i64 p)).setCell (p := ⟨y1.heap.size + 1, 3, none⟩) HLO.out (.int .i64 q)).setCell (p := ⟨y1.heap.size + 1, 4, none⟩) HLO.out (.int .i64 r)).setCell (p := ⟨y1.heap.size + 1, 5, none⟩) HLO.out (.slice AV T.length cV))
        have VF : Hid (Own (((((((((((((y30).setCell ⟨y1.heap.size + 1, 0, none⟩ (.int .i64 x))).setCell ⟨y1.heap.size + 1, 1, none⟩ (.int .i64 s))).setCell ⟨y1.heap.size + 1, 2, none⟩ (.int .i64 p))).setCell ⟨y1.heap.size + 1, 3, none⟩ (.int .i64 q))).setCell ⟨y1.heap.size + 1, 4, none⟩ (.int .i64 r))).setCell ⟨y1.heap.size + 1, 5, none⟩ (.slice AV T.length cV))) w1.heap.size (.slice AV T.length cV) T) := Lib.hid ((((((VV.out.heap (fun k hk => Below.heap_setCell _ ⟨y1.heap.size + 1, 0, none⟩ (.int .i64 x) k (fun e => HVB.out k hk e))).heap (fun k hk => Below.heap_setCell _ ⟨y1.heap.size + 1, 1, none⟩ (.int .i64 s) k (fun e => HVB.out k hk e))).heap (fun k hk => Below.heap_setCell _ ⟨y1.heap.size + 1, 2, none⟩ (.int .i64 p) k (fun e => HVB.out k hk e))).heap (fun k hk => Below.heap_setCell _ ⟨y1.heap.size + 1, 3, none⟩ (.int .i64 q) k (fun e => HVB.out k hk e))).heap (fun k hk => Below.heap_setCell _ ⟨y1.heap.size + 1, 4, none⟩ (.int .i64 r) k (fun e => HVB.out k hk e))).heap (fun k hk => Below.heap_setCell _ ⟨y1.heap.size + 1, 5, none⟩ (.slice AV T.length cV) k (fun e => HVB.out k hk e)))
        have HB := HBF
        refine wpAnyH_ready (rs := [20]) (by kernel_rfl) (by simp) ?_
        refine AllReadyH.cons (o := ?_) ?_ (fun K hK => ?_) AllReadyH.nil
        rotate_left 1
        · (simp only [List.getElem?_toArray, List.getElem?_cons_zero, List.getElem?_cons_succ]; try rfl)
        go_simp
        refine hK.out _ _ (by exact (⟨(HB.out.cell (p := ⟨b, off, none⟩) hbl).trans HLx.out, (HB.out.cell (p := ⟨b, off + 1, none⟩) hbl).trans HLs.out⟩)) (fun hHeld => ?_)
        clear hK K
        (try simp only [Act.put, List.setIfInBounds_toArray, List.set_cons_zero, List.set_cons_succ])
        refine wpAnyH_done (by kernel_rfl) ?_ _
        refine NoPanic.normal ?_
        go_wp2_with fail
        go_meet
        exact ⟨y1.heap.size + 1, AV, cV, rfl, BF.out, VF.out, HLO.out, HBF.out⟩
      refine AllReadyH.cons (o := ?_) ?_ (fun K hK => ?_) AllReadyH.nil
      rotate_left 1
      · (simp only [List.getElem?_toArray, List.getElem?_cons_zero, List.getElem?_cons_succ]; try rfl)
      have hbA := (Below.refl (y1).heap.size (y1)).alloc (Nat.le_refl _) (.cells #[.int .i64 0, .int .i64 0, .int .i64 0, .int .i64 0, .int .i64 0, .slice none 0 0] 29)
      have hBX : Blk ((y1).alloc (.cells #[.int .i64 0, .int .i64 0, .int .i64 0, .int .i64 0, .int .i64 0, .slice none 0 0] 29)) (y1.heap.size) #[.int .i64 0, .int .i64 0, .int .i64 0, .int .i64 0, .int .i64 0, .slice none 0 0] 29 := by
        have h := Blk.new (y1) #[.int .i64 0, .int .i64 0, .int .i64 0, .int .i64 0, .int .i64 0, .slice none 0 0] 29
        first | exact h | simpa using h
      have BX := Lib.hid hBX
      have HLO : Hid (w1.heap.size ≤ y1.heap.size) := Lib.hid (by have h := HB.out.size; first | exact h | (simp; done) | (simp at h ⊢; omega))
      clear hBX
      have HB := Lib.hid (HB.out.trans (hbA.mono HB.out.size))
      clear hbA
      go_simp
      refine hK.out _ _ (by exact (⟨(HB.out.cell (p := ⟨b, off, none⟩) hbl).trans HLx.out, (HB.out.cell (p := ⟨b, off + 1, none⟩) hbl).trans HLs.out⟩)) (fun hHeld => ?_)
      clear hK K
      (try simp only [Act.put, List.setIfInBounds_toArray, List.set_cons_zero, List.set_cons_succ])
      refine wpAnyH_ready (rs := [11, 14]) (by kernel_rfl) (by simp) ?_
      refine AllReadyH.cons (o := ?_) ?_ (fun K hK => ?_) ?_
      rotate_left 1
      · (simp only [List.getElem?_toArray, List.getElem?_cons_zero, List.getElem?_cons_succ]; try rfl)
      · go_simp
        refine (l09At_any (some ⟨b, off, none⟩) l c 4 _ hn9 (by omega) (by exact hA.below HB.out)).mono ?_
        rintro e y31 ⟨rfl, hE⟩
        have hb : Below (((y1).alloc (.cells #[.int .i64 0, .int .i64 0, .int .i64 0, .int .i64 0, .int .i64 0, .slice none 0 0] 29))).heap.size (((y1).alloc (.cells #[.int .i64 0, .int .i64 0, .int .i64 0, .int .i64 0, .int .i64 0, .slice none 0 0] 29))) y31 := by obtain ⟨n, rfl⟩ := hE; exact below_of_drewN _ n
        rw [HWq.out]
        have HB := Lib.hid (HB.out.trans (hb.mono HB.out.size))
        have BX := Lib.hid (BX.out.below hb)
        clear hb hE
        go_wp2_with fail
        refine hK.out _ _ (by exact (⟨(HB.out.cell (p := ⟨b, off, none⟩) hbl).trans HLx.out, (HB.out.cell (p := ⟨b, off + 1, none⟩) hbl).trans HLs.out⟩)) (fun hHeld => ?_)
        clear hK K
        (try simp only [Act.put, List.setIfInBounds_toArray, List.set_cons_zero, List.set_cons_succ])
        refine wpAnyH_ready (rs := [13, 14]) (by kernel_rfl) (by simp) ?_
        refine AllReadyH.cons (o := ?_) ?_ (fun K hK => ?_) ?_
        rotate_left 1
        · (simp only [List.getElem?_toArray, List.getElem?_cons_zero, List.getElem?_cons_succ]; try rfl)
        · go_simp
          refine (l09At_any (some ⟨b, off, none⟩) l c 6 _ hn9 (by omega) (by exact hA.below HB.out)).mono ?_
          rintro e y32 ⟨rfl, hE⟩
          have hb : Below (y31).heap.size (y31) y32 := by obtain ⟨n, rfl⟩ := hE; exact below_of_drewN _ n
          rw [HWr.out]
          have HB := Lib.hid (HB.out.trans (hb.mono HB.out.size))
          have BX := Lib.hid (BX.out.below hb)
          clear hb hE
          go_wp2_with fail
          refine hK.out _ _ (by exact (⟨(HB.out.cell (p := ⟨b, off, none⟩) hbl).trans HLx.out, (HB.out.cell (p := ⟨b, off + 1, none⟩) hbl).trans HLs.out⟩)) (fun hHeld => ?_)
          clear hK K
          (try simp only [Act.put, List.setIfInBounds_toArray, List.set_cons_zero, List.set_cons_succ])
          refine wpAnyH_ready (rs := [14]) (by kernel_rfl) (by simp) ?_
          refine AllReadyH.cons (o := ?_) ?_ (fun K hK => ?_) AllReadyH.nil
          rotate_left 1
          · (simp only [List.getElem?_toArray, List.getElem?_cons_zero, List.getElem?_cons_succ]; try rfl)
          have hbA := (Below.refl (y32).heap.size (y32)).alloc (Nat.le_refl _) (.cells #[] 5)
          have hE0 : Own ((y32).alloc (.cells #[] 5)) w1.heap.size (.slice (some ⟨y32.heap.size, 0, none⟩) 0 0) [] := by
            have h := Own.mono (show Own ((y32).alloc (.cells #[] 5)) (y32).heap.size (.slice (some ⟨(y32).heap.size, 0, none⟩) 0 0) [] from Own.new (y32) [] (by simp [maxLen])) (show w1.heap.size ≤ (y32).heap.size from HB.out.size)
            first | exact h | simpa using h
          have E0 := Lib.hid hE0
          clear hE0
          have HNE : Hid (y1.heap.size ≠ y32.heap.size) := Lib.hid (Nat.ne_of_lt (by have h := BX.out.lt; first | exact h | (simp; done) | (simp at h ⊢; omega)))
          have HB := Lib.hid (HB.out.trans (hbA.mono HB.out.size))
          have BX := Lib.hid (BX.out.below hbA)
          clear hbA
          go_simp
          refine hK.out _ _ (by exact (⟨(HB.out.cell (p := ⟨b, off, none⟩) hbl).trans HLx.out, (HB.out.cell (p := ⟨b, off + 1, none⟩) hbl).trans HLs.out⟩)) (fun hHeld => ?_)
          clear hK K
          (try simp only [Act.put, List.setIfInBounds_toArray, List.set_cons_zero, List.set_cons_succ])
          refine wpAnyH_ready (rs := [17]) (by kernel_rfl) (by simp) ?_
          refine AllReadyH.cons (o := ?_) ?_ (fun K hK => ?_) AllReadyH.nil
          rotate_left 1
          · (simp only [List.getElem?_toArray, List.getElem?_cons_zero, List.getElem?_cons_succ]; try rfl)
          have hfresh := E0.out.range
          refine step_app_bytes9 rfl (.tmp 23) (.tmp 25) rfl _ (Value.slice (some ⟨y32.heap.size, 0, none⟩) 0 0) [] T D N rc rfl rfl HN.out (by exact E0.out) (by exact HS.out.below HB.out) (by simp; omega) (by exact HB.out.size) ?_
          intro v9 y34 hown hg hv9
          have hg : World.grownBy (((y32).alloc (.cells #[] 5))) y34 (Value.slice (some ⟨y32.heap.size, 0, none⟩) 0 0).ownBlock := ⟨hg.os, hg.tape, hg.output, hg.size, hg.block⟩
          have hke := Keeps.of_grown hg
          have hown : Own y34 w1.heap.size v9 T := hown
          have hbbl := BX.out.lt
          have BX := Lib.hid (BX.out.of_block (hke.block _ BX.out.lt (fun h => by first | (simp [Value.ownBlock] at h; done) | (have h2 := h; simp only [Value.ownBlock, Option.toList_some, List.mem_singleton] at h2; exact HNE.out h2))))
          have HB := Lib.hid (HB.out.trans (hke.below (B := w1.heap.size) HB.out.size (fun k hk => (hfresh k hk).1)))
          obtain ⟨AV, cV, rfl, lV, kV, _, _, _⟩ := own_plain9 hown
          have VV := Lib.hid hown
          have HVB : Hid (∀ k ∈ (Value.slice AV T.length cV).ownBlock.toList, k ≠ y1.heap.size) := Lib.hid (fun k hk e => by
            rcases hv9 with h | h
            · have h3 : k = y32.heap.size := by rw [h] at hk; simpa [Value.ownBlock] using hk
              exact HNE.out (e.symm.trans h3)
            · have h3 : k = (((y32).alloc (.cells #[] 5))).heap.size := by rw [h] at hk; simpa using hk
              have h2 : y1.heap.size < (((y32).alloc (.cells #[] 5))).heap.size := hbbl
              omega)
          clear hbbl
          clear hke hg hown hfresh
          (try go_simp)
          refine hK.out _ _ (by exact (⟨(HB.out.cell (p := ⟨b, off, none⟩) hbl).trans HLx.out, (HB.out.cell (p := ⟨b, off + 1, none⟩) hbl).trans HLs.out⟩)) (fun hHeld => ?_)
          clear hK K
          (try simp only [Act.put, List.setIfInBounds_toArray, List.set_cons_zero, List.set_cons_succ])
          refine wpAnyH_take (i := 18) (oi := ?_) (v := ?_) ?_ ?_ ?_ ?_ ?_ ?_ (by exact hHeld) ?_
          rotate_left 2
          · (simp only [List.getElem?_toArray, List.getElem?_cons_zero, List.getElem?_cons_succ]; try rfl)
          · kernel_rfl
          · kernel_rfl
          · kernel_rfl
          · exact fun _ _ _ h => h
          · refine Or.inl ⟨by rfl, ?_⟩
            (intro V hSV; (try dsimp only at hSV); obtain ⟨q0, q1⟩ := hSV; go_simp; try with_reducible rfl)
          (try simp only [Act.put, List.setIfInBounds_toArray, List.set_cons_zero, List.set_cons_succ])
          have g0 := BX.out.cell 0
          have f0 := BX.out.frozen 0
          have g1 := BX.out.cell 1
          have f1 := BX.out.frozen 1
          have g2 := BX.out.cell 2
          have f2 := BX.out.frozen 2
          have g3 := BX.out.cell 3
          have f3 := BX.out.frozen 3
          have g4 := BX.out.cell 4
          have f4 := BX.out.frozen 4
          have g5 := BX.out.cell 5
          have f5 := BX.out.frozen 5
          have BF : Hid (Blk (((((((((((((y34).setCell ⟨y1.heap.size, 0, none⟩ (.int .i64 x))).setCell ⟨y1.heap.size, 1, none⟩ (.int .i64 s))).setCell ⟨y1.heap.size, 2, none⟩ (.int .i64 p))).setCell ⟨y1.heap.size, 3, none⟩ (.int .i64 q))).setCell ⟨y1.heap.size, 4, none⟩ (.int .i64 r))).setCell ⟨y1.heap.size, 5, none⟩ (.slice AV T.length cV))) (y1.heap.size) #[.int .i64 x, .int .i64 s, .int .i64 p, .int .i64 q, .int .i64 r, .slice AV T.length cV] 29) := Lib.hid (by simpa using ((((((BX.out.set 0 (.int .i64 x)).set 1 (.int .i64 s)).set 2 (.int .i64 p)).set 3 (.int .i64 q)).set 4 (.int .i64 r)).set 5 (.slice AV T.length cV)))
          have HBF : Hid (Below w1.heap.size w1 (((((((((((((y34).setCell ⟨y1.heap.size, 0, none⟩ (.int .i64 x))).setCell ⟨y1.heap.size, 1, none⟩ (.int .i64 s))).setCell ⟨y1.heap.size, 2, none⟩ (.int .i64 p))).setCell ⟨y1.heap.size, 3, none⟩ (.int .i64 q))).setCell ⟨y1.heap.size, 4, none⟩ (.int .i64 r))).setCell ⟨y1.heap.size, 5, none⟩ (.slice AV T.length cV)))) := Lib.hid ((((((HB.out.setCell (p := ⟨y1.heap.size, 0, none⟩) HLO.out (.int .i64 x)).setCell (p := ⟨y1.heap.size, 1, none⟩) HLO.out (.int .i64 s)).setCell (p := ⟨y1.heap.size, 2, none⟩) HLO.out (.int .i64 p)).setCell (p := ⟨y1.heap.size, 3, none⟩) HLO.out (.int .i64 q)).setCell (p := ⟨y1.heap.size, 4, none⟩) HLO.out (.int .i64 r)).setCell (p := ⟨y1.heap.size, 5, none⟩) HLO.out (.slice AV T.length cV))
          have VF : Hid (Own (((((((((((((y34).setCell ⟨y1.heap.size, 0, none⟩ (.int .i64 x))).setCell ⟨y1.heap.size, 1, none⟩ (.int .i64 s))).setCell ⟨y1.heap.size, 2, none⟩ (.int .i64 p))).setCell ⟨y1.heap.size, 3, none⟩ (.int .i64 q))).setCell ⟨y1.heap.size, 4, none⟩ (.int .i64 r))).setCell ⟨y1.heap.size, 5, none⟩ (.slice AV T.length cV))) w1.heap.size (.slice AV T.length cV) T) := Lib.hid ((((((VV.out.heap (fun k hk => Below.heap_setCell _ ⟨y1.heap.size, 0, none⟩ (.int .i64 x) k (fun e => HVB.out k hk e))).heap (fun k hk => Below.heap_setCell _ ⟨y1.heap.size, 1, none⟩ (.int .i64 s) k (fun e => HVB.out k hk e))).heap (fun k hk => Below.heap_setCell _ ⟨y1.heap.size, 2, none⟩ (.int .i64 p) k (fun e => HVB.out k hk e))).heap (fun k hk => Below.heap_setCell _ ⟨y1.heap.size, 3, none⟩ (.int .i64 q) k (fun e => HVB.out k hk e))).heap (fun k hk => Below.heap_setCell _ ⟨y1.heap.size, 4, none⟩ (.int .i64 r) k (fun e => HVB.out k hk e))).heap (fun k hk => Below.heap_setCell _ ⟨y1.heap.size, 5, none⟩ (.slice AV T.length cV) k (fun e => HVB.out k hk e)))
          have HB := HBF
          refine wpAnyH_ready (rs := [20]) (by kernel_rfl) (by simp) ?_
          refine AllReadyH.cons (o := ?_) ?_ (fun K hK => ?_) AllReadyH.nil
          rotate_left 1
          · (simp only [List.getElem?_toArray, List.getElem?_cons_zero, List.getElem?_cons_succ]; try rfl)
          go_simp
          refine hK.out _ _ (by exact (⟨(HB.out.cell (p := ⟨b, off, none⟩) hbl).trans HLx.out, (HB.out.cell (p := ⟨b, off + 1, none⟩) hbl).trans HLs.out⟩)) (fun hHeld => ?_)
          clear hK K
          (try simp only [Act.put, List.setIfInBounds_toArray, List.set_cons_zero, List.set_cons_succ])
          refine wpAnyH_done (by kernel_rfl) ?_ _
          refine NoPanic.normal ?_
          go_wp2_with fail
          go_meet
          exact ⟨y1.heap.size, AV, cV, rfl, BF.out, VF.out, HLO.out, HBF.out⟩
        refine AllReadyH.cons (o := ?_) ?_ (fun K hK => ?_) AllReadyH.nil
        rotate_left 1
        · (simp only [List.getElem?_toArray, List.getElem?_cons_zero, List.getElem?_cons_succ]; try rfl)
        have hbA := (Below.refl (y31).heap.size (y31)).alloc (Nat.le_refl _) (.cells #[] 5)
        have hE0 : Own ((y31).alloc (.cells #[] 5)) w1.heap.size (.slice (some ⟨y31.heap.size, 0, none⟩) 0 0) [] := by
          have h := Own.mono (show Own ((y31).alloc (.cells #[] 5)) (y31).heap.size (.slice (some ⟨(y31).heap.size, 0, none⟩) 0 0) [] from Own.new (y31) [] (by simp [maxLen])) (show w1.heap.size ≤ (y31).heap.size from HB.out.size)
          first | exact h | simpa using h
        have E0 := Lib.hid hE0
        clear hE0
        have HNE : Hid (y1.heap.size ≠ y31.heap.size) := Lib.hid (Nat.ne_of_lt (by have h := BX.out.lt; first | exact h | (simp; done) | (simp at h ⊢; omega)))
        have HB := Lib.hid (HB.out.trans (hbA.mono HB.out.size))
        have BX := Lib.hid (BX.out.below hbA)
        clear hbA
        go_simp
        refine hK.out _ _ (by exact (⟨(HB.out.cell (p := ⟨b, off, none⟩) hbl).trans HLx.out, (HB.out.cell (p := ⟨b, off + 1, none⟩) hbl).trans HLs.out⟩)) (fun hHeld => ?_)
        clear hK K
        (try simp only [Act.put, List.setIfInBounds_toArray, List.set_cons_zero, List.set_cons_succ])
        refine wpAnyH_ready (rs := [13]) (by kernel_rfl) (by simp) ?_
        refine AllReadyH.cons (o := ?_) ?_ (fun K hK => ?_) AllReadyH.nil
        rotate_left 1
        · (simp only [List.getElem?_toArray, List.getElem?_cons_zero, List.getElem?_cons_succ]; try rfl)
        go_simp
        refine (l09At_any (some ⟨b, off, none⟩) l c 6 _ hn9 (by omega) (by exact hA.below HB.out)).mono ?_
        rintro e y36 ⟨rfl, hE⟩
        have hb : Below (((y31).alloc (.cells #[] 5))).heap.size (((y31).alloc (.cells #[] 5))) y36 := by obtain ⟨n, rfl⟩ := hE; exact below_of_drewN _ n
        rw [HWr.out]
        have HB := Lib.hid (HB.out.trans (hb.mono HB.out.size))
        have BX := Lib.hid (BX.out.below hb)
        have E0 := Lib.hid (E0.out.below hb)
        clear hb hE
        go_wp2_with fail
        refine hK.out _ _ (by exact (⟨(HB.out.cell (p := ⟨b, off, none⟩) hbl).trans HLx.out, (HB.out.cell (p := ⟨b, off + 1, none⟩) hbl).trans HLs.out⟩)) (fun hHeld => ?_)
        clear hK K
        (try simp only [Act.put, List.setIfInBounds_toArray, List.set_cons_zero, List.set_cons_succ])
        refine wpAnyH_ready (rs := [17]) (by kernel_rfl) (by simp) ?_
        refine AllReadyH.cons (o := ?_) ?_ (fun K hK => ?_) AllReadyH.nil
        rotate_left 1
        · (simp only [List.getElem?_toArray, List.getElem?_cons_zero, List.getElem?_cons_succ]; try rfl)
        have hfresh := E0.out.range
        refine step_app_bytes9 rfl (.tmp 23) (.tmp 25) rfl _ (Value.slice (some ⟨y31.heap.size, 0, none⟩) 0 0) [] T D N rc rfl rfl HN.out (by exact E0.out) (by exact HS.out.below HB.out) (by simp; omega) (by exact HB.out.size) ?_
        intro v9 y37 hown hg hv9
        have hg : World.grownBy (y36) y37 (Value.slice (some ⟨y31.heap.size, 0, none⟩) 0 0).ownBlock := ⟨hg.os, hg.tape, hg.output, hg.size, hg.block⟩
        have hke := Keeps.of_grown hg
        have hown : Own y37 w1.heap.size v9 T := hown
        have hbbl := BX.out.lt
        have BX := Lib.hid (BX.out.of_block (hke.block _ BX.out.lt (fun h => by first | (simp [Value.ownBlock] at h; done) | (have h2 := h; simp only [Value.ownBlock, Option.toList_some, List.mem_singleton] at h2; exact HNE.out h2))))
        have HB := Lib.hid (HB.out.trans (hke.below (B := w1.heap.size) HB.out.size (fun k hk => (hfresh k hk).1)))
        obtain ⟨AV, cV, rfl, lV, kV, _, _, _⟩ := own_plain9 hown
        have VV := Lib.hid hown
        have HVB : Hid (∀ k ∈ (Value.slice AV T.length cV).ownBlock.toList, k ≠ y1.heap.size) := Lib.hid (fun k hk e => by
          rcases hv9 with h | h
          · have h3 : k = y31.heap.size := by rw [h] at hk; simpa [Value.ownBlock] using hk
            exact HNE.out (e.symm.trans h3)
          · have h3 : k = (y36).heap.size := by rw [h] at hk; simpa using hk
            have h2 : y1.heap.size < (y36).heap.size := hbbl
            omega)
        clear hbbl
        clear hke hg hown hfresh
        (try go_simp)
        refine hK.out _ _ (by exact (⟨(HB.out.cell (p := ⟨b, off, none⟩) hbl).trans HLx.out, (HB.out.cell (p := ⟨b, off + 1, none⟩) hbl).trans HLs.out⟩)) (fun hHeld => ?_)
        clear hK K
        (try simp only [Act.put, List.setIfInBounds_toArray, List.set_cons_zero, List.set_cons_succ])
        refine wpAnyH_take (i := 18) (oi := ?_) (v := ?_) ?_ ?_ ?_ ?_ ?_ ?_ (by exact hHeld) ?_
        rotate_left 2
        · (simp only [List.getElem?_toArray, List.getElem?_cons_zero, List.getElem?_cons_succ]; try rfl)
        · kernel_rfl
        · kernel_rfl
        · kernel_rfl
        · exact fun _ _ _ h => h
        · refine Or.inl ⟨by rfl, ?_⟩
          (intro V hSV; (try dsimp only at hSV); obtain ⟨q0, q1⟩ := hSV; go_simp; try with_reducible rfl)
        (try simp only [Act.put, List.setIfInBounds_toArray, List.set_cons_zero, List.set_cons_succ])
        have g0 := BX.out.cell 0
        have f0 := BX.out.frozen 0
        have g1 := BX.out.cell 1
        have f1 := BX.out.frozen 1
        have g2 := BX.out.cell 2
        have f2 := BX.out.frozen 2
        have g3 := BX.out.cell 3
        have f3 := BX.out.frozen 3
        have g4 := BX.out.cell 4
        have f4 := BX.out.frozen 4
        have g5 := BX.out.cell 5
        have f5 := BX.out.frozen 5
        have BF : Hid (Blk (((((((((((((y37).setCell ⟨y1.heap.size, 0, none⟩ (.int .i64 x))).setCell ⟨y1.heap.size, 1, none⟩ (.int .i64 s))).setCell ⟨y1.heap.size, 2, none⟩ (.int .i64 p))).setCell ⟨y1.heap.size, 3, none⟩ (.int .i64 q))).setCell ⟨y1.heap.size, 4, none⟩ (.int .i64 r))).setCell ⟨y1.heap.size, 5, none⟩ (.slice AV T.length cV))) (y1.heap.size) #[.int .i64 x, .int .i64 s, .int .i64 p, .int .i64 q, .int .i64 r, .slice AV T.length cV] 29) := Lib.hid (by simpa using ((((((BX.out.set 0 (.int .i64 x)).set 1 (.int .i64 s)).set 2 (.int .i64 p)).set 3 (.int .i64 q)).set 4 (.int .i64 r)).set 5 (.slice AV T.length cV)))
        have HBF : Hid (Below w1.heap.size w1 (((((((((((((y37).setCell ⟨y1.heap.size, 0, none⟩ (.int .i64 x))).setCell ⟨y1.heap.size, 1, none⟩ (.int .i64 s))).setCell ⟨y1.heap.size, 2, none⟩ (.int .i64 p))).setCell ⟨y1.heap.size, 3, none⟩ (.int .i64 q))).setCell ⟨y1.heap.size, 4, none⟩ (.int .i64 r))).setCell ⟨y1.heap.size, 5, none⟩ (.slice AV T.length cV)))) := Lib.hid ((((((HB.out.setCell (p := ⟨y1.heap.size, 0, none⟩) HLO.out (.int .i64 x)).setCell (p := ⟨y1.heap.size, 1, none⟩) HLO.out (.int .i64 s)).setCell (p := ⟨y1.heap.size, 2, none⟩) HLO.out (.int .i64 p)).setCell (p := ⟨y1.heap.size, 3, none⟩) HLO.out (.int .i64 q)).setCell (p := ⟨y1.heap.size, 4, none⟩) HLO.out (.int .i64 r)).setCell (p := ⟨y1.heap.size, 5, none⟩) HLO.out (.slice AV T.length cV))
        have VF : Hid (Own (((((((((((((y37).setCell ⟨y1.heap.size, 0, none⟩ (.int .i64 x))).setCell ⟨y1.heap.size, 1, none⟩ (.int .i64 s))).setCell ⟨y1.heap.size, 2, none⟩ (.int .i64 p))).setCell ⟨y1.heap.size, 3, none⟩ (.int .i64 q))).setCell ⟨y1.heap.size, 4, none⟩ (.int .i64 r))).setCell ⟨y1.heap.size, 5, none⟩ (.slice AV T.length cV))) w1.heap.size (.slice AV T.length cV) T) := Lib.hid ((((((VV.out.heap (fun k hk => Below.heap_setCell _ ⟨y1.heap.size, 0, none⟩ (.int .i64 x) k (fun e => HVB.out k hk e))).heap (fun k hk => Below.heap_setCell _ ⟨y1.heap.size, 1, none⟩ (.int .i64 s) k (fun e => HVB.out k hk e))).heap (fun k hk => Below.heap_setCell _ ⟨y1.heap.size, 2, none⟩ (.int .i64 p) k (fun e => HVB.out k hk e))).heap (fun k hk => Below.heap_setCell _ ⟨y1.heap.size, 3, none⟩ (.int .i64 q) k (fun e => HVB.out k hk e))).heap (fun k hk => Below.heap_setCell _ ⟨y1.heap.size, 4, none⟩ (.int .i64 r) k (fun e => HVB.out k hk e))).heap (fun k hk => Below.heap_setCell _ ⟨y1.heap.size, 5, none⟩ (.slice AV T.length cV) k (fun e => HVB.out k hk e)))
        have HB := HBF
        refine wpAnyH_ready (rs := [20]) (by kernel_rfl) (by simp) ?_
        refine AllReadyH.cons (o := ?_) ?_ (fun K hK => ?_) AllReadyH.nil
        rotate_left 1
        · (simp only [List.getElem?_toArray, List.getElem?_cons_zero, List.getElem?_cons_succ]; try rfl)
        go_simp
        refine hK.out _ _ (by exact (⟨(HB.out.cell (p := ⟨b, off, none⟩) hbl).trans HLx.out, (HB.out.cell (p := ⟨b, off + 1, none⟩) hbl).trans HLs.out⟩)) (fun hHeld => ?_)
        clear hK K
        (try simp only [Act.put, List.setIfInBounds_toArray, List.set_cons_zero, List.set_cons_succ])
        refine wpAnyH_done (by kernel_rfl) ?_ _
        refine NoPanic.normal ?_
        go_wp2_with fail
        go_meet
        exact ⟨y1.heap.size, AV, cV, rfl, BF.out, VF.out, HLO.out, HBF.out⟩
      refine AllReadyH.cons (o := ?_) ?_ (fun K hK => ?_) AllReadyH.nil
      rotate_left 1
      · (simp only [List.getElem?_toArray, List.getElem?_cons_zero, List.getElem?_cons_succ]; try rfl)
      have hbA := (Below.refl (((y1).alloc (.cells #[.int .i64 0, .int .i64 0, .int .i64 0, .int .i64 0, .int .i64 0, .slice none 0 0] 29))).heap.size (((y1).alloc (.cells #[.int .i64 0, .int .i64 0, .int .i64 0, .int .i64 0, .int .i64 0, .slice none 0 0] 29)))).alloc (Nat.le_refl _) (.cells #[] 5)
      have hE0 : Own ((((y1).alloc (.cells #[.int .i64 0, .int .i64 0, .int .i64 0, .int .i64 0, .int .i64 0, .slice none 0 0] 29))).alloc (.cells #[] 5)) w1.heap.size (.slice (some ⟨y1.heap.size + 1, 0, none⟩) 0 0) [] := by
        have h := Own.mono (show Own ((((y1).alloc (.cells #[.int .i64 0, .int .i64 0, .int .i64 0, .int .i64 0, .int .i64 0, .slice none 0 0] 29))).alloc (.cells #[] 5)) (((y1).alloc (.cells #[.int .i64 0, .int .i64 0, .int .i64 0, .int .i64 0, .int .i64 0, .slice none 0 0] 29))).heap.size (.slice (some ⟨(((y1).alloc (.cells #[.int .i64 0, .int .i64 0, .int .i64 0, .int .i64 0, .int .i64 0, .slice none 0 0] 29))).heap.size, 0, none⟩) 0 0) [] from Own.new (((y1).alloc (.cells #[.int .i64 0, .int .i64 0, .int .i64 0, .int .i64 0, .int .i64 0, .slice none 0 0] 29))) [] (by simp [maxLen])) (show w1.heap.size ≤ (((y1).alloc (.cells #[.int .i64 0, .int .i64 0, .int .i64 0, .int .i64 0, .int .i64 0, .slice none 0 0] 29))).heap.size from HB.out.size)
        first | exact h | simpa using h
      have E0 := Lib.hid hE0
      clear hE0
      have HNE : Hid (y1.heap.size ≠ y1.heap.size + 1) := Lib.hid (Nat.ne_of_lt (by have h := BX.out.lt; first | exact h | (simp; done) | (simp at h ⊢; omega)))
      have HB := Lib.hid (HB.out.trans (hbA.mono HB.out.size))
      have BX := Lib.hid (BX.out.below hbA)
      clear hbA
      go_simp
      refine hK.out _ _ (by exact (⟨(HB.out.cell (p := ⟨b, off, none⟩) hbl).trans HLx.out, (HB.out.cell (p := ⟨b, off + 1, none⟩) hbl).trans HLs.out⟩)) (fun hHeld => ?_)
      clear hK K
      (try simp only [Act.put, List.setIfInBounds_toArray, List.set_cons_zero, List.set_cons_succ])
      refine wpAnyH_ready (rs := [11]) (by kernel_rfl) (by simp) ?_
      refine AllReadyH.cons (o := ?_) ?_ (fun K hK => ?_) AllReadyH.nil
      rotate_left 1
      · (simp only [List.getElem?_toArray, List.getElem?_cons_zero, List.getElem?_cons_succ]; try rfl)
      go_simp
      refine (l09At_any (some ⟨b, off, none⟩) l c 4 _ hn9 (by omega) (by exact hA.below HB.out)).mono ?_
      rintro e y39 ⟨rfl, hE⟩
      have hb : Below (((((y1).alloc (.cells #[.int .i64 0, .int .i64 0, .int .i64 0, .int .i64 0, .int .i64 0, .slice none 0 0] 29))).alloc (.cells #[] 5))).heap.size (((((y1).alloc (.cells #[.int .i64 0, .int .i64 0, .int .i64 0, .int .i64 0, .int .i64 0, .slice none 0 0] 29))).alloc (.cells #[] 5))) y39 := by obtain ⟨n, rfl⟩ := hE; exact below_of_drewN _ n
      rw [HWq.out]
      have HB := Lib.hid (HB.out.trans (hb.mono HB.out.size))
      have BX := Lib.hid (BX.out.below hb)
      have E0 := Lib.hid (E0.out.below hb)
      clear hb hE
      go_wp2_with fail
      refine hK.out _ _ (by exact (⟨(HB.out.cell (p := ⟨b, off, none⟩) hbl).trans HLx.out, (HB.out.cell (p := ⟨b, off + 1, none⟩) hbl).trans HLs.out⟩)) (fun hHeld => ?_)
      clear hK K
      (try simp only [Act.put, List.setIfInBounds_toArray, List.set_cons_zero, List.set_cons_succ])
      refine wpAnyH_ready (rs := [13]) (by kernel_rfl) (by simp) ?_
      refine AllReadyH.cons (o := ?_) ?_ (fun K hK => ?_) AllReadyH.nil
      rotate_left 1
      · (simp only [List.getElem?_toArray, List.getElem?_cons_zero, List.getElem?_cons_succ]; try rfl)
      go_simp
      refine (l09At_any (some ⟨b, off, none⟩) l c 6 _ hn9 (by omega) (by exact hA.below HB.out)).mono ?_
      rintro e y40 ⟨rfl, hE⟩
      have hb : Below (y39).heap.size (y39) y40 := by obtain ⟨n, rfl⟩ := hE; exact below_of_drewN _ n
      rw [HWr.out]
      have HB := Lib.hid (HB.out.trans (hb.mono HB.out.size))
      have BX := Lib.hid (BX.out.below hb)
      have E0 := Lib.hid (E0.out.below hb)
      clear hb hE
      go_wp2_with fail
      refine hK.out _ _ (by exact (⟨(HB.out.cell (p := ⟨b, off, none⟩) hbl).trans HLx.out, (HB.out.cell (p := ⟨b, off + 1, none⟩) hbl).trans HLs.out⟩)) (fun hHeld => ?_)
      clear hK K
      (try simp only [Act.put, List.setIfInBounds_toArray, List.set_cons_zero, List.set_cons_succ])
      refine wpAnyH_ready (rs := [17]) (by kernel_rfl) (by simp) ?_
      refine AllReadyH.cons (o := ?_) ?_ (fun K hK => ?_) AllReadyH.nil
      rotate_left 1
      · (simp only [List.getElem?_toArray, List.getElem?_cons_zero, List.getElem?_cons_succ]; try rfl)
      have hfresh := E0.out.range
      refine step_app_bytes9 rfl (.tmp 23) (.tmp 25) rfl _ (Value.slice (some ⟨y1.heap.size + 1, 0, none⟩) 0 0) [] T D N rc rfl rfl HN.out (by exact E0.out) (by exact HS.out.below HB.out) (by simp; omega) (by exact HB.out.size) ?_
      intro v9 y41 hown hg hv9
      have hg : World.grownBy (y40) y41 (Value.slice (some ⟨y1.heap.size + 1, 0, none⟩) 0 0).ownBlock := ⟨hg.os, hg.tape, hg.output, hg.size, hg.block⟩
      have hke := Keeps.of_grown hg
      have hown : Own y41 w1.heap.size v9 T := hown
      have hbbl := BX.out.lt
      have BX := Lib.hid (BX.out.of_block (hke.block _ BX.out.lt (fun h => by first | (simp [Value.ownBlock] at h; done) | (have h2 := h; simp only [Value.ownBlock, Option.toList_some, List.mem_singleton] at h2; exact HNE.out h2))))
      have HB := Lib.hid (HB.out.trans (hke.below (B := w1.heap.size) HB.out.size (fun k hk => (hfresh k hk).1)))
      obtain ⟨AV, cV, rfl, lV, kV, _, _, _⟩ := own_plain9 hown
      have VV := Lib.hid hown
      have HVB : Hid (∀ k ∈ (Value.slice AV T.length cV).ownBlock.toList, k ≠ y1.heap.size) := Lib.hid (fun k hk e => by
        rcases hv9 with h | h
        · have h3 : k = y1.heap.size + 1 := by rw [h] at hk; simpa [Value.ownBlock] using hk
          exact HNE.out (e.symm.trans h3)
        · have h3 : k = (y40).heap.size := by rw [h] at hk; simpa using hk
          have h2 : y1.heap.size < (y40).heap.size := hbbl
          omega)
      clear hbbl
      clear hke hg hown hfresh
      (try go_simp)
      refine hK.out _ _ (by exact (⟨(HB.out.cell (p := ⟨b, off, none⟩) hbl).trans HLx.out, (HB.out.cell (p := ⟨b, off + 1, none⟩) hbl).trans HLs.out⟩)) (fun hHeld => ?_)
      clear hK K
      (try simp only [Act.put, List.setIfInBounds_toArray, List.set_cons_zero, List.set_cons_succ])
      refine wpAnyH_take (i := 18) (oi := ?_) (v := ?_) ?_ ?_ ?_ ?_ ?_ ?_ (by exact hHeld) ?_
      rotate_left 2
      · (simp only [List.getElem?_toArray, List.getElem?_cons_zero, List.getElem?_cons_succ]; try rfl)
      · kernel_rfl
      · kernel_rfl
      · kernel_rfl
      · exact fun _ _ _ h => h
      · refine Or.inl ⟨by rfl, ?_⟩
        (intro V hSV; (try dsimp only at hSV); obtain ⟨q0, q1⟩ := hSV; go_simp; try with_reducible rfl)
      (try simp only [Act.put, List.setIfInBounds_toArray, List.set_cons_zero, List.set_cons_succ])
      have g0 := BX.out.cell 0
      have f0 := BX.out.frozen 0
      have g1 := BX.out.cell 1
      have f1 := BX.out.frozen 1
      have g2 := BX.out.cell 2
      have f2 := BX.out.frozen 2
      have g3 := BX.out.cell 3
      have f3 := BX.out.frozen 3
      have g4 := BX.out.cell 4
      have f4 := BX.out.frozen 4
      have g5 := BX.out.cell 5
      have f5 := BX.out.frozen 5
      have BF : Hid (Blk (((((((((((((y41).setCell ⟨y1.heap.size, 0, none⟩ (.int .i64 x))).setCell ⟨y1.heap.size, 1, none⟩ (.int .i64 s))).setCell ⟨y1.heap.size, 2, none⟩ (.int .i64 p))).setCell ⟨y1.heap.size, 3, none⟩ (.int .i64 q))).setCell ⟨y1.heap.size, 4, none⟩ (.int .i64 r))).setCell ⟨y1.heap.size, 5, none⟩ (.slice AV T.length cV))) (y1.heap.size) #[.int .i64 x, .int .i64 s, .int .i64 p, .int .i64 q, .int .i64 r, .slice AV T.length cV] 29) := Lib.hid (by simpa using ((((((BX.out.set 0 (.int .i64 x)).set 1 (.int .i64 s)).set 2 (.int .i64 p)).set 3 (.int .i64 q)).set 4 (.int .i64 r)).set 5 (.slice AV T.length cV)))
      have HBF : Hid (Below w1.heap.size w1 (((((((((((((y41).setCell ⟨y1.heap.size, 0, none⟩ (.int .i64 x))).setCell ⟨y1.heap.size, 1, none⟩ (.int .i64 s))).setCell ⟨y1.heap.size, 2, none⟩ (.int .i64 p))).setCell ⟨y1.heap.size, 3, none⟩ (.int .i64 q))).setCell ⟨y1.heap.size, 4, none⟩ (.int .i64 r))).setCell ⟨y1.heap.size, 5, none⟩ (.slice AV T.length cV)))) := Lib.hid ((((((HB.out.setCell (p := ⟨y1.heap.size, 0, none⟩) HLO.out (.int .i64 x)).setCell (p := ⟨y1.heap.size, 1, none⟩) HLO.out (.int .i64 s)).setCell (p := ⟨y1.heap.size, 2, none⟩) HLO.out (.int .i64 p)).setCell (p := ⟨y1.heap.size, 3, none⟩) HLO.out (.int .i64 q)).setCell (p := ⟨y1.heap.size, 4, none⟩) HLO.out (.int .i64 r)).setCell (p := ⟨y1.heap.size, 5, none⟩) HLO.out (.slice AV T.length cV))
      have VF : Hid (Own (((((((((((((y41).setCell ⟨y1.heap.size, 0, none⟩ (.int .i64 x))).setCell ⟨y1.heap.size, 1, none⟩ (.int .i64 s))).setCell ⟨y1.heap.size, 2, none⟩ (.int .i64 p))).setCell ⟨y1.heap.size, 3, none⟩ (.int .i64 q))).setCell ⟨y1.heap.size, 4, none⟩ (.int .i64 r))).setCell ⟨y1.heap.size, 5, none⟩ (.slice AV T.length cV))) w1.heap.size (.slice AV T.length cV) T) := Lib.hid ((((((VV.out.heap (fun k hk => Below.heap_setCell _ ⟨y1.heap.size, 0, none⟩ (.int .i64 x) k (fun e => HVB.out k hk e))).heap (fun k hk => Below.heap_setCell _ ⟨y1.heap.size, 1, none⟩ (.int .i64 s) k (fun e => HVB.out k hk e))).heap (fun k hk => Below.heap_setCell _ ⟨y1.heap.size, 2, none⟩ (.int .i64 p) k (fun e => HVB.out k hk e))).heap (fun k hk => Below.heap_setCell _ ⟨y1.heap.size, 3, none⟩ (.int .i64 q) k (fun e => HVB.out k hk e))).heap (fun k hk => Below.heap_setCell _ ⟨y1.heap.size, 4, none⟩ (.int .i64 r) k (fun e => HVB.out k hk e))).heap (fun k hk => Below.heap_setCell _ ⟨y1.heap.size, 5, none⟩ (.slice AV T.length cV) k (fun e => HVB.out k hk e)))
      have HB := HBF
      refine wpAnyH_ready (rs := [20]) (by kernel_rfl) (by simp) ?_
      refine AllReadyH.cons (o := ?_) ?_ (fun K hK => ?_) AllReadyH.nil
      rotate_left 1
      · (simp only [List.getElem?_toArray, List.getElem?_cons_zero, List.getElem?_cons_succ]; try rfl)
      go_simp
      refine hK.out _ _ (by exact (⟨(HB.out.cell (p := ⟨b, off, none⟩) hbl).trans HLx.out, (HB.out.cell (p := ⟨b, off + 1, none⟩) hbl).trans HLs.out⟩)) (fun hHeld => ?_)
      clear hK K
      (try simp only [Act.put, List.setIfInBounds_toArray, List.set_cons_zero, List.set_cons_succ])
      refine wpAnyH_done (by kernel_rfl) ?_ _
      refine NoPanic.normal ?_
      go_wp2_with fail
      go_meet
      exact ⟨y1.heap.size, AV, cV, rfl, BF.out, VF.out, HLO.out, HBF.out⟩
    refine AllReadyH.cons (o := ?_) ?_ (fun K hK => ?_) ?_
    rotate_left 1
    · (simp only [List.getElem?_toArray, List.getElem?_cons_zero, List.getElem?_cons_succ]; try rfl)
    · have hbA := (Below.refl (w1.drew).heap.size (w1.drew)).alloc (Nat.le_refl _) (.cells #[] 5)
      have hE0 : Own ((w1.drew).alloc (.cells #[] 5)) w1.heap.size (.slice (some ⟨w1.heap.size, 0, none⟩) 0 0) [] := by
        have h := Own.mono (show Own ((w1.drew).alloc (.cells #[] 5)) (w1.drew).heap.size (.slice (some ⟨(w1.drew).heap.size, 0, none⟩) 0 0) [] from Own.new (w1.drew) [] (by simp [maxLen])) (show w1.heap.size ≤ (w1.drew).heap.size from HB.out.size)
        first | exact h | simpa using h
      have E0 := Lib.hid hE0
      clear hE0
      have HB := Lib.hid (HB.out.trans (hbA.mono HB.out.size))
      clear hbA
      go_simp
      refine hK.out _ _ (by exact (⟨(HB.out.cell (p := ⟨b, off, none⟩) hbl).trans HLx.out, (HB.out.cell (p := ⟨b, off + 1, none⟩) hbl).trans HLs.out⟩)) (fun hHeld => ?_)
      clear hK K
      (try simp only [Act.put, List.setIfInBounds_toArray, List.set_cons_zero, List.set_cons_succ])
      refine wpAnyH_ready (rs := [9, 19]) (by kernel_rfl) (by simp) ?_
      refine AllReadyH.cons (o := ?_) ?_ (fun K hK => ?_) ?_
      rotate_left 1
      · (simp only [List.getElem?_toArray, List.getElem?_cons_zero, List.getElem?_cons_succ]; try rfl)
      · go_simp
        refine (l09At_any (some ⟨b, off, none⟩) l c 2 _ hn9 (by omega) (by exact hA.below HB.out)).mono ?_
        rintro e y43 ⟨rfl, hE⟩
        have hb : Below (((w1.drew).alloc (.cells #[] 5))).heap.size (((w1.drew).alloc (.cells #[] 5))) y43 := by obtain ⟨n, rfl⟩ := hE; exact below_of_drewN _ n
        rw [HWp.out]
        have HB := Lib.hid (HB.out.trans (hb.mono HB.out.size))
        have E0 := Lib.hid (E0.out.below hb)
        clear hb hE
        go_wp2_with fail
        refine hK.out _ _ (by exact (⟨(HB.out.cell (p := ⟨b, off, none⟩) hbl).trans HLx.out, (HB.out.cell (p := ⟨b, off + 1, none⟩) hbl).trans HLs.out⟩)) (fun hHeld => ?_)
        clear hK K
        (try simp only [Act.put, List.setIfInBounds_toArray, List.set_cons_zero, List.set_cons_succ])
        refine wpAnyH_ready (rs := [11, 19]) (by kernel_rfl) (by simp) ?_
        refine AllReadyH.cons (o := ?_) ?_ (fun K hK => ?_) ?_
        rotate_left 1
        · (simp only [List.getElem?_toArray, List.getElem?_cons_zero, List.getElem?_cons_succ]; try rfl)
        · go_simp
          refine (l09At_any (some ⟨b, off, none⟩) l c 4 _ hn9 (by omega) (by exact hA.below HB.out)).mono ?_
          rintro e y44 ⟨rfl, hE⟩
          have hb : Below (y43).heap.size (y43) y44 := by obtain ⟨n, rfl⟩ := hE; exact below_of_drewN _ n
          rw [HWq.out]
          have HB := Lib.hid (HB.out.trans (hb.mono HB.out.size))
          have E0 := Lib.hid (E0.out.below hb)
          clear hb hE
          go_wp2_with fail
          refine hK.out _ _ (by exact (⟨(HB.out.cell (p := ⟨b, off, none⟩) hbl).trans HLx.out, (HB.out.cell (p := ⟨b, off + 1, none⟩) hbl).trans HLs.out⟩)) (fun hHeld => ?_)
          clear hK K
          (try simp only [Act.put, List.setIfInBounds_toArray, List.set_cons_zero, List.set_cons_succ])
          refine wpAnyH_ready (rs := [13, 19]) (by kernel_rfl) (by simp) ?_
          refine AllReadyH.cons (o := ?_) ?_ (fun K hK => ?_) ?_
          rotate_left 1
          · (simp only [List.getElem?_toArray, List.getElem?_cons_zero, List.getElem?_cons_succ]; try rfl)
          · go_simp
            refine (l09At_any (some ⟨b, off, none⟩) l c 6 _ hn9 (by omega) (by exact hA.below HB.out)).mono ?_
            rintro e y45 ⟨rfl, hE⟩
            have hb : Below (y44).heap.size (y44) y45 := by obtain ⟨n, rfl⟩ := hE; exact below_of_drewN _ n
            rw [HWr.out]
            have HB := Lib.hid (HB.out.trans (hb.mono HB.out.size))
            have E0 := Lib.hid (E0.out.below hb)
            clear hb hE
            go_wp2_with fail
            refine hK.out _ _ (by exact (⟨(HB.out.cell (p := ⟨b, off, none⟩) hbl).trans HLx.out, (HB.out.cell (p := ⟨b, off + 1, none⟩) hbl).trans HLs.out⟩)) (fun hHeld => ?_)
            clear hK K
            (try simp only [Act.put, List.setIfInBounds_toArray, List.set_cons_zero, List.set_cons_succ])
            refine wpAnyH_ready (rs := [17, 19]) (by kernel_rfl) (by simp) ?_
            refine AllReadyH.cons (o := ?_) ?_ (fun K hK => ?_) ?_
            rotate_left 1
            · (simp only [List.getElem?_toArray, List.getElem?_cons_zero, List.getElem?_cons_succ]; try rfl)
            · have hfresh := E0.out.range
              refine step_app_bytes9 rfl (.tmp 23) (.tmp 25) rfl _ (Value.slice (some ⟨w1.heap.size, 0, none⟩) 0 0) [] T D N rc rfl rfl HN.out (by exact E0.out) (by exact HS.out.below HB.out) (by simp; omega) (by exact HB.out.size) ?_
              intro v9 y46 hown hg hv9
              have hg : World.grownBy (y45) y46 (Value.slice (some ⟨w1.heap.size, 0, none⟩) 0 0).ownBlock := ⟨hg.os, hg.tape, hg.output, hg.size, hg.block⟩
              have hke := Keeps.of_grown hg
              have hown : Own y46 w1.heap.size v9 T := hown
              have HB := Lib.hid (HB.out.trans (hke.below (B := w1.heap.size) HB.out.size (fun k hk => (hfresh k hk).1)))
              obtain ⟨AV, cV, rfl, lV, kV, _, _, _⟩ := own_plain9 hown
              have VV := Lib.hid hown
              clear hke hg hown hfresh
              (try go_simp)
              refine hK.out _ _ (by exact (⟨(HB.out.cell (p := ⟨b, off, none⟩) hbl).trans HLx.out, (HB.out.cell (p := ⟨b, off + 1, none⟩) hbl).trans HLs.out⟩)) (fun hHeld => ?_)
              clear hK K
              (try simp only [Act.put, List.setIfInBounds_toArray, List.set_cons_zero, List.set_cons_succ])
              refine wpAnyH_take (i := 18) (oi := ?_) (v := ?_) ?_ ?_ ?_ ?_ ?_ ?_ (by exact hHeld) ?_
              rotate_left 2
              · (simp only [List.getElem?_toArray, List.getElem?_cons_zero, List.getElem?_cons_succ]; try rfl)
              · kernel_rfl
              · kernel_rfl
              · kernel_rfl
              · exact fun _ _ _ h => h
              · refine Or.inl ⟨by rfl, ?_⟩
                (intro V hSV; (try dsimp only at hSV); obtain ⟨q0, q1⟩ := hSV; go_simp; try with_reducible rfl)
              (try simp only [Act.put, List.setIfInBounds_toArray, List.set_cons_zero, List.set_cons_succ])
              refine wpAnyH_ready (rs := [19]) (by kernel_rfl) (by simp) ?_
              refine AllReadyH.cons (o := ?_) ?_ (fun K hK => ?_) AllReadyH.nil
              rotate_left 1
              · (simp only [List.getElem?_toArray, List.getElem?_cons_zero, List.getElem?_cons_succ]; try rfl)
              have HB0 := HB
              have VV0 := VV
              have hbA := (Below.refl (y46).heap.size (y46)).alloc (Nat.le_refl _) (.cells #[.int .i64 0, .int .i64 0, .int .i64 0, .int .i64 0, .int .i64 0, .slice none 0 0] 29)
              have hBX : Blk ((y46).alloc (.cells #[.int .i64 0, .int .i64 0, .int .i64 0, .int .i64 0, .int .i64 0, .slice none 0 0] 29)) (y46.heap.size) #[.int .i64 0, .int .i64 0, .int .i64 0, .int .i64 0, .int .i64 0, .slice none 0 0] 29 := by
                have h := Blk.new (y46) #[.int .i64 0, .int .i64 0, .int .i64 0, .int .i64 0, .int .i64 0, .slice none 0 0] 29
                first | exact h | simpa using h
              have BX := Lib.hid hBX
              have HLO : Hid (w1.heap.size ≤ y46.heap.size) := Lib.hid (by have h := HB.out.size; first | exact h | (simp; done) | (simp at h ⊢; omega))
              clear hBX
              have HVB : Hid (∀ k ∈ (Value.slice AV T.length cV).ownBlock.toList, k ≠ y46.heap.size) := Lib.hid (fun k hk e => by have h := (VV.out.range k hk).2; (try simp at h); omega)
              have HB := Lib.hid (HB.out.trans (hbA.mono HB.out.size))
              have VV := Lib.hid (VV.out.below hbA)
              clear hbA
              go_simp
              refine hK.out _ _ (by exact (⟨(HB.out.cell (p := ⟨b, off, none⟩) hbl).trans HLx.out, (HB.out.cell (p := ⟨b, off + 1, none⟩) hbl).trans HLs.out⟩)) (fun hHeld => ?_)
              clear hK K
              (try simp only [Act.put, List.setIfInBounds_toArray, List.set_cons_zero, List.set_cons_succ])
              have hbF := (Below.refl (y46).heap.size (y46)).alloc (Nat.le_refl _) (.cells #[.int .i64 x, .int .i64 s, .int .i64 p, .int .i64 q, .int .i64 r, .slice AV T.length cV] 29)
              have hBF : Blk (((y46).alloc (.cells #[.int .i64 x, .int .i64 s, .int .i64 p, .int .i64 q, .int .i64 r, .slice AV T.length cV] 29))) (y46.heap.size) #[.int .i64 x, .int .i64 s, .int .i64 p, .int .i64 q, .int .i64 r, .slice AV T.length cV] 29 := by
                have h := Blk.new (y46) #[.int .i64 x, .int .i64 s, .int .i64 p, .int .i64 q, .int .i64 r, .slice AV T.length cV] 29
                first | exact h | simpa using h
              have BF := Lib.hid hBF
              have VF := Lib.hid (VV0.out.below hbF)
              have HBF := Lib.hid (HB0.out.trans (hbF.mono HB0.out.size))
              have HB := HBF
              clear hbF hBF
              refine wpAnyH_ready (rs := [20]) (by kernel_rfl) (by simp) ?_
              refine AllReadyH.cons (o := ?_) ?_ (fun K hK => ?_) AllReadyH.nil
              rotate_left 1
              · (simp only [List.getElem?_toArray, List.getElem?_cons_zero, List.getElem?_cons_succ]; try rfl)
              go_simp
              refine hK.out _ _ (by exact (⟨(HB.out.cell (p := ⟨b, off, none⟩) hbl).trans HLx.out, (HB.out.cell (p := ⟨b, off + 1, none⟩) hbl).trans HLs.out⟩)) (fun hHeld => ?_)
              clear hK K
              (try simp only [Act.put, List.setIfInBounds_toArray, List.set_cons_zero, List.set_cons_succ])
              refine wpAnyH_done (by kernel_rfl) ?_ _
              refine NoPanic.normal ?_
              go_wp2_with fail
              go_meet
              exact ⟨y46.heap.size, AV, cV, rfl, BF.out, VF.out, HLO.out, HBF.out⟩
            refine AllReadyH.cons (o := ?_) ?_ (fun K hK => ?_) AllReadyH.nil
            rotate_left 1
            · (simp only [List.getElem?_toArray, List.getElem?_cons_zero, List.getElem?_cons_succ]; try rfl)
            have hbA := (Below.refl (y45).heap.size (y45)).alloc (Nat.le_refl _) (.cells #[.int .i64 0, .int .i64 0, .int .i64 0, .int .i64 0, .int .i64 0, .slice none 0 0] 29)
            have hBX : Blk ((y45).alloc (.cells #[.int .i64 0, .int .i64 0, .int .i64 0, .int .i64 0, .int .i64 0, .slice none 0 0] 29)) (y45.heap.size) #[.int .i64 0, .int .i64 0, .int .i64 0, .int .i64 0, .int .i64 0, .slice none 0 0] 29 := by
              have h := Blk.new (y45) #[.int .i64 0, .int .i64 0, .int .i64 0, .int .i64 0, .int .i64 0, .slice none 0 0] 29
              first | exact h | simpa using h
            have BX := Lib.hid hBX
            have HLO : Hid (w1.heap.size ≤ y45.heap.size) := Lib.hid (by have h := HB.out.size; first | exact h | (simp; done) | (simp at h ⊢; omega))
            clear hBX
            have HNE : Hid (y45.heap.size ≠ w1.heap.size) := Lib.hid (Nat.ne_of_gt (by have h := (E0.out.range (w1.heap.size) (by simp [Value.ownBlock])).2; first | exact h | (simp; done) | (simp at h ⊢; omega)))
            have HB := Lib.hid (HB.out.trans (hbA.mono HB.out.size))
            have E0 := Lib.hid (E0.out.below hbA)
            clear hbA
            go_simp
            refine hK.out _ _ (by exact (⟨(HB.out.cell (p := ⟨b, off, none⟩) hbl).trans HLx.out, (HB.out.cell (p := ⟨b, off + 1, none⟩) hbl).trans HLs.out⟩)) (fun hHeld => ?_)
            clear hK K
            (try simp only [Act.put, List.setIfInBounds_toArray, List.set_cons_zero, List.set_cons_succ])
            refine wpAnyH_ready (rs := [17]) (by kernel_rfl) (by simp) ?_
            refine AllReadyH.cons (o := ?_) ?_ (fun K hK => ?_) AllReadyH.nil
            rotate_left 1
            · (simp only [List.getElem?_toArray, List.getElem?_cons_zero, List.getElem?_cons_succ]; try rfl)
            have hfresh := E0.out.range
            refine step_app_bytes9 rfl (.tmp 23) (.tmp 25) rfl _ (Value.slice (some ⟨w1.heap.size, 0, none⟩) 0 0) [] T D N rc rfl rfl HN.out (by exact E0.out) (by exact HS.out.below HB.out) (by simp; omega) (by exact HB.out.size) ?_
            intro v9 y47 hown hg hv9
            have hg : World.grownBy (((y45).alloc (.cells #[.int .i64 0, .int .i64 0, .int .i64 0, .int .i64 0, .int .i64 0, .slice none 0 0] 29))) y47 (Value.slice (some ⟨w1.heap.size, 0, none⟩) 0 0).ownBlock := ⟨hg.os, hg.tape, hg.output, hg.size, hg.block⟩
            have hke := Keeps.of_grown hg
            have hown : Own y47 w1.heap.size v9 T := hown
            have hbbl := BX.out.lt
            have BX := Lib.hid (BX.out.of_block (hke.block _ BX.out.lt (fun h => by first | (simp [Value.ownBlock] at h; done) | (have h2 := h; simp only [Value.ownBlock, Option.toList_some, List.mem_singleton] at h2; exact HNE.out h2))))
            have HB := Lib.hid (HB.out.trans (hke.below (B := w1.heap.size) HB.out.size (fun k hk => (hfresh k hk).1)))
            obtain ⟨AV, cV, rfl, lV, kV, _, _, _⟩ := own_plain9 hown
            have VV := Lib.hid hown
            have HVB : Hid (∀ k ∈ (Value.slice AV T.length cV).ownBlock.toList, k ≠ y45.heap.size) := Lib.hid (fun k hk e => by
              rcases hv9 with h | h
              · have h3 : k = w1.heap.size := by rw [h] at hk; simpa [Value.ownBlock] using hk
                exact HNE.out (e.symm.trans h3)
              · have h3 : k = (((y45).alloc (.cells #[.int .i64 0, .int .i64 0, .int .i64 0, .int .i64 0, .int .i64 0, .slice none 0 0] 29))).heap.size := by rw [h] at hk; simpa using hk
                have h2 : y45.heap.size < (((y45).alloc (.cells #[.int .i64 0, .int .i64 0, .int .i64 0, .int .i64 0, .int .i64 0, .slice none 0 0] 29))).heap.size := hbbl
                omega)
            clear hbbl
            clear hke hg hown hfresh
            (try go_simp)
            refine hK.out _ _ (by exact (⟨(HB.out.cell (p := ⟨b, off, none⟩) hbl).trans HLx.out, (HB.out.cell (p := ⟨b, off + 1, none⟩) hbl).trans HLs.out⟩)) (fun hHeld => ?_)
            clear hK K
            (try simp only [Act.put, List.setIfInBounds_toArray, List.set_cons_zero, List.set_cons_succ])
            refine wpAnyH_take (i := 18) (oi := ?_) (v := ?_) ?_ ?_ ?_ ?_ ?_ ?_ (by exact hHeld) ?_
            rotate_left 2
            · (simp only [List.getElem?_toArray, List.getElem?_cons_zero, List.getElem?_cons_succ]; try rfl)
            · kernel_rfl
            · kernel_rfl
            · kernel_rfl
            · exact fun _ _ _ h => h
            · refine Or.inl ⟨by rfl, ?_⟩
              (intro V hSV; (try dsimp only at hSV); obtain ⟨q0, q1⟩ := hSV; go_simp; try with_reducible rfl)
            (try simp only [Act.put, List.setIfInBounds_toArray, List.set_cons_zero, List.set_cons_succ])
            have g0 := BX.out.cell 0
            have f0 := BX.out.frozen 0
            have g1 := BX.out.cell 1
            have f1 := BX.out.frozen 1
            have g2 := BX.out.cell 2
            have f2 := BX.out.frozen 2
            have g3 := BX.out.cell 3
            have f3 := BX.out.frozen 3
            have g4 := BX.out.cell 4
            have f4 := BX.out.frozen 4
            have g5 := BX.out.cell 5
            have f5 := BX.out.frozen 5
            have BF : Hid (Blk (((((((((((((y47).setCell ⟨y45.heap.size, 0, none⟩ (.int .i64 x))).setCell ⟨y45.heap.size, 1, none⟩ (.int .i64 s))).setCell ⟨y45.heap.size, 2, none⟩ (.int .i64 p))).setCell ⟨y45.heap.size, 3, none⟩ (.int .i64 q))).setCell ⟨y45.heap.size, 4, none⟩ (.int .i64 r))).setCell ⟨y45.heap.size, 5, none⟩ (.slice AV T.length cV))) (y45.heap.size) #[.int .i64 x, .int .i64 s, .int .i64 p, .int .i64 q, .int .i64 r, .slice AV T.length cV] 29) := Lib.hid (by simpa using ((((((BX.out.set 0 (.int .i64 x)).set 1 (.int .i64 s)).set 2 (.int .i64 p)).set 3 (.int .i64 q)).set 4 (.int .i64 r)).set 5 (.slice AV T.length cV)))
            have HBF : Hid (Below w1.heap.size w1 (((((((((((((y47).setCell ⟨y45.heap.size, 0, none⟩ (.int .i64 x))).setCell ⟨y45.heap.size, 1, none⟩ (.int .i64 s))).setCell ⟨y45.heap.size, 2, none⟩ (.int .i64 p))).setCell ⟨y45.heap.size, 3, none⟩ (.int .i64 q))).setCell ⟨y45.heap.size, 4, none⟩ (.int .i64 r))).setCell ⟨y45.heap.size, 5, none⟩ (.slice AV T.length cV)))) := Lib.hid ((((((HB.out.setCell (p := ⟨y45.heap.size, 0, none⟩) HLO.out (.int .i64 x)).setCell (p := ⟨y45.heap.size, 1, none⟩) HLO.out (.int .i64 s)).setCell (p := ⟨y45.heap.size, 2, none⟩) HLO.out (.int .i64 p)).setCell (p := ⟨y45.heap.size, 3, none⟩) HLO.out (.int .i64 q)).setCell (p := ⟨y45.heap.size, 4, none⟩) HLO.out (.int .i64 r)).setCell (p := ⟨y45.heap.size, 5, none⟩) HLO.out (.slice AV T.length cV))
            have VF : Hid (Own (((((((((((((y47).setCell ⟨y45.heap.size, 0, none⟩ (.int .i64 x))).setCell ⟨y45.heap.size, 1, none⟩ (.int .i64 s))).setCell ⟨y45.heap.size, 2, none⟩ (.int .i64 p))).setCell ⟨y45.heap.size, 3, none⟩ (.int .i64 q))).setCell ⟨y45.heap.size, 4, none⟩ (.int .i64 r))).setCell ⟨y45.heap.size, 5, none⟩ (.slice AV T.length cV))) w1.heap.size (.slice AV T.length cV) T) := Lib.hid ((((((VV.out.heap (fun k hk => Below.heap_setCell _ ⟨y45.heap.size, 0, none⟩ (.int .i64 x) k (fun e => HVB.out k hk e))).heap (fun k hk => Below.heap_setCell _ ⟨y45.heap.size, 1, none⟩ (.int .i64 s) k (fun e => HVB.out k hk e))).heap (fun k hk => Below.heap_setCell _ ⟨y45.heap.size, 2, none⟩ (.int .i64 p) k (fun e => HVB.out k hk e))).heap (fun k hk => Below.heap_setCell _ ⟨y45.heap.size, 3, none⟩ (.int .i64 q) k (fun e => HVB.out k hk e))).heap (fun k hk => Below.heap_setCell _ ⟨y45.heap.size, 4, none⟩ (.int .i64 r) k (fun e => HVB.out k hk e))).heap (fun k hk => Below.heap_setCell _ ⟨y45.heap.size, 5, none⟩ (.slice AV T.length cV) k (fun e => HVB.out k hk e)))
            have HB := HBF
            refine wpAnyH_ready (rs := [20]) (by kernel_rfl) (by simp) ?_
            refine AllReadyH.cons (o := ?_) ?_ (fun K hK => ?_) AllReadyH.nil
            rotate_left 1
            · (simp only [List.getElem?_toArray, List.getElem?_cons_zero, List.getElem?_cons_succ]; try rfl)
            go_simp
            refine hK.out _ _ (by exact (⟨(HB.out.cell (p := ⟨b, off, none⟩) hbl).trans HLx.out, (HB.out.cell (p := ⟨b, off + 1, none⟩) hbl).trans HLs.out⟩)) (fun hHeld => ?_)
            clear hK K
            (try simp only [Act.put, List.setIfInBounds_toArray, List.set_cons_zero, List.set_cons_succ])
            refine wpAnyH_done (by kernel_rfl) ?_ _
            refine NoPanic.normal ?_
            go_wp2_with fail
            go_meet
            exact ⟨y45.heap.size, AV, cV, rfl, BF.out, VF.out, HLO.out, HBF.out⟩
          refine AllReadyH.cons (o := ?_) ?_ (fun K hK => ?_) AllReadyH.nil
          rotate_left 1
          · (simp only [List.getElem?_toArray, List.getElem?_cons_zero, List.getElem?_cons_succ]; try rfl)
          have hbA := (Below.refl (y44).heap.size (y44)).alloc (Nat.le_refl _) (.cells #[.int .i64 0, .int .i64 0, .int .i64 0, .int .i64 0, .int .i64 0, .slice none 0 0] 29)
          have hBX : Blk ((y44).alloc (.cells #[.int .i64 0, .int .i64 0, .int .i64 0, .int .i64 0, .int .i64 0, .slice none 0 0] 29)) (y44.heap.size) #[.int .i64 0, .int .i64 0, .int .i64 0, .int .i64 0, .int .i64 0, .slice none 0 0] 29 := by
            have h := Blk.new (y44) #[.int .i64 0, .int .i64 0, .int .i64 0, .int .i64 0, .int .i64 0, .slice none 0 0] 29
            first | exact h | simpa using h
          have BX := Lib.hid hBX
          have HLO : Hid (w1.heap.size ≤ y44.heap.size) := Lib.hid (by have h := HB.out.size; first | exact h | (simp; done) | (simp at h ⊢; omega))
          clear hBX
          have HNE : Hid (y44.heap.size ≠ w1.heap.size) := Lib.hid (Nat.ne_of_gt (by have h := (E0.out.range (w1.heap.size) (by simp [Value.ownBlock])).2; first | exact h | (simp; done) | (simp at h ⊢; omega)))
          have HB := Lib.hid (HB.out.trans (hbA.mono HB.out.size))
          have E0 := Lib.hid (E0.out.below hbA)
          clear hbA
          go_simp
          refine hK.out _ _ (by exact (⟨(HB.out.cell (p := ⟨b, off, none⟩) hbl).trans HLx.out, (HB.out.cell (p := ⟨b, off + 1, none⟩) hbl).trans HLs.out⟩)) (fun hHeld => ?_)
          clear hK K
          (try simp only [Act.put, List.setIfInBounds_toArray, List.set_cons_zero, List.set_cons_succ])
          refine wpAnyH_ready (rs := [13]) (by kernel_rfl) (by simp) ?_
          refine AllReadyH.cons (o := ?_) ?_ (fun K hK => ?_) AllReadyH.nil
          rotate_left 1
          · (simp only [List.getElem?_toArray, List.getElem?_cons_zero, List.getElem?_cons_succ]; try rfl)
          go_simp
          refine (l09At_any (some ⟨b, off, none⟩) l c 6 _ hn9 (by omega) (by exact hA.below HB.out)).mono ?_
          rintro e y48 ⟨rfl, hE⟩
          have hb : Below (((y44).alloc (.cells #[.int .i64 0, .int .i64 0, .int .i64 0, .int .i64 0, .int .i64 0, .slice none 0 0] 29))).heap.size (((y44).alloc (.cells #[.int .i64 0, .int .i64 0, .int .i64 0, .int .i64 0, .int .i64 0, .slice none 0 0] 29))) y48 := by obtain ⟨n, rfl⟩ := hE; exact below_of_drewN _ n
          rw [HWr.out]
          have HB := Lib.hid (HB.out.trans (hb.mono HB.out.size))
          have E0 := Lib.hid (E0.out.below hb)
          have BX := Lib.hid (BX.out.below hb)
          clear hb hE
          go_wp2_with fail
          refine hK.out _ _ (by exact (⟨(HB.out.cell (p := ⟨b, off, none⟩) hbl).trans HLx.out, (HB.out.cell (p := ⟨b, off + 1, none⟩) hbl).trans HLs.out⟩)) (fun hHeld => ?_)
          clear hK K
          (try simp only [Act.put, List.setIfInBounds_toArray, List.set_cons_zero, List.set_cons_succ])
          refine wpAnyH_ready (rs := [17]) (by kernel_rfl) (by simp) ?_
          refine AllReadyH.cons (o := ?_) ?_ (fun K hK => ?_) AllReadyH.nil
          rotate_left 1
          · (simp only [List.getElem?_toArray, List.getElem?_cons_zero, List.getElem?_cons_succ]; try rfl)
          have hfresh := E0.out.range
          refine step_app_bytes9 rfl (.tmp 23) (.tmp 25) rfl _ (Value.slice (some ⟨w1.heap.size, 0, none⟩) 0 0) [] T D N rc rfl rfl HN.out (by exact E0.out) (by exact HS.out.below HB.out) (by simp; omega) (by exact HB.out.size) ?_
          intro v9 y49 hown hg hv9
          have hg : World.grownBy (y48) y49 (Value.slice (some ⟨w1.heap.size, 0, none⟩) 0 0).ownBlock := ⟨hg.os, hg.tape, hg.output, hg.size, hg.block⟩
          have hke := Keeps.of_grown hg
          have hown : Own y49 w1.heap.size v9 T := hown
          have hbbl := BX.out.lt
          have BX := Lib.hid (BX.out.of_block (hke.block _ BX.out.lt (fun h => by first | (simp [Value.ownBlock] at h; done) | (have h2 := h; simp only [Value.ownBlock, Option.toList_some, List.mem_singleton] at h2; exact HNE.out h2))))
          have HB := Lib.hid (HB.out.trans (hke.below (B := w1.heap.size) HB.out.size (fun k hk => (hfresh k hk).1)))
          obtain ⟨AV, cV, rfl, lV, kV, _, _, _⟩ := own_plain9 hown
          have VV := Lib.hid hown
          have HVB : Hid (∀ k ∈ (Value.slice AV T.length cV).ownBlock.toList, k ≠ y44.heap.size) := Lib.hid (fun k hk e => by
            rcases hv9 with h | h
            · have h3 : k = w1.heap.size := by rw [h] at hk; simpa [Value.ownBlock] using hk
              exact HNE.out (e.symm.trans h3)
            · have h3 : k = (y48).heap.size := by rw [h] at hk; simpa using hk
              have h2 : y44.heap.size < (y48).heap.size := hbbl
              omega)
          clear hbbl
          clear hke hg hown hfresh
          (try go_simp)
          refine hK.out _ _ (by exact (⟨(HB.out.cell (p := ⟨b, off, none⟩) hbl).trans HLx.out, (HB.out.cell (p := ⟨b, off + 1, none⟩) hbl).trans HLs.out⟩)) (fun hHeld => ?_)
          clear hK K
          (try simp only [Act.put, List.setIfInBounds_toArray, List.set_cons_zero, List.set_cons_succ])
          refine wpAnyH_take (i := 18) (oi := ?_) (v := ?_) ?_ ?_ ?_ ?_ ?_ ?_ (by exact hHeld) ?_
          rotate_left 2
          · (simp only [List.getElem?_toArray, List.getElem?_cons_zero, List.getElem?_cons_succ]; try rfl)
          · kernel_rfl
          · kernel_rfl
          · kernel_rfl
          · exact fun _ _ _ h => h
          · refine Or.inl ⟨by rfl, ?_⟩
            (intro V hSV; (try dsimp only at hSV); obtain ⟨q0, q1⟩ := hSV; go_simp; try with_reducible rfl)
          (try simp only [Act.put, List.setIfInBounds_toArray, List.set_cons_zero, List.set_cons_succ])
          have g0 := BX.out.cell 0
          have f0 := BX.out.frozen 0
          have g1 := BX.out.cell 1
          have f1 := BX.out.frozen 1
          have g2 := BX.out.cell 2
          have f2 := BX.out.frozen 2
          have g3 := BX.out.cell 3
          have f3 := BX.out.frozen 3
          have g4 := BX.out.cell 4
          have f4 := BX.out.frozen 4
          have g5 := BX.out.cell 5
          have f5 := BX.out.frozen 5
          have BF : Hid (Blk (((((((((((((y49).setCell ⟨y44.heap.size, 0, none⟩ (.int .i64 x))).setCell ⟨y44.heap.size, 1, none⟩ (.int .i64 s))).setCell ⟨y44.heap.size, 2, none⟩ (.int .i64 p))).setCell ⟨y44.heap.size, 3, none⟩ (.int .i64 q))).setCell ⟨y44.heap.size, 4, none⟩ (.int .i64 r))).setCell ⟨y44.heap.size, 5, none⟩ (.slice AV T.length cV))) (y44.heap.size) #[.int .i64 x, .int .i64 s, .int .i64 p, .int .i64 q, .int .i64 r, .slice AV T.length cV] 29) := Lib.hid (by simpa using ((((((BX.out.set 0 (.int .i64 x)).set 1 (.int .i64 s)).set 2 (.int .i64 p)).set 3 (.int .i64 q)).set 4 (.int .i64 r)).set 5 (.slice AV T.length cV)))
          have HBF : Hid (Below w1.heap.size w1 (((((((((((((y49).setCell ⟨y44.heap.size, 0, none⟩ (.int .i64 x))).setCell ⟨y44.heap.size, 1, none⟩ (.int .i64 s))).setCell ⟨y44.heap.size, 2, none⟩ (.int .i64 p))).setCell ⟨y44.heap.size, 3, none⟩ (.int .i64 q))).setCell ⟨y44.heap.size, 4, none⟩ (.int .i64 r))).setCell ⟨y44.heap.size, 5, none⟩ (.slice AV T.length cV)))) := Lib.hid ((((((HB.out.setCell (p := ⟨y44.heap.size, 0, none⟩) HLO.out (.int .i64 x)).setCell (p := ⟨y44.heap.size, 1, none⟩) HLO.out (.int .i64 s)).setCell (p := ⟨y44.heap.size, 2, none⟩) HLO.out (.int .i64 p)).setCell (p := ⟨y44.heap.size, 3, none⟩) HLO.out (.int .i64 q)).setCell (p := ⟨y44.heap.size, 4, none⟩) HLO.out (.int .i64 r)).setCell (p := ⟨y44.heap.size, 5, none⟩) HLO.out (.slice AV T.length cV))
          have VF : Hid (Own (((((((((((((y49).setCell ⟨y44.heap.size, 0, none⟩ (.int .i64 x))).setCell ⟨y44.heap.size, 1, none⟩ (.int .i64 s))).setCell ⟨y44.heap.size, 2, none⟩ (.int .i64 p))).setCell ⟨y44.heap.size, 3, none⟩ (.int .i64 q))).setCell ⟨y44.heap.size, 4, none⟩ (.int .i64 r))).setCell ⟨y44.heap.size, 5, none⟩ (.slice AV T.length cV))) w1.heap.size (.slice AV T.length cV) T) := Lib.hid ((((((VV.out.heap (fun k hk => Below.heap_setCell _ ⟨y44.heap.size, 0, none⟩ (.int .i64 x) k (fun e => HVB.out k hk e))).heap (fun k hk => Below.heap_setCell _ ⟨y44.heap.size, 1, none⟩ (.int .i64 s) k (fun e => HVB.out k hk e))).heap (fun k hk => Below.heap_setCell _ ⟨y44.heap.size, 2, none⟩ (.int .i64 p) k (fun e => HVB.out k hk e))).heap (fun k hk => Below.heap_setCell _ ⟨y44.heap.size, 3, none⟩ (.int .i64 q) k (fun e => HVB.out k hk e))).heap (fun k hk => Below.heap_setCell _ ⟨y44.heap.size, 4, none⟩ (.int .i64 r) k (fun e => HVB.out k hk e))).heap (fun k hk => Below.heap_setCell _ ⟨y44.heap.size, 5, none⟩ (.slice AV T.length cV) k (fun e => HVB.out k hk e)))
          have HB := HBF
          refine wpAnyH_ready (rs := [20]) (by kernel_rfl) (by simp) ?_
          refine AllReadyH.cons (o := ?_) ?_ (fun K hK => ?_) AllReadyH.nil
          rotate_left 1
          · (simp only [List.getElem?_toArray, List.getElem?_cons_zero, List.getElem?_cons_succ]; try rfl)
          go_simp
          refine hK.out _ _ (by exact (⟨(HB.out.cell (p := ⟨b, off, none⟩) hbl).trans HLx.out, (HB.out.cell (p := ⟨b, off + 1, none⟩) hbl).trans HLs.out⟩)) (fun hHeld => ?_)
          clear hK K
          (try simp only [Act.put, List.setIfInBounds_toArray, List.set_cons_zero, List.set_cons_succ])
          refine wpAnyH_done (by kernel_rfl) ?_ _
          refine NoPanic.normal ?_
          go_wp2_with fail
          go_meet
          exact ⟨y44.heap.size, AV, cV, rfl, BF.out, VF.out, HLO.out, HBF.out⟩
        refine AllReadyH.cons (o := ?_) ?_ (fun K hK => ?_) AllReadyH.nil
        rotate_left 1
        · (simp only [List.getElem?_toArray, List.getElem?_cons_zero, List.getElem?_cons_succ]; try rfl)
        have hbA := (Below.refl (y43).heap.size (y43)).alloc (Nat.le_refl _) (.cells #[.int .i64 0, .int .i64 0, .int .i64 0, .int .i64 0, .int .i64 0, .slice none 0 0] 29)
        have hBX : Blk ((y43).alloc (.cells #[.int .i64 0, .int .i64 0, .int .i64 0, .int .i64 0, .int .i64 0, .slice none 0 0] 29)) (y43.heap.size) #[.int .i64 0, .int .i64 0, .int .i64 0, .int .i64 0, .int .i64 0, .slice none 0 0] 29 := by
          have h := Blk.new (y43) #[.int .i64 0, .int .i64 0, .int .i64 0, .int .i64 0, .int .i64 0, .slice none 0 0] 29
          first | exact h | simpa using h
        have BX := Lib.hid hBX
        have HLO : Hid (w1.heap.size ≤ y43.heap.size) := Lib.hid (by have h := HB.out.size; first | exact h | (simp; done) | (simp at h ⊢; omega))
        clear hBX
        have HNE : Hid (y43.heap.size ≠ w1.heap.size) := Lib.hid (Nat.ne_of_gt (by have h := (E0.out.range (w1.heap.size) (by simp [Value.ownBlock])).2; first | exact h | (simp; done) | (simp at h ⊢; omega)))
        have HB := Lib.hid (HB.out.trans (hbA.mono HB.out.size))
        have E0 := Lib.hid (E0.out.below hbA)
        clear hbA
        go_simp
        refine hK.out _ _ (by exact (⟨(HB.out.cell (p := ⟨b, off, none⟩) hbl).trans HLx.out, (HB.out.cell (p := ⟨b, off + 1, none⟩) hbl).trans HLs.out⟩)) (fun hHeld => ?_)
        clear hK K
        (try simp only [Act.put, List.setIfInBounds_toArray, List.set_cons_zero, List.set_cons_succ])
        refine wpAnyH_ready (rs := [11]) (by kernel_rfl) (by simp) ?_
        refine AllReadyH.cons (o := ?_) ?_ (fun K hK => ?_) AllReadyH.nil
        rotate_left 1
        · (simp only [List.getElem?_toArray, List.getElem?_cons_zero, List.getElem?_cons_succ]; try rfl)
        go_simp
        refine (l09At_any (some ⟨b, off, none⟩) l c 4 _ hn9 (by omega) (by exact hA.below HB.out)).mono ?_
        rintro e y50 ⟨rfl, hE⟩
        have hb : Below (((y43).alloc (.cells #[.int .i64 0, .int .i64 0, .int .i64 0, .int .i64 0, .int .i64 0, .slice none 0 0] 29))).heap.size (((y43).alloc (.cells #[.int .i64 0, .int .i64 0, .int .i64 0, .int .i64 0, .int .i64 0, .slice none 0 0] 29))) y50 := by obtain ⟨n, rfl⟩ := hE; exact below_of_drewN _ n
        rw [HWq.out]
        have HB := Lib.hid (HB.out.trans (hb.mono HB.out.size))
        have E0 := Lib.hid (E0.out.below hb)
        have BX := Lib.hid (BX.out.below hb)
        clear hb hE
        go_wp2_with fail
        refine hK.out _ _ (by exact (⟨(HB.out.cell (p := ⟨b, off, none⟩) hbl).trans HLx.out, (HB.out.cell (p := ⟨b, off + 1, none⟩) hbl).trans HLs.out⟩)) (fun hHeld => ?_)
        clear hK K
        (try simp only [Act.put, List.setIfInBounds_toArray, List.set_cons_zero, List.set_cons_succ])
        refine wpAnyH_ready (rs := [13]) (by kernel_rfl) (by simp) ?_
        refine AllReadyH.cons (o := ?_) ?_ (fun K hK => ?_) AllReadyH.nil
        rotate_left 1
        · (simp only [List.getElem?_toArray, List.getElem?_cons_zero, List.getElem?_cons_succ]; try rfl)
        go_simp
        refine (l09At_any (some ⟨b, off, none⟩) l c 6 _ hn9 (by omega) (by exact hA.below HB.out)).mono ?_
        rintro e y51 ⟨rfl, hE⟩
        have hb : Below (y50).heap.size (y50) y51 := by obtain ⟨n, rfl⟩ := hE; exact below_of_drewN _ n
        rw [HWr.out]
        have HB := Lib.hid (HB.out.trans (hb.mono HB.out.size))
        have E0 := Lib.hid (E0.out.below hb)
        have BX := Lib.hid (BX.out.below hb)
        clear hb hE
        go_wp2_with fail
        refine hK.out _ _ (by exact (⟨(HB.out.cell (p := ⟨b, off, none⟩) hbl).trans HLx.out, (HB.out.cell (p := ⟨b, off + 1, none⟩) hbl).trans HLs.out⟩)) (fun hHeld => ?_)
        clear hK K
        (try simp only [Act.put, List.setIfInBounds_toArray, List.set_cons_zero, List.set_cons_succ])
        refine wpAnyH_ready (rs := [17]) (by kernel_rfl) (by simp) ?_
        refine AllReadyH.cons (o := ?_) ?_ (fun K hK => ?_) AllReadyH.nil
        rotate_left 1
        · (simp only [List.getElem?_toArray, List.getElem?_cons_zero, List.getElem?_cons_succ]; try rfl)
        have hfresh := E0.out.range
        refine step_app_bytes9 rfl (.tmp 23) (.tmp 25) rfl _ (Value.slice (some ⟨w1.heap.size, 0, none⟩) 0 0) [] T D N rc rfl rfl HN.out (by exact E0.out) (by exact HS.out.below HB.out) (by simp; omega) (by exact HB.out.size) ?_
        intro v9 y52 hown hg hv9
        have hg : World.grownBy (y51) y52 (Value.slice (some ⟨w1.heap.size, 0, none⟩) 0 0).ownBlock := ⟨hg.os, hg.tape, hg.output, hg.size, hg.block⟩
        have hke := Keeps.of_grown hg
        have hown : Own y52 w1.heap.size v9 T := hown
        have hbbl := BX.out.lt
        have BX := Lib.hid (BX.out.of_block (hke.block _ BX.out.lt (fun h => by first | (simp [Value.ownBlock] at h; done) | (have h2 := h; simp only [Value.ownBlock, Option.toList_some, List.mem_singleton] at h2; exact HNE.out h2))))
        have HB := Lib.hid (HB.out.trans (hke.below (B := w1.heap.size) HB.out.size (fun k hk => (hfresh k hk).1)))
        obtain ⟨AV, cV, rfl, lV, kV, _, _, _⟩ := own_plain9 hown
        have VV := Lib.hid hown
        have HVB : Hid (∀ k ∈ (Value.slice AV T.length cV).ownBlock.toList, k ≠ y43.heap.size) := Lib.hid (fun k hk e => by
          rcases hv9 with h | h
          · have h3 : k = w1.heap.size := by rw [h] at hk; simpa [Value.ownBlock] using hk
            exact HNE.out (e.symm.trans h3)
          · have h3 : k = (y51).heap.size := by rw [h] at hk; simpa using hk
            have h2 : y43.heap.size < (y51).heap.size := hbbl
            omega)
        clear hbbl
        clear hke hg hown hfresh
        (try go_simp)
        refine hK.out _ _ (by exact (⟨(HB.out.cell (p := ⟨b, off, none⟩) hbl).trans HLx.out, (HB.out.cell (p := ⟨b, off + 1, none⟩) hbl).trans HLs.out⟩)) (fun hHeld => ?_)
        clear hK K
        (try simp only [Act.put, List.setIfInBounds_toArray, List.set_cons_zero, List.set_cons_succ])
        refine wpAnyH_take (i := 18) (oi := ?_) (v := ?_) ?_ ?_ ?_ ?_ ?_ ?_ (by exact hHeld) ?_
        rotate_left 2
        · (simp only [List.getElem?_toArray, List.getElem?_cons_zero, List.getElem?_cons_succ]; try rfl)
        · kernel_rfl
        · kernel_rfl
        · kernel_rfl
        · exact fun _ _ _ h => h
        · refine Or.inl ⟨by rfl, ?_⟩
          (intro V hSV; (try dsimp only at hSV); obtain ⟨q0, q1⟩ := hSV; go_simp; try with_reducible rfl)
        (try simp only [Act.put, List.setIfInBounds_toArray, List.set_cons_zero, List.set_cons_succ])
        have g0 := BX.out.cell 0
        have f0 := BX.out.frozen 0
        have g1 := BX.out.cell 1
        have f1 := BX.out.frozen 1
        have g2 := BX.out.cell 2
        have f2 := BX.out.frozen 2
        have g3 := BX.out.cell 3
        have f3 := BX.out.frozen 3
        have g4 := BX.out.cell 4
        have f4 := BX.out.frozen 4
        have g5 := BX.out.cell 5
        have f5 := BX.out.frozen 5
        have BF : Hid (Blk (((((((((((((y52).setCell ⟨y43.heap.size, 0, none⟩ (.int .i64 x))).setCell ⟨y43.heap.size, 1, none⟩ (.int .i64 s))).setCell ⟨y43.heap.size, 2, none⟩ (.int .i64 p))).setCell ⟨y43.heap.size, 3, none⟩ (.int .i64 q))).setCell ⟨y43.heap.size, 4, none⟩ (.int .i64 r))).setCell ⟨y43.heap.size, 5, none⟩ (.slice AV T.length cV))) (y43.heap.size) #[.int .i64 x, .int .i64 s, .int .i64 p, .int .i64 q, .int .i64 r, .slice AV T.length cV] 29) := Lib.hid (by simpa using ((((((BX.out.set 0 (.int .i64 x)).set 1 (.int .i64 s)).set 2 (.int .i64 p)).set 3 (.int .i64 q)).set 4 (.int .i64 r)).set 5 (.slice AV T.length cV)))
        have HBF : Hid (Below w1.heap.size w1 (((((((((((((y52).setCell ⟨y43.heap.size, 0, none⟩ (.int .i64 x))).setCell ⟨y43.heap.size, 1, none⟩ (.int .i64 s))).setCell ⟨y43.heap.size, 2, none⟩ (.int .i64 p))).setCell ⟨y43.heap.size, 3, none⟩ (.int .i64 q))).setCell ⟨y43.heap.size, 4, none⟩ (.int .i64 r))).setCell ⟨y43.heap.size, 5, none⟩ (.slice AV T.length cV)))) := Lib.hid ((((((HB.out.setCell (p := ⟨y43.heap.size, 0, none⟩) HLO.out (.int .i64 x)).setCell (p := ⟨y43.heap.size, 1, none⟩) HLO.out (.int .i64 s)).setCell (p := ⟨y43.heap.size, 2, none⟩) HLO.out (.int .i64 p)).setCell (p := ⟨y43.heap.size, 3, none⟩) HLO.out (.int .i64 q)).setCell (p := ⟨y43.heap.size, 4, none⟩) HLO.out (.int .i64 r)).setCell (p := ⟨y43.heap.size, 5, none⟩) HLO.out (.slice AV T.length cV))
        have VF : Hid (Own (((((((((((((y52).setCell ⟨y43.heap.size, 0, none⟩ (.int .i64 x))).setCell ⟨y43.heap.size, 1, none⟩ (.int .i64 s))).setCell ⟨y43.heap.size, 2, none⟩ (.int .i64 p))).setCell ⟨y43.heap.size, 3, none⟩ (.int .i64 q))).setCell ⟨y43.heap.size, 4, none⟩ (.int .i64 r))).setCell ⟨y43.heap.size, 5, none⟩ (.slice AV T.length cV))) w1.heap.size (.slice AV T.length cV) T) := Lib.hid ((((((VV.out.heap (fun k hk => Below.heap_setCell _ ⟨y43.heap.size, 0, none⟩ (.int .i64 x) k (fun e => HVB.out k hk e))).heap (fun k hk => Below.heap_setCell _ ⟨y43.heap.size, 1, none⟩ (.int .i64 s) k (fun e => HVB.out k hk e))).heap (fun k hk => Below.heap_setCell _ ⟨y43.heap.size, 2, none⟩ (.int .i64 p) k (fun e => HVB.out k hk e))).heap (fun k hk => Below.heap_setCell _ ⟨y43.heap.size, 3, none⟩ (.int .i64 q) k (fun e => HVB.out k hk e))).heap (fun k hk => Below.heap_setCell _ ⟨y43.heap.size, 4, none⟩ (.int .i64 r) k (fun e => HVB.out k hk e))).heap (fun k hk => Below.heap_setCell _ ⟨y43.heap.size, 5, none⟩ (.slice AV T.length cV) k (fun e => HVB.out k hk e)))
        have HB := HBF
        refine wpAnyH_ready (rs := [20]) (by kernel_rfl) (by simp) ?_
        refine AllReadyH.cons (o := ?_) ?_ (fun K hK => ?_) AllReadyH.nil
        rotate_left 1
        · (simp only [List.getElem?_toArray, List.getElem?_cons_zero, List.getElem?_cons_succ]; try rfl)
        go_simp
        refine hK.out _ _ (by exact (⟨(HB.out.cell (p := ⟨b, off, none⟩) hbl).trans HLx.out, (HB.out.cell (p := ⟨b, off + 1, none⟩) hbl).trans HLs.out⟩)) (fun hHeld => ?_)
        clear hK K
        (try simp only [Act.put, List.setIfInBounds_toArray, List.set_cons_zero, List.set_cons_succ])
        refine wpAnyH_done (by kernel_rfl) ?_ _
        refine NoPanic.normal ?_
        go_wp2_with fail
        go_meet
        exact ⟨y43.heap.size, AV, cV, rfl, BF.out, VF.out, HLO.out, HBF.out⟩
      refine AllReadyH.cons (o := ?_) ?_ (fun K hK => ?_) AllReadyH.nil
      rotate_left 1
      · (simp only [List.getElem?_toArray, List.getElem?_cons_zero, List.getElem?_cons_succ]; try rfl)
      have hbA := (Below.refl (((w1.drew).alloc (.cells #[] 5))).heap.size (((w1.drew).alloc (.cells #[] 5)))).alloc (Nat.le_refl _) (.cells #[.int .i64 0, .int .i64 0, .int .i64 0, .int .i64 0, .int .i64 0, .slice none 0 0] 29)
      have hBX : Blk ((((w1.drew).alloc (.cells #[] 5))).alloc (.cells #[.int .i64 0, .int .i64 0, .int .i64 0, .int .i64 0, .int .i64 0, .slice none 0 0] 29)) (w1.heap.size + 1) #[.int .i64 0, .int .i64 0, .int .i64 0, .int .i64 0, .int .i64 0, .slice none 0 0] 29 := by
        have h := Blk.new (((w1.drew).alloc (.cells #[] 5))) #[.int .i64 0, .int .i64 0, .int .i64 0, .int .i64 0, .int .i64 0, .slice none 0 0] 29
        first | exact h | simpa using h
      have BX := Lib.hid hBX
      have HLO : Hid (w1.heap.size ≤ w1.heap.size + 1) := Lib.hid (by have h := HB.out.size; first | exact h | (simp; done) | (simp at h ⊢; omega))
      clear hBX
      have HNE : Hid (w1.heap.size + 1 ≠ w1.heap.size) := Lib.hid (Nat.ne_of_gt (by have h := (E0.out.range (w1.heap.size) (by simp [Value.ownBlock])).2; first | exact h | (simp; done) | (simp at h ⊢; omega)))
      have HB := Lib.hid (HB.out.trans (hbA.mono HB.out.size))
      have E0 := Lib.hid (E0.out.below hbA)
      clear hbA
      go_simp
      refine hK.out _ _ (by exact (⟨(HB.out.cell (p := ⟨b, off, none⟩) hbl).trans HLx.out, (HB.out.cell (p := ⟨b, off + 1, none⟩) hbl).trans HLs.out⟩)) (fun hHeld => ?_)
      clear hK K
      (try simp only [Act.put, List.setIfInBounds_toArray, List.set_cons_zero, List.set_cons_succ])
      refine wpAnyH_ready (rs := [9]) (by kernel_rfl) (by simp) ?_
      refine AllReadyH.cons (o := ?_) ?_ (fun K hK => ?_) AllReadyH.nil
      rotate_left 1
      · (simp only [List.getElem?_toArray, List.getElem?_cons_zero, List.getElem?_cons_succ]; try rfl)
      go_simp
      refine (l09At_any (some ⟨b, off, none⟩) l c 2 _ hn9 (by omega) (by exact hA.below HB.out)).mono ?_
      rintro e y53 ⟨rfl, hE⟩
      have hb : Below (((((w1.drew).alloc (.cells #[] 5))).alloc (.cells #[.int .i64 0, .int .i64 0, .int .i64 0, .int .i64 0, .int .i64 0, .slice none 0 0] 29))).heap.size (((((w1.drew).alloc (.cells #[] 5))).alloc (.cells #[.int .i64 0, .int .i64 0, .int .i64 0, .int .i64 0, .int .i64 0, .slice none 0 0] 29))) y53 := by obtain ⟨n, rfl⟩ := hE; exact below_of_drewN _ n
      rw [HWp.out]
      have HB := Lib.hid (HB.out.trans (hb.mono HB.out.size))
      have E0 := Lib.hid (E0.out.below hb)
      have BX := Lib.hid (BX.out.below hb)
      clear hb hE
      go_wp2_with fail
      refine hK.out _ _ (by exact (⟨(HB.out.cell (p := ⟨b, off, none⟩) hbl).trans HLx.out, (HB.out.cell (p := ⟨b, off + 1, none⟩) hbl).trans HLs.out⟩)) (fun hHeld => ?_)
      clear hK K
      (try simp only [Act.put, List.setIfInBounds_toArray, List.set_cons_zero, List.set_cons_succ])
      refine wpAnyH_ready (rs := [11]) (by kernel_rfl) (by simp) ?_
      refine AllReadyH.cons (o := ?_) ?_ (fun K hK => ?_) AllReadyH.nil
      rotate_left 1
      · (simp only [List.getElem?_toArray, List.getElem?_cons_zero, List.getElem?_cons_succ]; try rfl)
      go_simp
      refine (l09At_any (some ⟨b, off, none⟩) l c 4 _ hn9 (by omega) (by exact hA.below HB.out)).mono ?_
      rintro e y54 ⟨rfl, hE⟩
      have hb : Below (y53).heap.size (y53) y54 := by obtain ⟨n, rfl⟩ := hE; exact below_of_drewN _ n
      rw [HWq.out]
      have HB := Lib.hid (HB.out.trans (hb.mono HB.out.size))
      have E0 := Lib.hid (E0.out.below hb)
      have BX := Lib.hid (BX.out.below hb)
      clear hb hE
      go_wp2_with fail
      refine hK.out _ _ (by exact (⟨(HB.out.cell (p := ⟨b, off, none⟩) hbl).trans HLx.out, (HB.out.cell (p := ⟨b, off + 1, none⟩) hbl).trans HLs.out⟩)) (fun hHeld => ?_)
      clear hK K
      (try simp only [Act.put, List.setIfInBounds_toArray, List.set_cons_zero, List.set_cons_succ])
      refine wpAnyH_ready (rs := [13]) (by kernel_rfl) (by simp) ?_
      refine AllReadyH.cons (o := ?_) ?_ (fun K hK => ?_) AllReadyH.nil
      rotate_left 1
      · (simp only [List.getElem?_toArray, List.getElem?_cons_zero, List.getElem?_cons_succ]; try rfl)
      go_simp
      refine (l09At_any (some ⟨b, off, none⟩) l c 6 _ hn9 (by omega) (by exact hA.below HB.out)).mono ?_
      rintro e y55 ⟨rfl, hE⟩
      have hb : Below (y54).heap.size (y54) y55 := by obtain ⟨n, rfl⟩ := hE; exact below_of_drewN _ n
      rw [HWr.out]
      have HB := Lib.hid (HB.out.trans (hb.mono HB.out.size))
      have E0 := Lib.hid (E0.out.below hb)
      have BX := Lib.hid (BX.out.below hb)
      clear hb hE
      go_wp2_with fail
      refine hK.out _ _ (by exact (⟨(HB.out.cell (p := ⟨b, off, none⟩) hbl).trans HLx.out, (HB.out.cell (p := ⟨b, off + 1, none⟩) hbl).trans HLs.out⟩)) (fun hHeld => ?_)
      clear hK K
      (try simp only [Act.put, List.setIfInBounds_toArray, List.set_cons_zero, List.set_cons_succ])
      refine wpAnyH_ready (rs := [17]) (by kernel_rfl) (by simp) ?_
      refine AllReadyH.cons (o := ?_) ?_ (fun K hK => ?_) AllReadyH.nil
      rotate_left 1
      · (simp only [List.getElem?_toArray, List.getElem?_cons_zero, List.getElem?_cons_succ]; try rfl)
      have hfresh := E0.out.range
      refine step_app_bytes9 rfl (.tmp 23) (.tmp 25) rfl _ (Value.slice (some ⟨w1.heap.size, 0, none⟩) 0 0) [] T D N rc rfl rfl HN.out (by exact E0.out) (by exact HS.out.below HB.out) (by simp; omega) (by exact HB.out.size) ?_
      intro v9 y56 hown hg hv9
      have hg : World.grownBy (y55) y56 (Value.slice (some ⟨w1.heap.size, 0, none⟩) 0 0).ownBlock := ⟨hg.os, hg.tape, hg.output, hg.size, hg.block⟩
      have hke := Keeps.of_grown hg
      have hown : Own y56 w1.heap.size v9 T := hown
      have hbbl := BX.out.lt
      have BX := Lib.hid (BX.out.of_block (hke.block _ BX.out.lt (fun h => by first | (simp [Value.ownBlock] at h; done) | (have h2 := h; simp only [Value.ownBlock, Option.toList_some, List.mem_singleton] at h2; exact HNE.out h2))))
      have HB := Lib.hid (HB.out.trans (hke.below (B := w1.heap.size) HB.out.size (fun k hk => (hfresh k hk).1)))
      obtain ⟨AV, cV, rfl, lV, kV, _, _, _⟩ := own_plain9 hown
      have VV := Lib.hid hown
      have HVB : Hid (∀ k ∈ (Value.slice AV T.length cV).ownBlock.toList, k ≠ w1.heap.size + 1) := Lib.hid (fun k hk e => by
        rcases hv9 with h | h
        · have h3 : k = w1.heap.size := by rw [h] at hk; simpa [Value.ownBlock] using hk
          exact HNE.out (e.symm.trans h3)
        · have h3 : k = (y55).heap.size := by rw [h] at hk; simpa using hk
          have h2 : w1.heap.size + 1 < (y55).heap.size := hbbl
          omega)
      clear hbbl
      clear hke hg hown hfresh
      (try go_simp)
      refine hK.out _ _ (by exact (⟨(HB.out.cell (p := ⟨b, off, none⟩) hbl).trans HLx.out, (HB.out.cell (p := ⟨b, off + 1, none⟩) hbl).trans HLs.out⟩)) (fun hHeld => ?_)
      clear hK K
      (try simp only [Act.put, List.setIfInBounds_toArray, List.set_cons_zero, List.set_cons_succ])
      refine wpAnyH_take (i := 18) (oi := ?_) (v := ?_) ?_ ?_ ?_ ?_ ?_ ?_ (by exact hHeld) ?_
      rotate_left 2
      · (simp only [List.getElem?_toArray, List.getElem?_cons_zero, List.getElem?_cons_succ]; try rfl)
      · kernel_rfl
      · kernel_rfl
      · kernel_rfl
      · exact fun _ _ _ h => h
      · refine Or.inl ⟨by rfl, ?_⟩
        (intro V hSV; (try dsimp only at hSV); obtain ⟨q0, q1⟩ := hSV; go_simp; try with_reducible rfl)
      (try simp only [Act.put, List.setIfInBounds_toArray, List.set_cons_zero, List.set_cons_succ])
      have g0 := BX.out.cell 0
      have f0 := BX.out.frozen 0
      have g1 := BX.out.cell 1
      have f1 := BX.out.frozen 1
      have g2 := BX.out.cell 2
      have f2 := BX.out.frozen 2
      have g3 := BX.out.cell 3
      have f3 := BX.out.frozen 3
      have g4 := BX.out.cell 4
      have f4 := BX.out.frozen 4
      have g5 := BX.out.cell 5
      have f5 := BX.out.frozen 5
      have BF : Hid (Blk (((((((((((((y56).setCell ⟨w1.heap.size + 1, 0, none⟩ (.int .i64 x))).setCell ⟨w1.heap.size + 1, 1, none⟩ (.int .i64 s))).setCell ⟨w1.heap.size + 1, 2, none⟩ (.int .i64 p))).setCell ⟨w1.heap.size + 1, 3, none⟩ (.int .i64 q))).setCell ⟨w1.heap.size + 1, 4, none⟩ (.int .i64 r))).setCell ⟨w1.heap.size + 1, 5, none⟩ (.slice AV T.length cV))) (w1.heap.size + 1) #[.int .i64 x, .int .i64 s, .int .i64 p, .int .i64 q, .int .i64 r, .slice AV T.length cV] 29) := Lib.hid (by simpa using ((((((BX.out.set 0 (.int .i64 x)).set 1 (.int .i64 s)).set 2 (.int .i64 p)).set 3 (.int .i64 q)).set 4 (.int .i64 r)).set 5 (.slice AV T.length cV)))
      have HBF : Hid (Below w1.heap.size w1 (((((((((((((y56).setCell ⟨w1.heap.size + 1, 0, none⟩ (.int .i64 x))).setCell ⟨w1.heap.size + 1, 1, none⟩ (.int .i64 s))).setCell ⟨w1.heap.size + 1, 2, none⟩ (.int .i64 p))).setCell ⟨w1.heap.size + 1, 3, none⟩ (.int .i64 q))).setCell ⟨w1.heap.size + 1, 4, none⟩ (.int .i64 r))).setCell ⟨w1.heap.size + 1, 5, none⟩ (.slice AV T.length cV)))) := Lib.hid ((((((HB.out.setCell (p := ⟨w1.heap.size + 1, 0, none⟩) HLO.out (.int .i64 x)).setCell (p := ⟨w1.heap.size + 1, 1, none⟩) HLO.out (.int .i64 s)).setCell (p := ⟨w1.heap.size + 1, 2, none⟩) HLO.out (.int .i64 p)).setCell (p := ⟨w1.heap.size + 1, 3, none⟩) HLO.out (.int .i64 q)).setCell (p := ⟨w1.heap.size + 1, 4, none⟩) HLO.out (.int .i64 r)).setCell (p := ⟨w1.heap.size + 1, 5, none⟩) HLO.out (.slice AV T.length cV))
      have VF : Hid (Own (((((((((((((y56).setCell ⟨w1.heap.size + 1, 0, none⟩ (.int .i64 x))).setCell ⟨w1.heap.size + 1, 1, none⟩ (.int .i64 s))).setCell ⟨w1.heap.size + 1, 2, none⟩ (.int .i64 p))).setCell ⟨w1.heap.size + 1, 3, none⟩ (.int .i64 q))).setCell ⟨w1.heap.size + 1, 4, none⟩ (.int .i64 r))).setCell ⟨w1.heap.size + 1, 5, none⟩ (.slice AV T.length cV))) w1.heap.size (.slice AV T.length cV) T) := Lib.hid ((((((VV.out.heap (fun k hk => Below.heap_setCell _ ⟨w1.heap.size + 1, 0, none⟩ (.int .i64 x) k (fun e => HVB.out k hk e))).heap (fun k hk => Below.heap_setCell _ ⟨w1.heap.size + 1, 1, none⟩ (.int .i64 s) k (fun e => HVB.out k hk e))).heap (fun k hk => Below.heap_setCell _ ⟨w1.heap.size + 1, 2, none⟩ (.int .i64 p) k (fun e => HVB.out k hk e))).heap (fun k hk => Below.heap_setCell _ ⟨w1.heap.size + 1, 3, none⟩ (.int .i64 q) k (fun e => HVB.out k hk e))).heap (fun k hk => Below.heap_setCell _ ⟨w1.heap.size + 1, 4, none⟩ (.int .i64 r) k (fun e => HVB.out k hk e))).heap (fun k hk => Below.heap_setCell _ ⟨w1.heap.size + 1, 5, none⟩ (.slice AV T.length cV) k (fun e => HVB.out k hk e)))
      have HB := HBF
      refine wpAnyH_ready (rs := [20]) (by kernel_rfl) (by simp) ?_
      refine AllReadyH.cons (o := ?_) ?_ (fun K hK => ?_) AllReadyH.nil
      rotate_left 1
      · (simp only [List.getElem?_toArray, List.getElem?_cons_zero, List.getElem?_cons_succ]; try rfl)
      go_simp
      refine hK.out _ _ (by exact (⟨(HB.out.cell (p := ⟨b, off, none⟩) hbl).trans HLx.out, (HB.out.cell (p := ⟨b, off + 1, none⟩) hbl).trans HLs.out⟩)) (fun hHeld => ?_)
      clear hK K
      (try simp only [Act.put, List.setIfInBounds_toArray, List.set_cons_zero, List.set_cons_succ])
      refine wpAnyH_done (by kernel_rfl) ?_ _
      refine NoPanic.normal ?_
      go_wp2_with fail
      go_meet
      exact ⟨w1.heap.size + 1, AV, cV, rfl, BF.out, VF.out, HLO.out, HBF.out⟩
    refine AllReadyH.cons (o := ?_) ?_ (fun K hK => ?_) AllReadyH.nil
    rotate_left 1
    · (simp only [List.getElem?_toArray, List.getElem?_cons_zero, List.getElem?_cons_succ]; try rfl)
    have hbA := (Below.refl (w1.drew).heap.size (w1.drew)).alloc (Nat.le_refl _) (.cells #[.int .i64 0, .int .i64 0, .int .i64 0, .int .i64 0, .int .i64 0, .slice none 0 0] 29)
    have hBX : Blk ((w1.drew).alloc (.cells #[.int .i64 0, .int .i64 0, .int .i64 0, .int .i64 0, .int .i64 0, .slice none 0 0] 29)) (w1.heap.size) #[.int .i64 0, .int .i64 0, .int .i64 0, .int .i64 0, .int .i64 0, .slice none 0 0] 29 := by
      have h := Blk.new (w1.drew) #[.int .i64 0, .int .i64 0, .int .i64 0, .int .i64 0, .int .i64 0, .slice none 0 0] 29
      first | exact h | simpa using h
    have BX := Lib.hid hBX
    have HLO : Hid (w1.heap.size ≤ w1.heap.size) := Lib.hid (by have h := HB.out.size; first | exact h | (simp; done) | (simp at h ⊢; omega))
    clear hBX
    have HB := Lib.hid (HB.out.trans (hbA.mono HB.out.size))
    clear hbA
    go_simp
    refine hK.out _ _ (by exact (⟨(HB.out.cell (p := ⟨b, off, none⟩) hbl).trans HLx.out, (HB.out.cell (p := ⟨b, off + 1, none⟩) hbl).trans HLs.out⟩)) (fun hHeld => ?_)
    clear hK K
    (try simp only [Act.put, List.setIfInBounds_toArray, List.set_cons_zero, List.set_cons_succ])
    refine wpAnyH_ready (rs := [9, 14]) (by kernel_rfl) (by simp) ?_
    refine AllReadyH.cons (o := ?_) ?_ (fun K hK => ?_) ?_
    rotate_left 1
    · (simp only [List.getElem?_toArray, List.getElem?_cons_zero, List.getElem?_cons_succ]; try rfl)
    · go_simp
      refine (l09At_any (some ⟨b, off, none⟩) l c 2 _ hn9 (by omega) (by exact hA.below HB.out)).mono ?_
      rintro e y57 ⟨rfl, hE⟩
      have hb : Below (((w1.drew).alloc (.cells #[.int .i64 0, .int .i64 0, .int .i64 0, .int .i64 0, .int .i64 0, .slice none 0 0] 29))).heap.size (((w1.drew).alloc (.cells #[.int .i64 0, .int .i64 0, .int .i64 0, .int .i64 0, .int .i64 0, .slice none 0 0] 29))) y57 := by obtain ⟨n, rfl⟩ := hE; exact below_of_drewN _ n
      rw [HWp.out]
      have HB := Lib.hid (HB.out.trans (hb.mono HB.out.size))
      have BX := Lib.hid (BX.out.below hb)
      clear hb hE
      go_wp2_with fail
      refine hK.out _ _ (by exact (⟨(HB.out.cell (p := ⟨b, off, none⟩) hbl).trans HLx.out, (HB.out.cell (p := ⟨b, off + 1, none⟩) hbl).trans HLs.out⟩)) (fun hHeld => ?_)
      clear hK K
      (try simp only [Act.put, List.setIfInBounds_toArray, List.set_cons_zero, List.set_cons_succ])
      refine wpAnyH_ready (rs := [11, 14]) (by kernel_rfl) (by simp) ?_
      refine AllReadyH.cons (o := ?_) ?_ (fun K hK => ?_) ?_
      rotate_left 1
      · (simp only [List.getElem?_toArray, List.getElem?_cons_zero, List.getElem?_cons_succ]; try rfl)
      · go_simp
        refine (l09At_any (some ⟨b, off, none⟩) l c 4 _ hn9 (by omega) (by exact hA.below HB.out)).mono ?_
        rintro e y58 ⟨rfl, hE⟩
        have hb : Below (y57).heap.size (y57) y58 := by obtain ⟨n, rfl⟩ := hE; exact below_of_drewN _ n
        rw [HWq.out]
        have HB := Lib.hid (HB.out.trans (hb.mono HB.out.size))
        have BX := Lib.hid (BX.out.below hb)
        clear hb hE
        go_wp2_with fail
        refine hK.out _ _ (by exact (⟨(HB.out.cell (p := ⟨b, off, none⟩) hbl).trans HLx.out, (HB.out.cell (p := ⟨b, off + 1, none⟩) hbl).trans HLs.out⟩)) (fun hHeld => ?_)
        clear hK K
        (try simp only [Act.put, List.setIfInBounds_toArray, List.set_cons_zero, List.set_cons_succ])
        refine wpAnyH_ready (rs := [13, 14]) (by kernel_rfl) (by simp) ?_
        refine AllReadyH.cons (o := ?_) ?_ (fun K hK => ?_) ?_
        rotate_left 1
        · (simp only [List.getElem?_toArray, List.getElem?_cons_zero, List.getElem?_cons_succ]; try rfl)
        · go_simp
          refine (l09At_any (some ⟨b, off, none⟩) l c 6 _ hn9 (by omega) (by exact hA.below HB.out)).mono ?_
          rintro e y59 ⟨rfl, hE⟩
          have hb : Below (y58).heap.size (y58) y59 := by obtain ⟨n, rfl⟩ := hE; exact below_of_drewN _ n
          rw [HWr.out]
          have HB := Lib.hid (HB.out.trans (hb.mono HB.out.size))
          have BX := Lib.hid (BX.out.below hb)
          clear hb hE
          go_wp2_with fail
          refine hK.out _ _ (by exact (⟨(HB.out.cell (p := ⟨b, off, none⟩) hbl).trans HLx.out, (HB.out.cell (p := ⟨b, off + 1, none⟩) hbl).trans HLs.out⟩)) (fun hHeld => ?_)
          clear hK K
          (try simp only [Act.put, List.setIfInBounds_toArray, List.set_cons_zero, List.set_cons_succ])
          refine wpAnyH_ready (rs := [14]) (by kernel_rfl) (by simp) ?_
          refine AllReadyH.cons (o := ?_) ?_ (fun K hK => ?_) AllReadyH.nil
          rotate_left 1
          · (simp only [List.getElem?_toArray, List.getElem?_cons_zero, List.getElem?_cons_succ]; try rfl)
          have hbA := (Below.refl (y59).heap.size (y59)).alloc (Nat.le_refl _) (.cells #[] 5)
          have hE0 : Own ((y59).alloc (.cells #[] 5)) w1.heap.size (.slice (some ⟨y59.heap.size, 0, none⟩) 0 0) [] := by
            have h := Own.mono (show Own ((y59).alloc (.cells #[] 5)) (y59).heap.size (.slice (some ⟨(y59).heap.size, 0, none⟩) 0 0) [] from Own.new (y59) [] (by simp [maxLen])) (show w1.heap.size ≤ (y59).heap.size from HB.out.size)
            first | exact h | simpa using h
          have E0 := Lib.hid hE0
          clear hE0
          have HNE : Hid (w1.heap.size ≠ y59.heap.size) := Lib.hid (Nat.ne_of_lt (by have h := BX.out.lt; first | exact h | (simp; done) | (simp at h ⊢; omega)))
          have HB := Lib.hid (HB.out.trans (hbA.mono HB.out.size))
          have BX := Lib.hid (BX.out.below hbA)
          clear hbA
          go_simp
          refine hK.out _ _ (by exact (⟨(HB.out.cell (p := ⟨b, off, none⟩) hbl).trans HLx.out, (HB.out.cell (p := ⟨b, off + 1, none⟩) hbl).trans HLs.out⟩)) (fun hHeld => ?_)
          clear hK K
          (try simp only [Act.put, List.setIfInBounds_toArray, List.set_cons_zero, List.set_cons_succ])
          refine wpAnyH_ready (rs := [17]) (by kernel_rfl) (by simp) ?_
          refine AllReadyH.cons (o := ?_) ?_ (fun K hK => ?_) AllReadyH.nil
          rotate_left 1
          · (simp only [List.getElem?_toArray, List.getElem?_cons_zero, List.getElem?_cons_succ]; try rfl)
          have hfresh := E0.out.range
          refine step_app_bytes9 rfl (.tmp 23) (.tmp 25) rfl _ (Value.slice (some ⟨y59.heap.size, 0, none⟩) 0 0) [] T D N rc rfl rfl HN.out (by exact E0.out) (by exact HS.out.below HB.out) (by simp; omega) (by exact HB.out.size) ?_
          intro v9 y61 hown hg hv9
          have hg : World.grownBy (((y59).alloc (.cells #[] 5))) y61 (Value.slice (some ⟨y59.heap.size, 0, none⟩) 0 0).ownBlock := ⟨hg.os, hg.tape, hg.output, hg.size, hg.block⟩
          have hke := Keeps.of_grown hg
          have hown : Own y61 w1.heap.size v9 T := hown
          have hbbl := BX.out.lt
          have BX := Lib.hid (BX.out.of_block (hke.block _ BX.out.lt (fun h => by first | (simp [Value.ownBlock] at h; done) | (have h2 := h; simp only [Value.ownBlock, Option.toList_some, List.mem_singleton] at h2; exact HNE.out h2))))
          have HB := Lib.hid (HB.out.trans (hke.below (B := w1.heap.size) HB.out.size (fun k hk => (hfresh k hk).1)))
          obtain ⟨AV, cV, rfl, lV, kV, _, _, _⟩ := own_plain9 hown
          have VV := Lib.hid hown
          have HVB : Hid (∀ k ∈ (Value.slice AV T.length cV).ownBlock.toList, k ≠ w1.heap.size) := Lib.hid (fun k hk e => by
            rcases hv9 with h | h
            · have h3 : k = y59.heap.size := by rw [h] at hk; simpa [Value.ownBlock] using hk
              exact HNE.out (e.symm.trans h3)
            · have h3 : k = (((y59).alloc (.cells #[] 5))).heap.size := by rw [h] at hk; simpa using hk
              have h2 : w1.heap.size < (((y59).alloc (.cells #[] 5))).heap.size := hbbl
              omega)
          clear hbbl
          clear hke hg hown hfresh
          (try go_simp)
          refine hK.out _ _ (by exact (⟨(HB.out.cell (p := ⟨b, off, none⟩) hbl).trans HLx.out, (HB.out.cell (p := ⟨b, off + 1, none⟩) hbl).trans HLs.out⟩)) (fun hHeld => ?_)
          clear hK K
          (try simp only [Act.put, List.setIfInBounds_toArray, List.set_cons_zero, List.set_cons_succ])
          refine wpAnyH_take (i := 18) (oi := ?_) (v := ?_) ?_ ?_ ?_ ?_ ?_ ?_ (by exact hHeld) ?_
          rotate_left 2
          · (simp only [List.getElem?_toArray, List.getElem?_cons_zero, List.getElem?_cons_succ]; try rfl)
          · kernel_rfl
          · kernel_rfl
          · kernel_rfl
          · exact fun _ _ _ h => h
          · refine Or.inl ⟨by rfl, ?_⟩
            (intro V hSV; (try dsimp only at hSV); obtain ⟨q0, q1⟩ := hSV; go_simp; try with_reducible rfl)
          (try simp only [Act.put, List.setIfInBounds_toArray, List.set_cons_zero, List.set_cons_succ])
          have g0 := BX.out.cell 0
          have f0 := BX.out.frozen 0
          have g1 := BX.out.cell 1
          have f1 := BX.out.frozen 1
          have g2 := BX.out.cell 2
          have f2 := BX.out.frozen 2
          have g3 := BX.out.cell 3
          have f3 := BX.out.frozen 3
          have g4 := BX.out.cell 4
          have f4 := BX.out.frozen 4
          have g5 := BX.out.cell 5
          have f5 := BX.out.frozen 5
          have BF : Hid (Blk (((((((((((((y61).setCell ⟨w1.heap.size, 0, none⟩ (.int .i64 x))).setCell ⟨w1.heap.size, 1, none⟩ (.int .i64 s))).setCell ⟨w1.heap.size, 2, none⟩ (.int .i64 p))).setCell ⟨w1.heap.size, 3, none⟩ (.int .i64 q))).setCell ⟨w1.heap.size, 4, none⟩ (.int .i64 r))).setCell ⟨w1.heap.size, 5, none⟩ (.slice AV T.length cV))) (w1.heap.size) #[.int .i64 x, .int .i64 s, .int .i64 p, .int .i64 q, .int .i64 r, .slice AV T.length cV] 29) := Lib.hid (by simpa using ((((((BX.out.set 0 (.int .i64 x)).set 1 (.int .i64 s)).set 2 (.int .i64 p)).set 3 (.int .i64 q)).set 4 (.int .i64 r)).set 5 (.slice AV T.length cV)))
          have HBF : Hid (Below w1.heap.size w1 (((((((((((((y61).setCell ⟨w1.heap.size, 0, none⟩ (.int .i64 x))).setCell ⟨w1.heap.size, 1, none⟩ (.int .i64 s))).setCell ⟨w1.heap.size, 2, none⟩ (.int .i64 p))).setCell ⟨w1.heap.size, 3, none⟩ (.int .i64 q))).setCell ⟨w1.heap.size, 4, none⟩ (.int .i64 r))).setCell ⟨w1.heap.size, 5, none⟩ (.slice AV T.length cV)))) := Lib.hid ((((((HB.out.setCell (p := ⟨w1.heap.size, 0, none⟩) HLO.out (.int .i64 x)).setCell (p := ⟨w1.heap.size, 1, none⟩) HLO.out (.int .i64 s)).setCell (p := ⟨w1.heap.size, 2, none⟩) HLO.out (.int .i64 p)).setCell (p := ⟨w1.heap.size, 3, none⟩) HLO.out (.int .i64 q)).setCell (p := ⟨w1.heap.size, 4, none⟩) HLO.out (.int .i64 r)).setCell (p := ⟨w1.heap.size, 5, none⟩) HLO.out (.slice AV T.length cV))
          have VF : Hid (Own (((((((((((((y61).setCell ⟨w1.heap.size, 0, none⟩ (.int .i64 x))).setCell ⟨w1.heap.size, 1, none⟩ (.int .i64 s))).setCell ⟨w1.heap.size, 2, none⟩ (.int .i64 p))).setCell ⟨w1.heap.size, 3, none⟩ (.int .i64 q))).setCell ⟨w1.heap.size, 4, none⟩ (.int .i64 r))).setCell ⟨w1.heap.size, 5, none⟩ (.slice AV T.length cV))) w1.heap.size (.slice AV T.length cV) T) := Lib.hid ((((((VV.out.heap (fun k hk => Below.heap_setCell _ ⟨w1.heap.size, 0, none⟩ (.int .i64 x) k (fun e => HVB.out k hk e))).heap (fun k hk => Below.heap_setCell _ ⟨w1.heap.size, 1, none⟩ (.int .i64 s) k (fun e => HVB.out k hk e))).heap (fun k hk => Below.heap_setCell _ ⟨w1.heap.size, 2, none⟩ (.int .i64 p) k (fun e => HVB.out k hk e))).heap (fun k hk => Below.heap_setCell _ ⟨w1.heap.size, 3, none⟩ (.int .i64 q) k (fun e => HVB.out k hk e))).heap (fun k hk => Below.heap_setCell _ ⟨w1.heap.size, 4, none⟩ (.int .i64 r) k (fun e => HVB.out k hk e))).heap (fun k hk => Below.heap_setCell _ ⟨w1.heap.size, 5, none⟩ (.slice AV T.length cV) k (fun e => HVB.out k hk e)))
          have HB := HBF
          refine wpAnyH_ready (rs := [20]) (by kernel_rfl) (by simp) ?_
          refine AllReadyH.cons (o := ?_) ?_ (fun K hK => ?_) AllReadyH.nil
          rotate_left 1
          · (simp only [List.getElem?_toArray, List.getElem?_cons_zero, List.getElem?_cons_succ]; try rfl)
          go_simp
          refine hK.out _ _ (by exact (⟨(HB.out.cell (p := ⟨b, off, none⟩) hbl).trans HLx.out, (HB.out.cell (p := ⟨b, off + 1, none⟩) hbl).trans HLs.out⟩)) (fun hHeld => ?_)
          clear hK K
          (try simp only [Act.put, List.setIfInBounds_toArray, List.set_cons_zero, List.set_cons_succ])
          refine wpAnyH_done (by kernel_rfl) ?_ _
          refine NoPanic.normal ?_
          go_wp2_with fail
          go_meet
          exact ⟨w1.heap.size, AV, cV, rfl, BF.out, VF.out, HLO.out, HBF.out⟩
        refine AllReadyH.cons (o := ?_) ?_ (fun K hK => ?_) AllReadyH.nil
        rotate_left 1
        · (simp only [List.getElem?_toArray, List.getElem?_cons_zero, List.getElem?_cons_succ]; try rfl)
        have hbA := (Below.refl (y58).heap.size (y58)).alloc (Nat.le_refl _) (.cells #[] 5)
        have hE0 : Own ((y58).alloc (.cells #[] 5)) w1.heap.size (.slice (some ⟨y58.heap.size, 0, none⟩) 0 0) [] := by
          have h := Own.mono (show Own ((y58).alloc (.cells #[] 5)) (y58).heap.size (.slice (some ⟨(y58).heap.size, 0, none⟩) 0 0) [] from Own.new (y58) [] (by simp [maxLen])) (show w1.heap.size ≤ (y58).heap.size from HB.out.size)
          first | exact h | simpa using h
        have E0 := Lib.hid hE0
        clear hE0
        have HNE : Hid (w1.heap.size ≠ y58.heap.size) := Lib.hid (Nat.ne_of_lt (by have h := BX.out.lt; first | exact h | (simp; done) | (simp at h ⊢; omega)))
        have HB := Lib.hid (HB.out.trans (hbA.mono HB.out.size))
        have BX := Lib.hid (BX.out.below hbA)
        clear hbA
        go_simp
        refine hK.out _ _ (by exact (⟨(HB.out.cell (p := ⟨b, off, none⟩) hbl).trans HLx.out, (HB.out.cell (p := ⟨b, off + 1, none⟩) hbl).trans HLs.out⟩)) (fun hHeld => ?_)
        clear hK K
        (try simp only [Act.put, List.setIfInBounds_toArray, List.set_cons_zero, List.set_cons_succ])
        refine wpAnyH_ready (rs := [13]) (by kernel_rfl) (by simp) ?_
        refine AllReadyH.cons (o := ?_) ?_ (fun K hK => ?_) AllReadyH.nil
        rotate_left 1
        · (simp only [List.getElem?_toArray, List.getElem?_cons_zero, List.getElem?_cons_succ]; try rfl)
        go_simp
        refine (l09At_any (some ⟨b, off, none⟩) l c 6 _ hn9 (by omega) (by exact hA.below HB.out)).mono ?_
        rintro e y63 ⟨rfl, hE⟩
        have hb : Below (((y58).alloc (.cells #[] 5))).heap.size (((y58).alloc (.cells #[] 5))) y63 := by obtain ⟨n, rfl⟩ := hE; exact below_of_drewN _ n
        rw [HWr.out]
        have HB := Lib.hid (HB.out.trans (hb.mono HB.out.size))
        have BX := Lib.hid (BX.out.below hb)
        have E0 := Lib.hid (E0.out.below hb)
        clear hb hE
        go_wp2_with fail
        refine hK.out _ _ (by exact (⟨(HB.out.cell (p := ⟨b, off, none⟩) hbl).trans HLx.out, (HB.out.cell (p := ⟨b, off + 1, none⟩) hbl).trans HLs.out⟩)) (fun hHeld => ?_)
        clear hK K
        (try simp only [Act.put, List.setIfInBounds_toArray, List.set_cons_zero, List.set_cons_succ])
        refine wpAnyH_ready (rs := [17]) (by kernel_rfl) (by simp) ?_
        refine AllReadyH.cons (o := ?_) ?_ (fun K hK => ?_) AllReadyH.nil
        rotate_left 1
        · (simp only [List.getElem?_toArray, List.getElem?_cons_zero, List.getElem?_cons_succ]; try rfl)
        have hfresh := E0.out.range
        refine step_app_bytes9 rfl (.tmp 23) (.tmp 25) rfl _ (Value.slice (some ⟨y58.heap.size, 0, none⟩) 0 0) [] T D N rc rfl rfl HN.out (by exact E0.out) (by exact HS.out.below HB.out) (by simp; omega) (by exact HB.out.size) ?_
        intro v9 y64 hown hg hv9
        have hg : World.grownBy (y63) y64 (Value.slice (some ⟨y58.heap.size, 0, none⟩) 0 0).ownBlock := ⟨hg.os, hg.tape, hg.output, hg.size, hg.block⟩
        have hke := Keeps.of_grown hg
        have hown : Own y64 w1.heap.size v9 T := hown
        have hbbl := BX.out.lt
        have BX := Lib.hid (BX.out.of_block (hke.block _ BX.out.lt (fun h => by first | (simp [Value.ownBlock] at h; done) | (have h2 := h; simp only [Value.ownBlock, Option.toList_some, List.mem_singleton] at h2; exact HNE.out h2))))
        have HB := Lib.hid (HB.out.trans (hke.below (B := w1.heap.size) HB.out.size (fun k hk => (hfresh k hk).1)))
        obtain ⟨AV, cV, rfl, lV, kV, _, _, _⟩ := own_plain9 hown
        have VV := Lib.hid hown
        have HVB : Hid (∀ k ∈ (Value.slice AV T.length cV).ownBlock.toList, k ≠ w1.heap.size) := Lib.hid (fun k hk e => by
          rcases hv9 with h | h
          · have h3 : k = y58.heap.size := by rw [h] at hk; simpa [Value.ownBlock] using hk
            exact HNE.out (e.symm.trans h3)
          · have h3 : k = (y63).heap.size := by rw [h] at hk; simpa using hk
            have h2 : w1.heap.size < (y63).heap.size := hbbl
            omega)
        clear hbbl
        clear hke hg hown hfresh
        (try go_simp)
        refine hK.out _ _ (by exact (⟨(HB.out.cell (p := ⟨b, off, none⟩) hbl).trans HLx.out, (HB.out.cell (p := ⟨b, off + 1, none⟩) hbl).trans HLs.out⟩)) (fun hHeld => ?_)
        clear hK K
        (try simp only [Act.put, List.setIfInBounds_toArray, List.set_cons_zero, List.set_cons_succ])
        refine wpAnyH_take (i := 18) (oi := ?_) (v := ?_) ?_ ?_ ?_ ?_ ?_ ?_ (by exact hHeld) ?_
        rotate_left 2
        · (simp only [List.getElem?_toArray, List.getElem?_cons_zero, List.getElem?_cons_succ]; try rfl)
        · kernel_rfl
        · kernel_rfl
        · kernel_rfl
        · exact fun _ _ _ h => h
        · refine Or.inl ⟨by rfl, ?_⟩
          (intro V hSV; (try dsimp only at hSV); obtain ⟨q0, q1⟩ := hSV; go_simp; try with_reducible rfl)
        (try simp only [Act.put, List.setIfInBounds_toArray, List.set_cons_zero, List.set_cons_succ])
        have g0 := BX.out.cell 0
        have f0 := BX.out.frozen 0
        have g1 := BX.out.cell 1
        have f1 := BX.out.frozen 1
        have g2 := BX.out.cell 2
        have f2 := BX.out.frozen 2
        have g3 := BX.out.cell 3
        have f3 := BX.out.frozen 3
        have g4 := BX.out.cell 4
        have f4 := BX.out.frozen 4
        have g5 := BX.out.cell 5
        have f5 := BX.out.frozen 5
        have BF : Hid (Blk (((((((((((((y64).setCell ⟨w1.heap.size, 0, none⟩ (.int .i64 x))).setCell ⟨w1.heap.size, 1, none⟩ (.int .i64 s))).setCell ⟨w1.heap.size, 2, none⟩ (.int .i64 p))).setCell ⟨w1.heap.size, 3, none⟩ (.int .i64 q))).setCell ⟨w1.heap.size, 4, none⟩ (.int .i64 r))).setCell ⟨w1.heap.size, 5, none⟩ (.slice AV T.length cV))) (w1.heap.size) #[.int .i64 x, .int .i64 s, .int .i64 p, .int .i64 q, .int .i64 r, .slice AV T.length cV] 29) := Lib.hid (by simpa using ((((((BX.out.set 0 (.int .i64 x)).set 1 (.int .i64 s)).set 2 (.int .i64 p)).set 3 (.int .i64 q)).set 4 (.int .i64 r)).set 5 (.slice AV T.length cV)))
        have HBF : Hid (Below w1.heap.size w1 (((((((((((((y64).setCell ⟨w1.heap.size, 0, none⟩ (.int .i64 x))).setCell ⟨w1.heap.size, 1, none⟩ (.int .i64 s))).setCell ⟨w1.heap.size, 2, none⟩ (.int .i64 p))).setCell ⟨w1.heap.size, 3, none⟩ (.int .i64 q))).setCell ⟨w1.heap.size, 4, none⟩ (.int .i64 r))).setCell ⟨w1.heap.size, 5, none⟩ (.slice AV T.length cV)))) := Lib.hid ((((((HB.out.setCell (p := ⟨w1.heap.size, 0, none⟩) HLO.out (.int .i64 x)).setCell (p := ⟨w1.heap.size, 1, none⟩) HLO.out (.int .i64 s)).setCell (p := ⟨w1.heap.size, 2, none⟩) HLO.out (.int .i64 p)).setCell (p := ⟨w1.heap.size, 3, none⟩) HLO.out (.int .i64 q)).setCell (p := ⟨w1.heap.size, 4, none⟩) HLO.out (.int .i64 r)).setCell (p := ⟨w1.heap.size, 5, none⟩) HLO.out (.slice AV T.length cV))
        have VF : Hid (Own (((((((((((((y64).setCell ⟨w1.heap.size, 0, none⟩ (.int .i64 x))).setCell ⟨w1.heap.size, 1, none⟩ (.int .i64 s))).setCell ⟨w1.heap.size, 2, none⟩ (.int .i64 p))).setCell ⟨w1.heap.size, 3, none⟩ (.int .i64 q))).setCell ⟨w1.heap.size, 4, none⟩ (.int .i64 r))).setCell ⟨w1.heap.size, 5, none⟩ (.slice AV T.length cV))) w1.heap.size (.slice AV T.length cV) T) := Lib.hid ((((((VV.out.heap (fun k hk => Below.heap_setCell _ ⟨w1.heap.size, 0, none⟩ (.int .i64 x) k (fun e => HVB.out k hk e))).heap (fun k hk => Below.heap_setCell _ ⟨w1.heap.size, 1, none⟩ (.int .i64 s) k (fun e => HVB.out k hk e))).heap (fun k hk => Below.heap_setCell _ ⟨w1.heap.size, 2, none⟩ (.int .i64 p) k (fun e => HVB.out k hk e))).heap (fun k hk => Below.heap_setCell _ ⟨w1.heap.size, 3, none⟩ (.int .i64 q) k (fun e => HVB.out k hk e))).heap (fun k hk => Below.heap_setCell _ ⟨w1.heap.size, 4, none⟩ (.int .i64 r) k (fun e => HVB.out k hk e))).heap (fun k hk => Below.heap_setCell _ ⟨w1.heap.size, 5, none⟩ (.slice AV T.length cV) k (fun e => HVB.out k hk e)))
        have HB := HBF
        refine wpAnyH_ready (rs := [20]) (by kernel_rfl) (by simp) ?_
        refine AllReadyH.cons (o := ?_) ?_ (fun K hK => ?_) AllReadyH.nil
        rotate_left 1
        · (simp only [List.getElem?_toArray, List.getElem?_cons_zero, List.getElem?_cons_succ]; try rfl)
        go_simp
        refine hK.out _ _ (by exact (⟨(HB.out.cell (p := ⟨b, off, none⟩) hbl).trans HLx.out, (HB.out.cell (p := ⟨b, off + 1, none⟩) hbl).trans HLs.out⟩)) (fun hHeld => ?_)
        clear hK K
        (try simp only [Act.put, List.setIfInBounds_toArray, List.set_cons_zero, List.set_cons_succ])
        refine wpAnyH_done (by kernel_rfl) ?_ _
        refine NoPanic.normal ?_
        go_wp2_with fail
        go_meet
        exact ⟨w1.heap.size, AV, cV, rfl, BF.out, VF.out, HLO.out, HBF.out⟩
      refine AllReadyH.cons (o := ?_) ?_ (fun K hK => ?_) AllReadyH.nil
      rotate_left 1
      · (simp only [List.getElem?_toArray, List.getElem?_cons_zero, List.getElem?_cons_succ]; try rfl)
      have hbA := (Below.refl (y57).heap.size (y57)).alloc (Nat.le_refl _) (.cells #[] 5)
      have hE0 : Own ((y57).alloc (.cells #[] 5)) w1.heap.size (.slice (some ⟨y57.heap.size, 0, none⟩) 0 0) [] := by
        have h := Own.mono (show Own ((y57).alloc (.cells #[] 5)) (y57).heap.size (.slice (some ⟨(y57).heap.size, 0, none⟩) 0 0) [] from Own.new (y57) [] (by simp [maxLen])) (show w1.heap.size ≤ (y57).heap.size from HB.out.size)
        first | exact h | simpa using h
      have E0 := Lib.hid hE0
      clear hE0
      have HNE : Hid (w1.heap.size ≠ y57.heap.size) := Lib.hid (Nat.ne_of_lt (by have h := BX.out.lt; first | exact h | (simp; done) | (simp at h ⊢; omega)))
      have HB := Lib.hid (HB.out.trans (hbA.mono HB.out.size))
      have BX := Lib.hid (BX.out.below hbA)
      clear hbA
      go_simp
      refine hK.out _ _ (by exact (⟨(HB.out.cell (p := ⟨b, off, none⟩) hbl).trans HLx.out, (HB.out.cell (p := ⟨b, off + 1, none⟩) hbl).trans HLs.out⟩)) (fun hHeld => ?_)
      clear hK K
      (try simp only [Act.put, List.setIfInBounds_toArray, List.set_cons_zero, List.set_cons_succ])
      refine wpAnyH_ready (rs := [11]) (by kernel_rfl) (by simp) ?_
      refine AllReadyH.cons (o := ?_) ?_ (fun K hK => ?_) AllReadyH.nil
      rotate_left 1
      · (simp only [List.getElem?_toArray, List.getElem?_cons_zero, List.getElem?_cons_succ]; try rfl)
      go_simp
      refine (l09At_any (some ⟨b, off, none⟩) l c 4 _ hn9 (by omega) (by exact hA.below HB.out)).mono ?_
      rintro e y66 ⟨rfl, hE⟩
      have hb : Below (((y57).alloc (.cells #[] 5))).heap.size (((y57).alloc (.cells #[] 5))) y66 := by obtain ⟨n, rfl⟩ := hE; exact below_of_drewN _ n
      rw [HWq.out]
      have HB := Lib.hid (HB.out.trans (hb.mono HB.out.size))
      have BX := Lib.hid (BX.out.below hb)
      have E0 := Lib.hid (E0.out.below hb)
      clear hb hE
      go_wp2_with fail
      refine hK.out _ _ (by exact (⟨(HB.out.cell (p := ⟨b, off, none⟩) hbl).trans HLx.out, (HB.out.cell (p := ⟨b, off + 1, none⟩) hbl).trans HLs.out⟩)) (fun hHeld => ?_)
      clear hK K
      (try simp only [Act.put, List.setIfInBounds_toArray, List.set_cons_zero, List.set_cons_succ])
      refine wpAnyH_ready (rs := [13]) (by kernel_rfl) (by simp) ?_
      refine AllReadyH.cons (o := ?_) ?_ (fun K hK => ?_) AllReadyH.nil
      rotate_left 1
      · (simp only [List.getElem?_toArray, List.getElem?_cons_zero, List.getElem?_cons_succ]; try rfl)
      go_simp
      refine (l09At_any (some ⟨b, off, none⟩) l c 6 _ hn9 (by omega) (by exact hA.below HB.out)).mono ?_
      rintro e y67 ⟨rfl, hE⟩
      have hb : Below (y66).heap.size (y66) y67 := by obtain ⟨n, rfl⟩ := hE; exact below_of_drewN _ n
      rw [HWr.out]
      have HB := Lib.hid (HB.out.trans (hb.mono HB.out.size))
      have BX := Lib.hid (BX.out.below hb)
      have E0 := Lib.hid (E0.out.below hb)
      clear hb hE
      go_wp2_with fail
      refine hK.out _ _ (by exact (⟨(HB.out.cell (p := ⟨b, off, none⟩) hbl).trans HLx.out, (HB.out.cell (p := ⟨b, off + 1, none⟩) hbl).trans HLs.out⟩)) (fun hHeld => ?_)
      clear hK K
      (try simp only [Act.put, List.setIfInBounds_toArray, List.set_cons_zero, List.set_cons_succ])
      refine wpAnyH_ready (rs := [17]) (by kernel_rfl) (by simp) ?_
      refine AllReadyH.cons (o := ?_) ?_ (fun K hK => ?_) AllReadyH.nil
      rotate_left 1
      · (simp only [List.getElem?_toArray, List.getElem?_cons_zero, List.getElem?_cons_succ]; try rfl)
      have hfresh := E0.out.range
      refine step_app_bytes9 rfl (.tmp 23) (.tmp 25) rfl _ (Value.slice (some ⟨y57.heap.size, 0, none⟩) 0 0) [] T D N rc rfl rfl HN.out (by exact E0.out) (by exact HS.out.below HB.out) (by simp; omega) (by exact HB.out.size) ?_
      intro v9 y68 hown hg hv9
      have hg : World.grownBy (y67) y68 (Value.slice (some ⟨y57.heap.size, 0, none⟩) 0 0).ownBlock := ⟨hg.os, hg.tape, hg.output, hg.size, hg.block⟩
      have hke := Keeps.of_grown hg
      have hown : Own y68 w1.heap.size v9 T := hown
      have hbbl := BX.out.lt
      have BX := Lib.hid (BX.out.of_block (hke.block _ BX.out.lt (fun h => by first | (simp [Value.ownBlock] at h; done) | (have h2 := h; simp only [Value.ownBlock, Option.toList_some, List.mem_singleton] at h2; exact HNE.out h2))))
      have HB := Lib.hid (HB.out.trans (hke.below (B := w1.heap.size) HB.out.size (fun k hk => (hfresh k hk).1)))
      obtain ⟨AV, cV, rfl, lV, kV, _, _, _⟩ := own_plain9 hown
      have VV := Lib.hid hown
      have HVB : Hid (∀ k ∈ (Value.slice AV T.length cV).ownBlock.toList, k ≠ w1.heap.size) := Lib.hid (fun k hk e => by
        rcases hv9 with h | h
        · have h3 : k = y57.heap.size := by rw [h] at hk; simpa [Value.ownBlock] using hk
          exact HNE.out (e.symm.trans h3)
        · have h3 : k = (y67).heap.size := by rw [h] at hk; simpa using hk
          have h2 : w1.heap.size < (y67).heap.size := hbbl
          omega)
      clear hbbl
      clear hke hg hown hfresh
      (try go_simp)
      refine hK.out _ _ (by exact (⟨(HB.out.cell (p := ⟨b, off, none⟩) hbl).trans HLx.out, (HB.out.cell (p := ⟨b, off + 1, none⟩) hbl).trans HLs.out⟩)) (fun hHeld => ?_)
      clear hK K
      (try simp only [Act.put, List.setIfInBounds_toArray, List.set_cons_zero, List.set_cons_succ])
      refine wpAnyH_take (i := 18) (oi := ?_) (v := ?_) ?_ ?_ ?_ ?_ ?_ ?_ (by exact hHeld) ?_
      rotate_left 2
      · (simp only [List.getElem?_toArray, List.getElem?_cons_zero, List.getElem?_cons_succ]; try rfl)
      · kernel_rfl
      · kernel_rfl
      · kernel_rfl
      · exact fun _ _ _ h => h
      · refine Or.inl ⟨by rfl, ?_⟩
        (intro V hSV; (try dsimp only at hSV); obtain ⟨q0, q1⟩ := hSV; go_simp; try with_reducible rfl)
      (try simp only [Act.put, List.setIfInBounds_toArray, List.set_cons_zero, List.set_cons_succ])
      have g0 := BX.out.cell 0
      have f0 := BX.out.frozen 0
      have g1 := BX.out.cell 1
      have f1 := BX.out.frozen 1
      have g2 := BX.out.cell 2
      have f2 := BX.out.frozen 2
      have g3 := BX.out.cell 3
      have f3 := BX.out.frozen 3
      have g4 := BX.out.cell 4
      have f4 := BX.out.frozen 4
      have g5 := BX.out.cell 5
      have f5 := BX.out.frozen 5
      have BF : Hid (Blk (((((((((((((y68).setCell ⟨w1.heap.size, 0, none⟩ (.int .i64 x))).setCell ⟨w1.heap.size, 1, none⟩ (.int .i64 s))).setCell ⟨w1.heap.size, 2, none⟩ (.int .i64 p))).setCell ⟨w1.heap.size, 3, none⟩ (.int .i64 q))).setCell ⟨w1.heap.size, 4, none⟩ (.int .i64 r))).setCell ⟨w1.heap.size, 5, none⟩ (.slice AV T.length cV))) (w1.heap.size) #[.int .i64 x, .int .i64 s, .int .i64 p, .int .i64 q, .int .i64 r, .slice AV T.length cV] 29) := Lib.hid (by simpa using ((((((BX.out.set 0 (.int .i64 x)).set 1 (.int .i64 s)).set 2 (.int .i64 p)).set 3 (.int .i64 q)).set 4 (.int .i64 r)).set 5 (.slice AV T.length cV)))
      have HBF : Hid (Below w1.heap.size w1 (((((((((((((y68).setCell ⟨w1.heap.size, 0, none⟩ (.int .i64 x))).setCell ⟨w1.heap.size, 1, none⟩ (.int .i64 s))).setCell ⟨w1.heap.size, 2, none⟩ (.int .i64 p))).setCell ⟨w1.heap.size, 3, none⟩ (.int .i64 q))).setCell ⟨w1.heap.size, 4, none⟩ (.int .i64 r))).setCell ⟨w1.heap.size, 5, none⟩ (.slice AV T.length cV)))) := Lib.hid ((((((HB.out.setCell (p := ⟨w1.heap.size, 0, none⟩) HLO.out (.int .i64 x)).setCell (p := ⟨w1.heap.size, 1, none⟩) HLO.out (.int .i64 s)).setCell (p := ⟨w1.heap.size, 2, none⟩) HLO.out (.int .i64 p)).setCell (p := ⟨w1.heap.size, 3, none⟩) HLO.out (.int .i64 q)).setCell (p := ⟨w1.heap.size, 4, none⟩) HLO.out (.int .i64 r)).setCell (p := ⟨w1.heap.size, 5, none⟩) HLO.out (.slice AV T.length cV))
      have VF : Hid (Own (((((((((((((y68).setCell ⟨w1.heap.size, 0, none⟩ (.int .i64 x))).setCell ⟨w1.heap.size, 1, none⟩ (.int .i64 s))).setCell ⟨w1.heap.size, 2, none⟩ (.int .i64 p))).setCell ⟨w1.heap.size, 3, none⟩ (.int .i64 q))).setCell ⟨w1.heap.size, 4, none⟩ (.int .i64 r))).setCell ⟨w1.heap.size, 5, none⟩ (.slice AV T.length cV))) w1.heap.size (.slice AV T.length cV) T) := Lib.hid ((((((VV.out.heap (fun k hk => Below.heap_setCell _ ⟨w1.heap.size, 0, none⟩ (.int .i64 x) k (fun e => HVB.out k hk e))).heap (fun k hk => Below.heap_setCell _ ⟨w1.heap.size, 1, none⟩ (.int .i64 s) k (fun e => HVB.out k hk e))).heap (fun k hk => Below.heap_setCell _ ⟨w1.heap.size, 2, none⟩ (.int .i64 p) k (fun e => HVB.out k hk e))).heap (fun k hk => Below.heap_setCell _ ⟨w1.heap.size, 3, none⟩ (.int .i64 q) k (fun e => HVB.out k hk e))).heap (fun k hk => Below.heap_setCell _ ⟨w1.heap.size, 4, none⟩ (.int .i64 r) k (fun e => HVB.out k hk e))).heap (fun k hk => Below.heap_setCell _ ⟨w1.heap.size, 5, none⟩ (.slice AV T.length cV) k (fun e => HVB.out k hk e)))
      have HB := HBF
      refine wpAnyH_ready (rs := [20]) (by kernel_rfl) (by simp) ?_
      refine AllReadyH.cons (o := ?_) ?_ (fun K hK => ?_) AllReadyH.nil
      rotate_left 1
      · (simp only [List.getElem?_toArray, List.getElem?_cons_zero, List.getElem?_cons_succ]; try rfl)
      go_simp
      refine hK.out _ _ (by exact (⟨(HB.out.cell (p := ⟨b, off, none⟩) hbl).trans HLx.out, (HB.out.cell (p := ⟨b, off + 1, none⟩) hbl).trans HLs.out⟩)) (fun hHeld => ?_)
      clear hK K
      (try simp only [Act.put, List.setIfInBounds_toArray, List.set_cons_zero, List.set_cons_succ])
      refine wpAnyH_done (by kernel_rfl) ?_ _
      refine NoPanic.normal ?_
      go_wp2_with fail
      go_meet
      exact ⟨w1.heap.size, AV, cV, rfl, BF.out, VF.out, HLO.out, HBF.out⟩
    refine AllReadyH.cons (o := ?_) ?_ (fun K hK => ?_) AllReadyH.nil
    rotate_left 1
    · (simp only [List.getElem?_toArray, List.getElem?_cons_zero, List.getElem?_cons_succ]; try rfl)
    have hbA := (Below.refl (((w1.drew).alloc (.cells #[.int .i64 0, .int .i64 0, .int .i64 0, .int .i64 0, .int .i64 0, .slice none 0 0] 29))).heap.size (((w1.drew).alloc (.cells #[.int .i64 0, .int .i64 0, .int .i64 0, .int .i64 0, .int .i64 0, .slice none 0 0] 29)))).alloc (Nat.le_refl _) (.cells #[] 5)
    have hE0 : Own ((((w1.drew).alloc (.cells #[.int .i64 0, .int .i64 0, .int .i64 0, .int .i64 0, .int .i64 0, .slice none 0 0] 29))).alloc (.cells #[] 5)) w1.heap.size (.slice (some ⟨w1.heap.size + 1, 0, none⟩) 0 0) [] := by
      have h := Own.mono (show Own ((((w1.drew).alloc (.cells #[.int .i64 0, .int .i64 0, .int .i64 0, .int .i64 0, .int .i64 0, .slice none 0 0] 29))).alloc (.cells #[] 5)) (((w1.drew).alloc (.cells #[.int .i64 0, .int .i64 0, .int .i64 0, .int .i64 0, .int .i64 0, .slice none 0 0] 29))).heap.size (.slice (some ⟨(((w1.drew).alloc (.cells #[.int .i64 0, .int .i64 0, .int .i64 0, .int .i64 0, .int .i64 0, .slice none 0 0] 29))).heap.size, 0, none⟩) 0 0) [] from Own.new (((w1.drew).alloc (.cells #[.int .i64 0, .int .i64 0, .int .i64 0, .int .i64 0, .int .i64 0, .slice none 0 0] 29))) [] (by simp [maxLen])) (show w1.heap.size ≤ (((w1.drew).alloc (.cells #[.int .i64 0, .int .i64 0, .int .i64 0, .int .i64 0, .int .i64 0, .slice none 0 0] 29))).heap.size from HB.out.size)
      first | exact h | simpa using h
    have E0 := Lib.hid hE0
    clear hE0
    have HNE : Hid (w1.heap.size ≠ w1.heap.size + 1) := Lib.hid (Nat.ne_of_lt (by have h := BX.out.lt; first | exact h | (simp; done) | (simp at h ⊢; omega)))
    have HB := Lib.hid (HB.out.trans (hbA.mono HB.out.size))
    have BX := Lib.hid (BX.out.below hbA)
    clear hbA
    go_simp
    refine hK.out _ _ (by exact (⟨(HB.out.cell (p := ⟨b, off, none⟩) hbl).trans HLx.out, (HB.out.cell (p := ⟨b, off + 1, none⟩) hbl).trans HLs.out⟩)) (fun hHeld => ?_)
    clear hK K
    (try simp only [Act.put, List.setIfInBounds_toArray, List.set_cons_zero, List.set_cons_succ])
    refine wpAnyH_ready (rs := [9]) (by kernel_rfl) (by simp) ?_
    refine AllReadyH.cons (o := ?_) ?_ (fun K hK => ?_) AllReadyH.nil
    rotate_left 1
    · (simp only [List.getElem?_toArray, List.getElem?_cons_zero, List.getElem?_cons_succ]; try rfl)
    go_simp
    refine (l09At_any (some ⟨b, off, none⟩) l c 2 _ hn9 (by omega) (by exact hA.below HB.out)).mono ?_
    rintro e y70 ⟨rfl, hE⟩
    have hb : Below (((((w1.drew).alloc (.cells #[.int .i64 0, .int .i64 0, .int .i64 0, .int .i64 0, .int .i64 0, .slice none 0 0] 29))).alloc (.cells #[] 5))).heap.size (((((w1.drew).alloc (.cells #[.int .i64 0, .int .i64 0, .int .i64 0, .int .i64 0, .int .i64 0, .slice none 0 0] 29))).alloc (.cells #[] 5))) y70 := by obtain ⟨n, rfl⟩ := hE; exact below_of_drewN _ n
    rw [HWp.out]
    have HB := Lib.hid (HB.out.trans (hb.mono HB.out.size))
    have BX := Lib.hid (BX.out.below hb)
    have E0 := Lib.hid (E0.out.below hb)
    clear hb hE
    go_wp2_with fail
    refine hK.out _ _ (by exact (⟨(HB.out.cell (p := ⟨b, off, none⟩) hbl).trans HLx.out, (HB.out.cell (p := ⟨b, off + 1, none⟩) hbl).trans HLs.out⟩)) (fun hHeld => ?_)
    clear hK K
    (try simp only [Act.put, List.setIfInBounds_toArray, List.set_cons_zero, List.set_cons_succ])
    refine wpAnyH_ready (rs := [11]) (by kernel_rfl) (by simp) ?_
    refine AllReadyH.cons (o := ?_) ?_ (fun K hK => ?_) AllReadyH.nil
    rotate_left 1
    · (simp only [List.getElem?_toArray, List.getElem?_cons_zero, List.getElem?_cons_succ]; try rfl)
    go_simp
    refine (l09At_any (some ⟨b, off, none⟩) l c 4 _ hn9 (by omega) (by exact hA.below HB.out)).mono ?_
    rintro e y71 ⟨rfl, hE⟩
    have hb : Below (y70).heap.size (y70) y71 := by obtain ⟨n, rfl⟩ := hE; exact below_of_drewN _ n
    rw [HWq.out]
    have HB := Lib.hid (HB.out.trans (hb.mono HB.out.size))
    have BX := Lib.hid (BX.out.below hb)
    have E0 := Lib.hid (E0.out.below hb)
    clear hb hE
    go_wp2_with fail
    refine hK.out _ _ (by exact (⟨(HB.out.cell (p := ⟨b, off, none⟩) hbl).trans HLx.out, (HB.out.cell (p := ⟨b, off + 1, none⟩) hbl).trans HLs.out⟩)) (fun hHeld => ?_)
    clear hK K
    (try simp only [Act.put, List.setIfInBounds_toArray, List.set_cons_zero, List.set_cons_succ])
    refine wpAnyH_ready (rs := [13]) (by kernel_rfl) (by simp) ?_
    refine AllReadyH.cons (o := ?_) ?_ (fun K hK => ?_) AllReadyH.nil
    rotate_left 1
    · (simp only [List.getElem?_toArray, List.getElem?_cons_zero, List.getElem?_cons_succ]; try rfl)
    go_simp
    refine (l09At_any (some ⟨b, off, none⟩) l c 6 _ hn9 (by omega) (by exact hA.below HB.out)).mono ?_
    rintro e y72 ⟨rfl, hE⟩
    have hb : Below (y71).heap.size (y71) y72 := by obtain ⟨n, rfl⟩ := hE; exact below_of_drewN _ n
    rw [HWr.out]
    have HB := Lib.hid (HB.out.trans (hb.mono HB.out.size))
    have BX := Lib.hid (BX.out.below hb)
    have E0 := Lib.hid (E0.out.below hb)
    clear hb hE
    go_wp2_with fail
    refine hK.out _ _ (by exact (⟨(HB.out.cell (p := ⟨b, off, none⟩) hbl).trans HLx.out, (HB.out.cell (p := ⟨b, off + 1, none⟩) hbl).trans HLs.out⟩)) (fun hHeld => ?_)
    clear hK K
    (try simp only [Act.put, List.setIfInBounds_toArray, List.set_cons_zero, List.set_cons_succ])
    refine wpAnyH_ready (rs := [17]) (by kernel_rfl) (by simp) ?_
    refine AllReadyH.cons (o := ?_) ?_ (fun K hK => ?_) AllReadyH.nil
    rotate_left 1
    · (simp only [List.getElem?_toArray, List.getElem?_cons_zero, List.getElem?_cons_succ]; try rfl)
    have hfresh := E0.out.range
    refine step_app_bytes9 rfl (.tmp 23) (.tmp 25) rfl _ (Value.slice (some ⟨w1.heap.size + 1, 0, none⟩) 0 0) [] T D N rc rfl rfl HN.out (by exact E0.out) (by exact HS.out.below HB.out) (by simp; omega) (by exact HB.out.size) ?_
    intro v9 y73 hown hg hv9
    have hg : World.grownBy (y72) y73 (Value.slice (some ⟨w1.heap.size + 1, 0, none⟩) 0 0).ownBlock := ⟨hg.os, hg.tape, hg.output, hg.size, hg.block⟩
    have hke := Keeps.of_grown hg
    have hown : Own y73 w1.heap.size v9 T := hown
    have hbbl := BX.out.lt
    have BX := Lib.hid (BX.out.of_block (hke.block _ BX.out.lt (fun h => by first | (simp [Value.ownBlock] at h; done) | (have h2 := h; simp only [Value.ownBlock, Option.toList_some, List.mem_singleton] at h2; exact HNE.out h2))))
    have HB := Lib.hid (HB.out.trans (hke.below (B := w1.heap.size) HB.out.size (fun k hk => (hfresh k hk).1)))
    obtain ⟨AV, cV, rfl, lV, kV, _, _, _⟩ := own_plain9 hown
    have VV := Lib.hid hown
    have HVB : Hid (∀ k ∈ (Value.slice AV T.length cV).ownBlock.toList, k ≠ w1.heap.size) := Lib.hid (fun k hk e => by
      rcases hv9 with h | h
      · have h3 : k = w1.heap.size + 1 := by rw [h] at hk; simpa [Value.ownBlock] using hk
        exact HNE.out (e.symm.trans h3)
      · have h3 : k = (y72).heap.size := by rw [h] at hk; simpa using hk
        have h2 : w1.heap.size < (y72).heap.size := hbbl
        omega)
    clear hbbl
    clear hke hg hown hfresh
    (try go_simp)
    refine hK.out _ _ (by exact (⟨(HB.out.cell (p := ⟨b, off, none⟩) hbl).trans HLx.out, (HB.out.cell (p := ⟨b, off + 1, none⟩) hbl).trans HLs.out⟩)) (fun hHeld => ?_)
    clear hK K
    (try simp only [Act.put, List.setIfInBounds_toArray, List.set_cons_zero, List.set_cons_succ])
    refine wpAnyH_take (i := 18) (oi := ?_) (v := ?_) ?_ ?_ ?_ ?_ ?_ ?_ (by exact hHeld) ?_
    rotate_left 2
    · (simp only [List.getElem?_toArray, List.getElem?_cons_zero, List.getElem?_cons_succ]; try rfl)
    · kernel_rfl
    · kernel_rfl
    · kernel_rfl
    · exact fun _ _ _ h => h
    · refine Or.inl ⟨by rfl, ?_⟩
      (intro V hSV; (try dsimp only at hSV); obtain ⟨q0, q1⟩ := hSV; go_simp; try with_reducible rfl)
    (try simp only [Act.put, List.setIfInBounds_toArray, List.set_cons_zero, List.set_cons_succ])
    have g0 := BX.out.cell 0
    have f0 := BX.out.frozen 0
    have g1 := BX.out.cell 1
    have f1 := BX.out.frozen 1
    have g2 := BX.out.cell 2
    have f2 := BX.out.frozen 2
    have g3 := BX.out.cell 3
    have f3 := BX.out.frozen 3
    have g4 := BX.out.cell 4
    have f4 := BX.out.frozen 4
    have g5 := BX.out.cell 5
    have f5 := BX.out.frozen 5
    have BF : Hid (Blk (((((((((((((y73).setCell ⟨w1.heap.size, 0, none⟩ (.int .i64 x))).setCell ⟨w1.heap.size, 1, none⟩ (.int .i64 s))).setCell ⟨w1.heap.size, 2, none⟩ (.int .i64 p))).setCell ⟨w1.heap.size, 3, none⟩ (.int .i64 q))).setCell ⟨w1.heap.size, 4, none⟩ (.int .i64 r))).setCell ⟨w1.heap.size, 5, none⟩ (.slice AV T.length cV))) (w1.heap.size) #[.int .i64 x, .int .i64 s, .int .i64 p, .int .i64 q, .int .i64 r, .slice AV T.length cV] 29) := Lib.hid (by simpa using ((((((BX.out.set 0 (.int .i64 x)).set 1 (.int .i64 s)).set 2 (.int .i64 p)).set 3 (.int .i64 q)).set 4 (.int .i64 r)).set 5 (.slice AV T.length cV)))
    have HBF : Hid (Below w1.heap.size w1 (((((((((((((y73).setCell ⟨w1.heap.size, 0, none⟩ (.int .i64 x))).setCell ⟨w1.heap.size, 1, none⟩ (.int .i64 s))).setCell ⟨w1.heap.size, 2, none⟩ (.int .i64 p))).setCell ⟨w1.heap.size, 3, none⟩ (.int .i64 q))).setCell ⟨w1.heap.size, 4, none⟩ (.int .i64 r))).setCell ⟨w1.heap.size, 5, none⟩ (.slice AV T.length cV)))) := Lib.hid ((((((HB.out.setCell (p := ⟨w1.heap.size, 0, none⟩) HLO.out (.int .i64 x)).setCell (p := ⟨w1.heap.size, 1, none⟩) HLO.out (.int .i64 s)).setCell (p := ⟨w1.heap.size, 2, none⟩) HLO.out (.int .i64 p)).setCell (p := ⟨w1.heap.size, 3, none⟩) HLO.out (.int .i64 q)).setCell (p := ⟨w1.heap.size, 4, none⟩) HLO.out (.int .i64 r)).setCell (p := ⟨w1.heap.size, 5, none⟩) HLO.out (.slice AV T.length cV))
    have VF : Hid (Own (((((((((((((y73).setCell ⟨w1.heap.size, 0, none⟩ (.int .i64 x))).setCell ⟨w1.heap.size, 1, none⟩ (.int .i64 s))).setCell ⟨w1.heap.size, 2, none⟩ (.int .i64 p))).setCell ⟨w1.heap.size, 3, none⟩ (.int .i64 q))).setCell ⟨w1.heap.size, 4, none⟩ (.int .i64 r))).setCell ⟨w1.heap.size, 5, none⟩ (.slice AV T.length cV))) w1.heap.size (.slice AV T.length cV) T) := Lib.hid ((((((VV.out.heap (fun k hk => Below.heap_setCell _ ⟨w1.heap.size, 0, none⟩ (.int .i64 x) k (fun e => HVB.out k hk e))).heap (fun k hk => Below.heap_setCell _ ⟨w1.heap.size, 1, none⟩ (.int .i64 s) k (fun e => HVB.out k hk e))).heap (fun k hk => Below.heap_setCell _ ⟨w1.heap.size, 2, none⟩ (.int .i64 p) k (fun e => HVB.out k hk e))).heap (fun k hk => Below.heap_setCell _ ⟨w1.heap.size, 3, none⟩ (.int .i64 q) k (fun e => HVB.out k hk e))).heap (fun k hk => Below.heap_setCell _ ⟨w1.heap.size, 4, none⟩ (.int .i64 r) k (fun e => HVB.out k hk e))).heap (fun k hk => Below.heap_setCell _ ⟨w1.heap.size, 5, none⟩ (.slice AV T.length cV) k (fun e => HVB.out k hk e)))
    have HB := HBF
    refine wpAnyH_ready (rs := [20]) (by kernel_rfl) (by simp) ?_
    refine AllReadyH.cons (o := ?_) ?_ (fun K hK => ?_) AllReadyH.nil
    rotate_left 1
    · (simp only [List.getElem?_toArray, List.getElem?_cons_zero, List.getElem?_cons_succ]; try rfl)
    go_simp
    refine hK.out _ _ (by exact (⟨(HB.out.cell (p := ⟨b, off, none⟩) hbl).trans HLx.out, (HB.out.cell (p := ⟨b, off + 1, none⟩) hbl).trans HLs.out⟩)) (fun hHeld => ?_)
    clear hK K
    (try simp only [Act.put, List.setIfInBounds_toArray, List.set_cons_zero, List.set_cons_succ])
    refine wpAnyH_done (by kernel_rfl) ?_ _
    refine NoPanic.normal ?_
    go_wp2_with fail
    go_meet
    exact ⟨w1.heap.size, AV, cV, rfl, BF.out, VF.out, HLO.out, HBF.out⟩
  case rest =>
  obtain ⟨bb, AV, cV, rfl, hBB, hV, hbb, hbW⟩ := hcut
  have HBB := Lib.hid hBB
  have HV := Lib.hid hV
  have HW2 := Lib.hid (below_then HAL.out hbW)
  have RX := Lib.hid (RX.out.below hbW)
  obtain ⟨_, _, ev, lV, kV, hBV, _, _⟩ := own_plain9 hV
  cases ev
  have HBV := Lib.hid hBV
  clear hBB hV hbW hBV hA
  have b0 := HBB.out.cell 0
  have b1 := HBB.out.cell 1
  have b2 := HBB.out.cell 2
  have b3 := HBB.out.cell 3
  have b4 := HBB.out.cell 4
  have b5 := HBB.out.cell 5
  obtain ⟨z, hz⟩ : ∃ z, rqOk x s p q r T = z := ⟨_, rfl⟩
  have HZ := Lib.hid hz
  clear hz
  have hbbl := HBB.out.lt
  have HAC := Lib.hid (HA0.out.below HW2.out)
  have hcv := run_conv_bs c l.length rfl (HAC.out.below (Below.refl wc.heap.size wc).drew)
  cases z
  case false =>
    have HG : Hid (rqGood l = false) := Lib.hid (by rw [HGM.out, HWx.out, HWs.out, HWp.out, HWq.out, HWr.out, HTT.out, HZ.out]; rfl)
    go_upto_region 4 with fail
    refine wp_region_held_drew (S := (fun V => V.cell? ⟨bb, 0, none⟩ = some (.int .i64 x) ∧ V.cell? ⟨bb, 1, none⟩ = some (.int .i64 s) ∧ V.cell? ⟨bb, 2, none⟩ = some (.int .i64 p) ∧ V.cell? ⟨bb, 3, none⟩ = some (.int .i64 q) ∧ V.cell? ⟨bb, 4, none⟩ = some (.int .i64 r) ∧ V.cell? ⟨bb, 5, none⟩ = some (.slice AV T.length cV) ∧ Sem.run Tryd.prog (convert 22 9 (.slice (some ⟨b, off, none⟩) l.length c)) V = .ok (.string ⟨l.toArray⟩) V)) (by kernel_rfl) (by exact ⟨b0, b1, b2, b3, b4, b5, hcv⟩) (fun hHeld => ?_)
    refine wpAnyH_take (i := 0) (oi := ?_) (v := ?_) ?_ ?_ ?_ ?_ ?_ ?_ (by exact hHeld) ?_
    rotate_left 2
    · (simp only [List.getElem?_toArray, List.getElem?_cons_zero]; try rfl)
    · kernel_rfl
    · kernel_rfl
    · kernel_rfl
    · exact fun _ _ _ h => h
    · refine Or.inl ⟨by rfl, ?_⟩
      (intro V hSV; (try dsimp only at hSV); obtain ⟨q0, q1, q2, q3, q4, q5, q6⟩ := hSV; go_simp; try with_reducible rfl)
    (try simp only [Act.put, List.setIfInBounds_toArray, List.set_cons_zero, List.set_cons_succ])
    refine wpAnyH_ready (rs := [1]) (by kernel_rfl) (by simp) ?_
    refine AllReadyH.cons rfl (fun K hK => ?_) AllReadyH.nil
    go_simp
    refine (specReqOk_any x s p q r AV T cV _ lV kV (by exact HBV.out)).mono ?_
    rintro e v1 ⟨rfl, hb⟩
    rw [HZ.out]
    have hb : Below wc.heap.size wc v1 := ⟨hb.os, hb.tape, hb.output, hb.size, hb.block⟩
    have H1 := Lib.hid hb
    clear hb
    go_wp2_with fail
    refine hK.out _ _ (by exact ⟨((H1.out).cell (p := ⟨bb, 0, none⟩) hbbl).trans b0, ((H1.out).cell (p := ⟨bb, 1, none⟩) hbbl).trans b1, ((H1.out).cell (p := ⟨bb, 2, none⟩) hbbl).trans b2, ((H1.out).cell (p := ⟨bb, 3, none⟩) hbbl).trans b3, ((H1.out).cell (p := ⟨bb, 4, none⟩) hbbl).trans b4, ((H1.out).cell (p := ⟨bb, 5, none⟩) hbbl).trans b5, run_conv_bs c l.length rfl (HAC.out.below H1.out)⟩) (fun hHeld => ?_)
    clear hK K
    (try simp only [Act.put, List.setIfInBounds_toArray, List.set_cons_zero, List.set_cons_succ])
    refine wpAnyH_take (i := 2) (oi := ?_) (v := ?_) ?_ ?_ ?_ ?_ ?_ ?_ (by exact hHeld) ?_
    rotate_left 2
    · (simp only [List.getElem?_toArray, List.getElem?_cons_zero, List.getElem?_cons_succ]; try rfl)
    · kernel_rfl
    · kernel_rfl
    · kernel_rfl
    · exact fun _ _ _ h => h
    · refine Or.inl ⟨by rfl, ?_⟩
      (intro V hSV; (try dsimp only at hSV); obtain ⟨q0, q1, q2, q3, q4, q5, q6⟩ := hSV; go_simp; try with_reducible rfl)
    (try simp only [Act.put, List.setIfInBounds_toArray, List.set_cons_zero, List.set_cons_succ])
    refine wpAnyH_take (i := 3) (oi := ?_) (v := ?_) ?_ ?_ ?_ ?_ ?_ ?_ (by exact hHeld) ?_
    rotate_left 2
    · (simp only [List.getElem?_toArray, List.getElem?_cons_zero, List.getElem?_cons_succ]; try rfl)
    · kernel_rfl
    · kernel_rfl
    · kernel_rfl
    · exact fun _ _ _ h => h
    · refine Or.inl ⟨by rfl, ?_⟩
      (intro V hSV; (try dsimp only at hSV); obtain ⟨q0, q1, q2, q3, q4, q5, q6⟩ := hSV; go_simp; try with_reducible rfl)
    (try simp only [Act.put, List.setIfInBounds_toArray, List.set_cons_zero, List.set_cons_succ])
    refine wpAnyH_take (i := 4) (oi := ?_) (v := undef) ?_ ?_ ?_ ?_ ?_ ?_ (by exact hHeld) ?_
    rotate_left 1
    · (simp only [List.getElem?_toArray, List.getElem?_cons_zero, List.getElem?_cons_succ]; try rfl)
    · kernel_rfl
    · kernel_rfl
    · kernel_rfl
    · exact fun _ _ _ h => h
    · refine Or.inr ?_
      exact ⟨by rfl, rfl⟩
    (try simp only [Act.put, List.setIfInBounds_toArray, List.set_cons_zero, List.set_cons_succ])
    refine wpAnyH_take (i := 5) (oi := ?_) (v := undef) ?_ ?_ ?_ ?_ ?_ ?_ (by exact hHeld) ?_
    rotate_left 1
    · (simp only [List.getElem?_toArray, List.getElem?_cons_zero, List.getElem?_cons_succ]; try rfl)
    · kernel_rfl
    · kernel_rfl
    · kernel_rfl
    · exact fun _ _ _ h => h
    · refine Or.inr ?_
      exact ⟨by rfl, rfl⟩
    (try simp only [Act.put, List.setIfInBounds_toArray, List.set_cons_zero, List.set_cons_succ])
    refine wpAnyH_take (i := 6) (oi := ?_) (v := undef) ?_ ?_ ?_ ?_ ?_ ?_ (by exact hHeld) ?_
    rotate_left 1
    · (simp only [List.getElem?_toArray, List.getElem?_cons_zero, List.getElem?_cons_succ]; try rfl)
    · kernel_rfl
    · kernel_rfl
    · kernel_rfl
    · exact fun _ _ _ h => h
    · refine Or.inr ?_
      exact ⟨by rfl, rfl⟩
    (try simp only [Act.put, List.setIfInBounds_toArray, List.set_cons_zero, List.set_cons_succ])
    refine wpAnyH_take (i := 7) (oi := ?_) (v := undef) ?_ ?_ ?_ ?_ ?_ ?_ (by exact hHeld) ?_
    rotate_left 1
    · (simp only [List.getElem?_toArray, List.getElem?_cons_zero, List.getElem?_cons_succ]; try rfl)
    · kernel_rfl
    · kernel_rfl
    · kernel_rfl
    · exact fun _ _ _ h => h
    · refine Or.inr ?_
      exact ⟨by rfl, rfl⟩
    (try simp only [Act.put, List.setIfInBounds_toArray, List.set_cons_zero, List.set_cons_succ])
    refine wpAnyH_take (i := 8) (oi := ?_) (v := undef) ?_ ?_ ?_ ?_ ?_ ?_ (by exact hHeld) ?_
    rotate_left 1
    · (simp only [List.getElem?_toArray, List.getElem?_cons_zero, List.getElem?_cons_succ]; try rfl)
    · kernel_rfl
    · kernel_rfl
    · kernel_rfl
    · exact fun _ _ _ h => h
    · refine Or.inr ?_
      exact ⟨by rfl, rfl⟩
    (try simp only [Act.put, List.setIfInBounds_toArray, List.set_cons_zero, List.set_cons_succ])
    refine wpAnyH_take (i := 9) (oi := ?_) (v := undef) ?_ ?_ ?_ ?_ ?_ ?_ (by exact hHeld) ?_
    rotate_left 1
    · (simp only [List.getElem?_toArray, List.getElem?_cons_zero, List.getElem?_cons_succ]; try rfl)
    · kernel_rfl
    · kernel_rfl
    · kernel_rfl
    · exact fun _ _ _ h => h
    · refine Or.inr ?_
      exact ⟨by rfl, rfl⟩
    (try simp only [Act.put, List.setIfInBounds_toArray, List.set_cons_zero, List.set_cons_succ])
    refine wpAnyH_take (i := 10) (oi := ?_) (v := ?_) ?_ ?_ ?_ ?_ ?_ ?_ (by exact hHeld) ?_
    rotate_left 2
    · (simp only [List.getElem?_toArray, List.getElem?_cons_zero, List.getElem?_cons_succ]; try rfl)
    · kernel_rfl
    · kernel_rfl
    · kernel_rfl
    · exact fun _ _ _ h => h
    · refine Or.inl ⟨by rfl, ?_⟩
      (intro V hSV; (try dsimp only at hSV); obtain ⟨q0, q1, q2, q3, q4, q5, q6⟩ := hSV; go_simp; try with_reducible rfl)
    (try simp only [Act.put, List.setIfInBounds_toArray, List.set_cons_zero, List.set_cons_succ])
    refine wpAnyH_done (by kernel_rfl) ?_ _
    clear hHeld hcv b0 b1 b2 b3 b4 b5
    have RX := Lib.hid (RX.out.below H1.out)
    have HB2 := Lib.hid (below_then HW2.out H1.out)
    have r0 := RX.out.cell 0
    have fr0 := RX.out.frozen 0
    have r1 := RX.out.cell 1
    have fr1 := RX.out.frozen 1
    have r2 := RX.out.cell 2
    have fr2 := RX.out.frozen 2
    have r3 := RX.out.cell 3
    have fr3 := RX.out.frozen 3
    have r4 := RX.out.cell 4
    have fr4 := RX.out.frozen 4
    have r5 := RX.out.cell 5
    have fr5 := RX.out.frozen 5
    have hzz := RX.out.lt
    go_wp2
    refine bodyPost_ret (v := .tuple #[.agg #[.int .i64 0, .int .i64 0, .int .i64 0, .int .i64 0, .int .i64 0, .slice none 0 0], .bool false]) (by simp [results, Tryd.results60, go_sem, r0, r1, r2, r3, r4, r5]) rfl ?_
    refine ⟨.slice none 0 0, by unfold rqFd; rw [HG.out]; rfl, by unfold rqT; rw [HG.out]; exact Own.nil _ _, ?_⟩
    repeat (refine Below.setCell ?_ (by simp) _)
    exact HB2.out
  obtain ⟨B, hB⟩ : ∃ B, rqBytes x s p q r T = B := ⟨_, rfl⟩
  have HBE := Lib.hid hB
  clear hB
  by_cases hq : B = l
  case neg =>
    have HG : Hid (rqGood l = false) := Lib.hid (by rw [HGM.out, HWx.out, HWs.out, HWp.out, HWq.out, HWr.out, HTT.out, HZ.out, HBE.out, decide_eq_false hq]; rfl)
    have hne1 : (B == l) = false := by simpa using hq
    go_upto_region 4 with fail
    refine wp_region_held_drew (S := (fun V => V.cell? ⟨bb, 0, none⟩ = some (.int .i64 x) ∧ V.cell? ⟨bb, 1, none⟩ = some (.int .i64 s) ∧ V.cell? ⟨bb, 2, none⟩ = some (.int .i64 p) ∧ V.cell? ⟨bb, 3, none⟩ = some (.int .i64 q) ∧ V.cell? ⟨bb, 4, none⟩ = some (.int .i64 r) ∧ V.cell? ⟨bb, 5, none⟩ = some (.slice AV T.length cV) ∧ Sem.run Tryd.prog (convert 22 9 (.slice (some ⟨b, off, none⟩) l.length c)) V = .ok (.string ⟨l.toArray⟩) V)) (by kernel_rfl) (by exact ⟨b0, b1, b2, b3, b4, b5, hcv⟩) (fun hHeld => ?_)
    refine wpAnyH_take (i := 0) (oi := ?_) (v := ?_) ?_ ?_ ?_ ?_ ?_ ?_ (by exact hHeld) ?_
    rotate_left 2
    · (simp only [List.getElem?_toArray, List.getElem?_cons_zero]; try rfl)
    · kernel_rfl
    · kernel_rfl
    · kernel_rfl
    · exact fun _ _ _ h => h
    · refine Or.inl ⟨by rfl, ?_⟩
      (intro V hSV; (try dsimp only at hSV); obtain ⟨q0, q1, q2, q3, q4, q5, q6⟩ := hSV; go_simp; try with_reducible rfl)
    (try simp only [Act.put, List.setIfInBounds_toArray, List.set_cons_zero, List.set_cons_succ])
    refine wpAnyH_ready (rs := [1]) (by kernel_rfl) (by simp) ?_
    refine AllReadyH.cons rfl (fun K hK => ?_) AllReadyH.nil
    go_simp
    refine (specReqOk_any x s p q r AV T cV _ lV kV (by exact HBV.out)).mono ?_
    rintro e v1 ⟨rfl, hb⟩
    rw [HZ.out]
    have hb : Below wc.heap.size wc v1 := ⟨hb.os, hb.tape, hb.output, hb.size, hb.block⟩
    have H1 := Lib.hid hb
    clear hb
    go_wp2_with fail
    refine hK.out _ _ (by exact ⟨((H1.out).cell (p := ⟨bb, 0, none⟩) hbbl).trans b0, ((H1.out).cell (p := ⟨bb, 1, none⟩) hbbl).trans b1, ((H1.out).cell (p := ⟨bb, 2, none⟩) hbbl).trans b2, ((H1.out).cell (p := ⟨bb, 3, none⟩) hbbl).trans b3, ((H1.out).cell (p := ⟨bb, 4, none⟩) hbbl).trans b4, ((H1.out).cell (p := ⟨bb, 5, none⟩) hbbl).trans b5, run_conv_bs c l.length rfl (HAC.out.below H1.out)⟩) (fun hHeld => ?_)
    clear hK K
    (try simp only [Act.put, List.setIfInBounds_toArray, List.set_cons_zero, List.set_cons_succ])
    refine wpAnyH_take (i := 2) (oi := ?_) (v := ?_) ?_ ?_ ?_ ?_ ?_ ?_ (by exact hHeld) ?_
    rotate_left 2
    · (simp only [List.getElem?_toArray, List.getElem?_cons_zero, List.getElem?_cons_succ]; try rfl)
    · kernel_rfl
    · kernel_rfl
    · kernel_rfl
    · exact fun _ _ _ h => h
    · refine Or.inl ⟨by rfl, ?_⟩
      (intro V hSV; (try dsimp only at hSV); obtain ⟨q0, q1, q2, q3, q4, q5, q6⟩ := hSV; go_simp; try with_reducible rfl)
    (try simp only [Act.put, List.setIfInBounds_toArray, List.set_cons_zero, List.set_cons_succ])
    refine wpAnyH_take (i := 3) (oi := ?_) (v := ?_) ?_ ?_ ?_ ?_ ?_ ?_ (by exact hHeld) ?_
    rotate_left 2
    · (simp only [List.getElem?_toArray, List.getElem?_cons_zero, List.getElem?_cons_succ]; try rfl)
    · kernel_rfl
    · kernel_rfl
    · kernel_rfl
    · exact fun _ _ _ h => h
    · refine Or.inl ⟨by rfl, ?_⟩
      (intro V hSV; (try dsimp only at hSV); obtain ⟨q0, q1, q2, q3, q4, q5, q6⟩ := hSV; go_simp; try with_reducible rfl)
    (try simp only [Act.put, List.setIfInBounds_toArray, List.set_cons_zero, List.set_cons_succ])
    refine wpAnyH_take (i := 4) (oi := ?_) (v := ?_) ?_ ?_ ?_ ?_ ?_ ?_ (by exact hHeld) ?_
    rotate_left 2
    · (simp only [List.getElem?_toArray, List.getElem?_cons_zero, List.getElem?_cons_succ]; try rfl)
    · kernel_rfl
    · kernel_rfl
    · kernel_rfl
    · exact fun _ _ _ h => h
    · refine Or.inl ⟨by rfl, ?_⟩
      (intro V hSV; (try dsimp only at hSV); obtain ⟨q0, q1, q2, q3, q4, q5, q6⟩ := hSV; go_simp; try with_reducible rfl)
    (try simp only [Act.put, List.setIfInBounds_toArray, List.set_cons_zero, List.set_cons_succ])
    refine wpAnyH_take (i := 7) (oi := ?_) (v := ?_) ?_ ?_ ?_ ?_ ?_ ?_ (by exact hHeld) ?_
    rotate_left 2
    · (simp only [List.getElem?_toArray, List.getElem?_cons_zero, List.getElem?_cons_succ]; try rfl)
    · kernel_rfl
    · kernel_rfl
    · kernel_rfl
    · exact fun _ _ _ h => h
    · refine Or.inl ⟨by rfl, ?_⟩
      (intro V hSV; (try dsimp only at hSV); obtain ⟨q0, q1, q2, q3, q4, q5, q6⟩ := hSV; go_simp; try with_reducible rfl)
    (try simp only [Act.put, List.setIfInBounds_toArray, List.set_cons_zero, List.set_cons_succ])
    refine wpAnyH_take (i := 8) (oi := ?_) (v := ?_) ?_ ?_ ?_ ?_ ?_ ?_ (by exact hHeld) ?_
    rotate_left 2
    · (simp only [List.getElem?_toArray, List.getElem?_cons_zero, List.getElem?_cons_succ]; try rfl)
    · kernel_rfl
    · kernel_rfl
    · kernel_rfl
    · exact fun _ _ _ h => h
    · refine Or.inl ⟨by rfl, ?_⟩
      (intro V hSV; (try dsimp only at hSV); obtain ⟨q0, q1, q2, q3, q4, q5, q6⟩ := hSV; go_simp; try with_reducible rfl)
    (try simp only [Act.put, List.setIfInBounds_toArray, List.set_cons_zero, List.set_cons_succ])
    refine wpAnyH_ready (rs := [5]) (by kernel_rfl) (by simp) ?_
    refine AllReadyH.cons rfl (fun K hK => ?_) AllReadyH.nil
    go_simp
    refine (specReqBytes_any x s p q r AV T cV _ lV kV (by exact HBV.out.below H1.out)).mono ?_
    rintro e v2 ⟨v, rfl, hown, hb⟩
    rw [HBE.out] at hown
    have hb : Below v1.heap.size v1 v2 := ⟨hb.os, hb.tape, hb.output, hb.size, hb.block⟩
    have H2 := Lib.hid (below_then H1.out hb)
    obtain ⟨A2, c2, rfl, _, _, hB2, _, _⟩ := own_plain9 hown
    have hcv2 := run_conv_bs c2 B.length rfl hB2
    clear hb hown hB2
    go_wp2_with fail
    refine hK.out _ _ (by exact ⟨((H2.out).cell (p := ⟨bb, 0, none⟩) hbbl).trans b0, ((H2.out).cell (p := ⟨bb, 1, none⟩) hbbl).trans b1, ((H2.out).cell (p := ⟨bb, 2, none⟩) hbbl).trans b2, ((H2.out).cell (p := ⟨bb, 3, none⟩) hbbl).trans b3, ((H2.out).cell (p := ⟨bb, 4, none⟩) hbbl).trans b4, ((H2.out).cell (p := ⟨bb, 5, none⟩) hbbl).trans b5, run_conv_bs c l.length rfl (HAC.out.below H2.out)⟩) (fun hHeld => ?_)
    clear hK K
    (try simp only [Act.put, List.setIfInBounds_toArray, List.set_cons_zero, List.set_cons_succ])
    refine wpAnyH_ready (rs := [6]) (by kernel_rfl) (by simp) ?_
    refine AllReadyH.cons (o := ?_) ?_ (fun K hK => ?_) AllReadyH.nil
    rotate_left 1
    · (simp only [List.getElem?_toArray, List.getElem?_cons_zero, List.getElem?_cons_succ]; try rfl)
    go_simp
    refine hK.out _ _ (by exact ⟨((H2.out).cell (p := ⟨bb, 0, none⟩) hbbl).trans b0, ((H2.out).cell (p := ⟨bb, 1, none⟩) hbbl).trans b1, ((H2.out).cell (p := ⟨bb, 2, none⟩) hbbl).trans b2, ((H2.out).cell (p := ⟨bb, 3, none⟩) hbbl).trans b3, ((H2.out).cell (p := ⟨bb, 4, none⟩) hbbl).trans b4, ((H2.out).cell (p := ⟨bb, 5, none⟩) hbbl).trans b5, run_conv_bs c l.length rfl (HAC.out.below H2.out)⟩) (fun hHeld => ?_)
    clear hK K
    (try simp only [Act.put, List.setIfInBounds_toArray, List.set_cons_zero, List.set_cons_succ])
    refine wpAnyH_take (i := 9) (oi := ?_) (v := ?_) ?_ ?_ ?_ ?_ ?_ ?_ (by exact hHeld) ?_
    rotate_left 2
    · (simp only [List.getElem?_toArray, List.getElem?_cons_zero, List.getElem?_cons_succ]; try rfl)
    · kernel_rfl
    · kernel_rfl
    · kernel_rfl
    · exact fun _ _ _ h => h
    · refine Or.inl ⟨by rfl, ?_⟩
      (intro V hSV; (try dsimp only at hSV); obtain ⟨q0, q1, q2, q3, q4, q5, q6⟩ := hSV; go_simp; try with_reducible rfl)
    (try simp only [Act.put, List.setIfInBounds_toArray, List.set_cons_zero, List.set_cons_succ])
    refine wpAnyH_take (i := 10) (oi := ?_) (v := ?_) ?_ ?_ ?_ ?_ ?_ ?_ (by exact hHeld) ?_
    rotate_left 2
    · (simp only [List.getElem?_toArray, List.getElem?_cons_zero, List.getElem?_cons_succ]; try rfl)
    · kernel_rfl
    · kernel_rfl
    · kernel_rfl
    · exact fun _ _ _ h => h
    · refine Or.inl ⟨by rfl, ?_⟩
      (intro V hSV; (try dsimp only at hSV); obtain ⟨q0, q1, q2, q3, q4, q5, q6⟩ := hSV; go_simp; try with_reducible rfl)
    (try simp only [Act.put, List.setIfInBounds_toArray, List.set_cons_zero, List.set_cons_succ])
    refine wpAnyH_done (by kernel_rfl) ?_ _
    clear hHeld hcv b0 b1 b2 b3 b4 b5
    have RX := Lib.hid (RX.out.below H2.out)
    have HB2 := Lib.hid (below_then HW2.out H2.out)
    have r0 := RX.out.cell 0
    have fr0 := RX.out.frozen 0
    have r1 := RX.out.cell 1
    have fr1 := RX.out.frozen 1
    have r2 := RX.out.cell 2
    have fr2 := RX.out.frozen 2
    have r3 := RX.out.cell 3
    have fr3 := RX.out.frozen 3
    have r4 := RX.out.cell 4
    have fr4 := RX.out.frozen 4
    have r5 := RX.out.cell 5
    have fr5 := RX.out.frozen 5
    have hzz := RX.out.lt
    go_wp2
    refine bodyPost_ret (v := .tuple #[.agg #[.int .i64 0, .int .i64 0, .int .i64 0, .int .i64 0, .int .i64 0, .slice none 0 0], .bool false]) (by simp [results, Tryd.results60, go_sem, r0, r1, r2, r3, r4, r5]) rfl ?_
    refine ⟨.slice none 0 0, by unfold rqFd; rw [HG.out]; rfl, by unfold rqT; rw [HG.out]; exact Own.nil _ _, ?_⟩
    repeat (refine Below.setCell ?_ (by simp) _)
    exact HB2.out
  have HG0 := Lib.hid hq
  have HG : Hid (rqGood l = true) := Lib.hid (by rw [HGM.out, HWx.out, HWs.out, HWp.out, HWq.out, HWr.out, HTT.out, HZ.out, HBE.out, decide_eq_true hq]; rfl)
  rw [hq] at HBE
  clear hq
  have heq1 : (l == l) = true := by simp
  go_upto_region 4 with fail
  refine wp_region_held_drew (S := (fun V => V.cell? ⟨bb, 0, none⟩ = some (.int .i64 x) ∧ V.cell? ⟨bb, 1, none⟩ = some (.int .i64 s) ∧ V.cell? ⟨bb, 2, none⟩ = some (.int .i64 p) ∧ V.cell? ⟨bb, 3, none⟩ = some (.int .i64 q) ∧ V.cell? ⟨bb, 4, none⟩ = some (.int .i64 r) ∧ V.cell? ⟨bb, 5, none⟩ = some (.slice AV T.length cV) ∧ Sem.run Tryd.prog (convert 22 9 (.slice (some ⟨b, off, none⟩) l.length c)) V = .ok (.string ⟨l.toArray⟩) V)) (by kernel_rfl) (by exact ⟨b0, b1, b2, b3, b4, b5, hcv⟩) (fun hHeld => ?_)
  refine wpAnyH_take (i := 0) (oi := ?_) (v := ?_) ?_ ?_ ?_ ?_ ?_ ?_ (by exact hHeld) ?_
  rotate_left 2
  · (simp only [List.getElem?_toArray, List.getElem?_cons_zero]; try rfl)
  · kernel_rfl
  · kernel_rfl
  · kernel_rfl
  · exact fun _ _ _ h => h
  · refine Or.inl ⟨by rfl, ?_⟩
    (intro V hSV; (try dsimp only at hSV); obtain ⟨q0, q1, q2, q3, q4, q5, q6⟩ := hSV; go_simp; try with_reducible rfl)
  (try simp only [Act.put, List.setIfInBounds_toArray, List.set_cons_zero, List.set_cons_succ])
  refine wpAnyH_ready (rs := [1]) (by kernel_rfl) (by simp) ?_
  refine AllReadyH.cons rfl (fun K hK => ?_) AllReadyH.nil
  go_simp
  refine (specReqOk_any x s p q r AV T cV _ lV kV (by exact HBV.out)).mono ?_
  rintro e v1 ⟨rfl, hb⟩
  rw [HZ.out]
  have hb : Below wc.heap.size wc v1 := ⟨hb.os, hb.tape, hb.output, hb.size, hb.block⟩
  have H1 := Lib.hid hb
  clear hb
  go_wp2_with fail
  refine hK.out _ _ (by exact ⟨((H1.out).cell (p := ⟨bb, 0, none⟩) hbbl).trans b0, ((H1.out).cell (p := ⟨bb, 1, none⟩) hbbl).trans b1, ((H1.out).cell (p := ⟨bb, 2, none⟩) hbbl).trans b2, ((H1.out).cell (p := ⟨bb, 3, none⟩) hbbl).trans b3, ((H1.out).cell (p := ⟨bb, 4, none⟩) hbbl).trans b4, ((H1.out).cell (p := ⟨bb, 5, none⟩) hbbl).trans b5, run_conv_bs c l.length rfl (HAC.out.below H1.out)⟩) (fun hHeld => ?_)
  clear hK K
  (try simp only [Act.put, List.setIfInBounds_toArray, List.set_cons_zero, List.set_cons_succ])
  refine wpAnyH_take (i := 2) (oi := ?_) (v := ?_) ?_ ?_ ?_ ?_ ?_ ?_ (by exact hHeld) ?_
  rotate_left 2
  · (simp only [List.getElem?_toArray, List.getElem?_cons_zero, List.getElem?_cons_succ]; try rfl)
  · kernel_rfl
  · kernel_rfl
  · kernel_rfl
  · exact fun _ _ _ h => h
  · refine Or.inl ⟨by rfl, ?_⟩
    (intro V hSV; (try dsimp only at hSV); obtain ⟨q0, q1, q2, q3, q4, q5, q6⟩ := hSV; go_simp; try with_reducible rfl)
  (try simp only [Act.put, List.setIfInBounds_toArray, List.set_cons_zero, List.set_cons_succ])
  refine wpAnyH_take (i := 3) (oi := ?_) (v := ?_) ?_ ?_ ?_ ?_ ?_ ?_ (by exact hHeld) ?_
  rotate_left 2
  · (simp only [List.getElem?_toArray, List.getElem?_cons_zero, List.getElem?_cons_succ]; try rfl)
  · kernel_rfl
  · kernel_rfl
  · kernel_rfl
  · exact fun _ _ _ h => h
  · refine Or.inl ⟨by rfl, ?_⟩
    (intro V hSV; (try dsimp only at hSV); obtain ⟨q0, q1, q2, q3, q4, q5, q6⟩ := hSV; go_simp; try with_reducible rfl)
  (try simp only [Act.put, List.setIfInBounds_toArray, List.set_cons_zero, List.set_cons_succ])
  refine wpAnyH_take (i := 4) (oi := ?_) (v := ?_) ?_ ?_ ?_ ?_ ?_ ?_ (by exact hHeld) ?_
  rotate_left 2
  · (simp only [List.getElem?_toArray, List.getElem?_cons_zero, List.getElem?_cons_succ]; try rfl)
  · kernel_rfl
  · kernel_rfl
  · kernel_rfl
  · exact fun _ _ _ h => h
  · refine Or.inl ⟨by rfl, ?_⟩
    (intro V hSV; (try dsimp only at hSV); obtain ⟨q0, q1, q2, q3, q4, q5, q6⟩ := hSV; go_simp; try with_reducible rfl)
  (try simp only [Act.put, List.setIfInBounds_toArray, List.set_cons_zero, List.set_cons_succ])
  refine wpAnyH_take (i := 7) (oi := ?_) (v := ?_) ?_ ?_ ?_ ?_ ?_ ?_ (by exact hHeld) ?_
  rotate_left 2
  · (simp only [List.getElem?_toArray, List.getElem?_cons_zero, List.getElem?_cons_succ]; try rfl)
  · kernel_rfl
  · kernel_rfl
  · kernel_rfl
  · exact fun _ _ _ h => h
  · refine Or.inl ⟨by rfl, ?_⟩
    (intro V hSV; (try dsimp only at hSV); obtain ⟨q0, q1, q2, q3, q4, q5, q6⟩ := hSV; go_simp; try with_reducible rfl)
  (try simp only [Act.put, List.setIfInBounds_toArray, List.set_cons_zero, List.set_cons_succ])
  refine wpAnyH_take (i := 8) (oi := ?_) (v := ?_) ?_ ?_ ?_ ?_ ?_ ?_ (by exact hHeld) ?_
  rotate_left 2
  · (simp only [List.getElem?_toArray, List.getElem?_cons_zero, List.getElem?_cons_succ]; try rfl)
  · kernel_rfl
  · kernel_rfl
  · kernel_rfl
  · exact fun _ _ _ h => h
  · refine Or.inl ⟨by rfl, ?_⟩
    (intro V hSV; (try dsimp only at hSV); obtain ⟨q0, q1, q2, q3, q4, q5, q6⟩ := hSV; go_simp; try with_reducible rfl)
  (try simp only [Act.put, List.setIfInBounds_toArray, List.set_cons_zero, List.set_cons_succ])
  refine wpAnyH_ready (rs := [5]) (by kernel_rfl) (by simp) ?_
  refine AllReadyH.cons rfl (fun K hK => ?_) AllReadyH.nil
  go_simp
  refine (specReqBytes_any x s p q r AV T cV _ lV kV (by exact HBV.out.below H1.out)).mono ?_
  rintro e v2 ⟨v, rfl, hown, hb⟩
  rw [HBE.out] at hown
  have hb : Below v1.heap.size v1 v2 := ⟨hb.os, hb.tape, hb.output, hb.size, hb.block⟩
  have H2 := Lib.hid (below_then H1.out hb)
  obtain ⟨A2, c2, rfl, _, _, hB2, _, _⟩ := own_plain9 hown
  have hcv2 := run_conv_bs c2 l.length rfl hB2
  clear hb hown hB2
  go_wp2_with fail
  refine hK.out _ _ (by exact ⟨((H2.out).cell (p := ⟨bb, 0, none⟩) hbbl).trans b0, ((H2.out).cell (p := ⟨bb, 1, none⟩) hbbl).trans b1, ((H2.out).cell (p := ⟨bb, 2, none⟩) hbbl).trans b2, ((H2.out).cell (p := ⟨bb, 3, none⟩) hbbl).trans b3, ((H2.out).cell (p := ⟨bb, 4, none⟩) hbbl).trans b4, ((H2.out).cell (p := ⟨bb, 5, none⟩) hbbl).trans b5, run_conv_bs c l.length rfl (HAC.out.below H2.out)⟩) (fun hHeld => ?_)
  clear hK K
  (try simp only [Act.put, List.setIfInBounds_toArray, List.set_cons_zero, List.set_cons_succ])
  refine wpAnyH_ready (rs := [6]) (by kernel_rfl) (by simp) ?_
  refine AllReadyH.cons (o := ?_) ?_ (fun K hK => ?_) AllReadyH.nil
  rotate_left 1
  · (simp only [List.getElem?_toArray, List.getElem?_cons_zero, List.getElem?_cons_succ]; try rfl)
  go_simp
  refine hK.out _ _ (by exact ⟨((H2.out).cell (p := ⟨bb, 0, none⟩) hbbl).trans b0, ((H2.out).cell (p := ⟨bb, 1, none⟩) hbbl).trans b1, ((H2.out).cell (p := ⟨bb, 2, none⟩) hbbl).trans b2, ((H2.out).cell (p := ⟨bb, 3, none⟩) hbbl).trans b3, ((H2.out).cell (p := ⟨bb, 4, none⟩) hbbl).trans b4, ((H2.out).cell (p := ⟨bb, 5, none⟩) hbbl).trans b5, run_conv_bs c l.length rfl (HAC.out.below H2.out)⟩) (fun hHeld => ?_)
  clear hK K
  (try simp only [Act.put, List.setIfInBounds_toArray, List.set_cons_zero, List.set_cons_succ])
  refine wpAnyH_take (i := 9) (oi := ?_) (v := ?_) ?_ ?_ ?_ ?_ ?_ ?_ (by exact hHeld) ?_
  rotate_left 2
  · (simp only [List.getElem?_toArray, List.getElem?_cons_zero, List.getElem?_cons_succ]; try rfl)
  · kernel_rfl
  · kernel_rfl
  · kernel_rfl
  · exact fun _ _ _ h => h
  · refine Or.inl ⟨by rfl, ?_⟩
    (intro V hSV; (try dsimp only at hSV); obtain ⟨q0, q1, q2, q3, q4, q5, q6⟩ := hSV; go_simp; try with_reducible rfl)
  (try simp only [Act.put, List.setIfInBounds_toArray, List.set_cons_zero, List.set_cons_succ])
  refine wpAnyH_take (i := 10) (oi := ?_) (v := ?_) ?_ ?_ ?_ ?_ ?_ ?_ (by exact hHeld) ?_
  rotate_left 2
  · (simp only [List.getElem?_toArray, List.getElem?_cons_zero, List.getElem?_cons_succ]; try rfl)
  · kernel_rfl
  · kernel_rfl
  · kernel_rfl
  · exact fun _ _ _ h => h
  · refine Or.inl ⟨by rfl, ?_⟩
    (intro V hSV; (try dsimp only at hSV); obtain ⟨q0, q1, q2, q3, q4, q5, q6⟩ := hSV; go_simp; try with_reducible rfl)
  (try simp only [Act.put, List.setIfInBounds_toArray, List.set_cons_zero, List.set_cons_succ])
  refine wpAnyH_done (by kernel_rfl) ?_ _
  clear hHeld hcv2 hcv b0 b1 b2 b3 b4 b5
  have RX := Lib.hid (RX.out.below H2.out)
  have HB2 := Lib.hid (below_then HW2.out H2.out)
  have HBB := Lib.hid (HBB.out.below H2.out)
  have HV := Lib.hid (HV.out.below H2.out)
  have b0 := HBB.out.cell 0
  have b1 := HBB.out.cell 1
  have b2 := HBB.out.cell 2
  have b3 := HBB.out.cell 3
  have b4 := HBB.out.cell 4
  have b5 := HBB.out.cell 5
  have r0 := RX.out.cell 0
  have fr0 := RX.out.frozen 0
  have r1 := RX.out.cell 1
  have fr1 := RX.out.frozen 1
  have r2 := RX.out.cell 2
  have fr2 := RX.out.frozen 2
  have r3 := RX.out.cell 3
  have fr3 := RX.out.frozen 3
  have r4 := RX.out.cell 4
  have fr4 := RX.out.frozen 4
  have r5 := RX.out.cell 5
  have fr5 := RX.out.frozen 5
  have hzz := RX.out.lt
  go_wp2
  refine bodyPost_ret (v := .tuple #[.agg #[.int .i64 x, .int .i64 s, .int .i64 p, .int .i64 q, .int .i64 r, .slice AV T.length cV], .bool true]) (by simp [results, Tryd.results60, go_sem, r0, r1, r2, r3, r4, r5]) rfl ?_
  refine ⟨.slice AV T.length cV, by unfold rqFd; rw [HG.out, HWx.out, HWs.out, HWp.out, HWq.out, HWr.out]; rfl, ?_, ?_⟩
  · have e : rqT l = T := by unfold rqT; rw [HG.out]; exact HTT.out
    rw [e]
    have h9 : ∀ (W : World) (i : Nat) (u : Value), Own W w1.heap.size (.slice AV T.length cV) T → Own (W.setCell ⟨w.heap.size, i, none⟩ u) w1.heap.size (.slice AV T.length cV) T := fun W i u h => h.setBelow (by simpa using hzw) u
    refine Own.mono (base := w1.heap.size) ?_ (by omega)
    iterate 6 (refine h9 _ _ _ ?_)
    exact HV.out
  · repeat (refine Below.setCell ?_ (by simp) _)
    exact HB2.out
end Go.Proofs.YtgpjjolgpppeeaaDoor
