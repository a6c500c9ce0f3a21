/-
  Chapter 9, ReplyRead in the model: contract. Own work.
-/
import Derived.Test.YtdmmdbapkogdhabDoorN11
import Derived.Test.YtdmmdbapkogdhabDoorN13
import Derived.Deep.RegionHeld3
import Derived.Deep.DeepCutAuto
namespace Go.Proofs.YtdmmdbapkogdhabDoor
open Go.RowKit P
set_option linter.unusedVariables false
set_option linter.unusedSimpArgs false
set_option maxRecDepth 100000

set_option maxHeartbeats 32000000 in
theorem specReplyRead_any (A0 : Option Addr) (l : List UInt8) (c : Nat) (w : World) (hlc : l.length ≤ c) (hc9 : c ≤ 9223372036854775807) (hPl : A0 = none → c = 0) (hpp : ∀ a, A0 = some a → ∃ g o, a = ⟨g, o, none⟩) (hA0 : Bs w A0 l) (hl6 : l.length ≤ 1048576) :
    Calls Tryd.prog 17 #[.slice A0 l.length c] w (GivesRp l w) := by
  have hn9 : l.length ≤ 9223372036854775807 := by omega
  have RX := Lib.hid (Blk.new w #[.int .i64 0, .int .i64 0, .int .i64 0, .slice none 0 0] 27)
  have HAL := Lib.hid ((Below.refl w.heap.size w).alloc (Nat.le_refl _) (.cells #[.int .i64 0, .int .i64 0, .int .i64 0, .slice none 0 0] 27))
  by_cases hs : l.length < 7
  · have HG := Lib.hid (rpGood_short hs)
    have hs' : (l.length : Int) < 7 := by omega
    clear hs
    go_enter Tryd.func17, Tryd.ntmps17
    have r0 := RX.out.cell 0
    have fr0 := RX.out.frozen 0
    have r1 := RX.out.cell 1
    have fr1 := RX.out.frozen 1
    have r2 := RX.out.cell 2
    have fr2 := RX.out.frozen 2
    have r3 := RX.out.cell 3
    have fr3 := RX.out.frozen 3
    have hzz := RX.out.lt
    go_wp2
    refine bodyPost_ret (v := .tuple #[.agg #[.int .i64 0, .int .i64 0, .int .i64 0, .slice none 0 0], .bool false]) (by simp [results, Tryd.results17, go_sem, r0, r1, r2, r3]) rfl ?_
    refine ⟨.slice none 0 0, by unfold rpFd; rw [HG.out]; rfl, by unfold rpT; rw [HG.out]; exact Own.nil _ _, ?_⟩
    repeat (refine Below.setCell ?_ (by simp) _)
    exact HAL.out
  have hs' : ¬ (l.length : Int) < 7 := by omega
  obtain ⟨b, off, rfl, hbl0, _⟩ := hA0 0 (by omega)
  obtain ⟨x, hdx⟩ : ∃ x, gb l 0 = x := ⟨_, rfl⟩
  have hLx : w.cell? ⟨b, off, none⟩ = some (.int .u8 x) := by
    obtain ⟨b2, o2, e2, _, hc2⟩ := hA0 0 (by omega)
    cases e2
    rw [← hdx, gb_get l 0 (by omega)]; exact hc2
  have hwrx : IntKind.i64.wrap x = x := IntWalk.i64_in _ (by have := gb_bd l 0; rw [hdx] at this; omega)
  have HWx := Lib.hid hdx
  clear hdx
  obtain ⟨p, hdp⟩ : ∃ x, wd l 1 = x := ⟨_, rfl⟩
  have HWp := Lib.hid hdp
  clear hdp
  obtain ⟨q, hdq⟩ : ∃ x, wd l 3 = x := ⟨_, rfl⟩
  have HWq := Lib.hid hdq
  clear hdq
  obtain ⟨D, hsl, hBD, _, _⟩ := slc_tail (some ⟨b, off, none⟩) l.length c 7 w l hPl hpp rfl (by omega) hlc hc9 hA0
  obtain ⟨T, hT0⟩ : ∃ T, l.drop 7 = T := ⟨_, rfl⟩
  rw [hT0] at hBD
  have HTT := Lib.hid hT0
  have hTl : l.length - 7 = T.length := by rw [← hT0, List.length_drop]
  obtain ⟨N, hN⟩ : ∃ N, l.length - 7 = N := ⟨_, rfl⟩
  obtain ⟨rc, hrc⟩ : ∃ r, c - 7 = r := ⟨_, rfl⟩
  have hsl' : ∀ W, (Instr.slice 22 (.slice (some ⟨b, off, none⟩) l.length c) (some (.int .i64 7)) none none).run Tryd.prog W = .ok (.slice D N rc) W := fun W => by
    have h := hsl W
    rw [hN, hrc] at h
    exact h
  have HN : Hid (N = T.length) := Lib.hid (by rw [← hN]; exact hTl)
  have hlN : l.length = N + 7 := by omega
  have HLN := Lib.hid hlN
  have HBD := Lib.hid hBD
  clear hsl hBD hT0 hTl hrc hN hlN
  have HA0 := Lib.hid hA0
  clear hA0
  have HGM := Lib.hid (rpGood_model (d := l) (by omega))
  go_enter Tryd.func17, Tryd.ntmps17
  go_upto_region 3 with fail
  generalize w.alloc (.cells #[.int .i64 0, .int .i64 0, .int .i64 0, .slice none 0 0] 27) = w1 at *
  have hT5 : T.length ≤ 1048576 := by have := HN.out; have := HLN.out; omega
  have hA := (HA0.out.below HAL.out)
  have HS := Lib.hid (HBD.out.below HAL.out)
  have hbl : b < w1.heap.size := by have := HAL.out.size; omega
  have HLx := Lib.hid ((HAL.out.cell (p := ⟨b, off, none⟩) hbl0).trans hLx)
  clear hLx
  have hb0 : 0 < l.length := by omega
  have hbi0 : (0 : Int) < (l.length : Int) := by omega
  have hzw : w.heap.size < w1.heap.size := RX.out.lt
  go_cut [4] (fun pv wx => ∃ (bb : Nat) (AV : Option Addr) (cV : Nat), pv = .pointer (some ⟨bb, 0, none⟩) ∧ Blk wx bb #[.int .i64 x, .int .i64 p, .int .i64 q, .slice AV T.length cV] 27 ∧ Own wx w1.heap.size (.slice AV T.length cV) T ∧ w1.heap.size ≤ bb ∧ Below w1.heap.size w1 wx)
  case first =>
    have HB := Lib.hid (show Below w1.heap.size w1 w1.drew from (Below.refl w1.heap.size w1).drew)
    refine wp_region_noPanic ?_
    refine wp_region_held_drew (S := (fun V => V.cell? ⟨b, off, none⟩ = some (.int .u8 x))) (by kernel_rfl) (by exact ((HB.out.cell (p := ⟨b, off, none⟩) hbl).trans HLx.out)) (fun hHeld => ?_)
    refine wpAnyH_take (i := 0) (oi := ?_) (v := ?_) ?_ ?_ ?_ ?_ ?_ ?_ (by exact hHeld) ?_
    rotate_left 2
    · (simp only [List.getElem?_toArray, List.getElem?_cons_zero]; try rfl)
    · kernel_rfl
    · kernel_rfl
    · kernel_rfl
    · exact fun _ _ _ h => h
    · refine Or.inl ⟨by rfl, ?_⟩
      (intro V hSV; (try dsimp only at hSV); have q0 := hSV; go_simp; try with_reducible rfl)
    (try simp only [Act.put, List.setIfInBounds_toArray, List.set_cons_zero, List.set_cons_succ])
    refine wpAnyH_take (i := 1) (oi := ?_) (v := ?_) ?_ ?_ ?_ ?_ ?_ ?_ (by exact hHeld) ?_
    rotate_left 2
    · (simp only [List.getElem?_toArray, List.getElem?_cons_zero, List.getElem?_cons_succ]; try rfl)
    · kernel_rfl
    · kernel_rfl
    · kernel_rfl
    · exact fun _ _ _ h => h
    · refine Or.inl ⟨by rfl, ?_⟩
      (intro V hSV; (try dsimp only at hSV); have q0 := hSV; go_simp; try with_reducible rfl)
    (try simp only [Act.put, List.setIfInBounds_toArray, List.set_cons_zero, List.set_cons_succ])
    refine wpAnyH_take (i := 2) (oi := ?_) (v := ?_) ?_ ?_ ?_ ?_ ?_ ?_ (by exact hHeld) ?_
    rotate_left 2
    · (simp only [List.getElem?_toArray, List.getElem?_cons_zero, List.getElem?_cons_succ]; try rfl)
    · kernel_rfl
    · kernel_rfl
    · kernel_rfl
    · exact fun _ _ _ h => h
    · refine Or.inl ⟨by rfl, ?_⟩
      (intro V hSV; (try dsimp only at hSV); have q0 := hSV; go_simp; try with_reducible rfl)
    (try simp only [Act.put, List.setIfInBounds_toArray, List.set_cons_zero, List.set_cons_succ])
    refine wpAnyH_take (i := 3) (oi := ?_) (v := ?_) ?_ ?_ ?_ ?_ ?_ ?_ (by exact hHeld) ?_
    rotate_left 2
    · (simp only [List.getElem?_toArray, List.getElem?_cons_zero, List.getElem?_cons_succ]; try rfl)
    · kernel_rfl
    · kernel_rfl
    · kernel_rfl
    · exact fun _ _ _ h => h
    · refine Or.inl ⟨by rfl, ?_⟩
      (intro V hSV; (try dsimp only at hSV); have q0 := hSV; go_simp; try with_reducible rfl)
    (try simp only [Act.put, List.setIfInBounds_toArray, List.set_cons_zero, List.set_cons_succ])
    refine wpAnyH_take (i := 4) (oi := ?_) (v := ?_) ?_ ?_ ?_ ?_ ?_ ?_ (by exact hHeld) ?_
    rotate_left 2
    · (simp only [List.getElem?_toArray, List.getElem?_cons_zero, List.getElem?_cons_succ]; try rfl)
    · kernel_rfl
    · kernel_rfl
    · kernel_rfl
    · exact fun _ _ _ h => h
    · refine Or.inl ⟨by rfl, ?_⟩
      (intro V hSV; (try dsimp only at hSV); have q0 := hSV; go_simp; try with_reducible rfl)
    (try simp only [Act.put, List.setIfInBounds_toArray, List.set_cons_zero, List.set_cons_succ])
    refine wpAnyH_take (i := 6) (oi := ?_) (v := ?_) ?_ ?_ ?_ ?_ ?_ ?_ (by exact hHeld) ?_
    rotate_left 2
    · (simp only [List.getElem?_toArray, List.getElem?_cons_zero, List.getElem?_cons_succ]; try rfl)
    · kernel_rfl
    · kernel_rfl
    · kernel_rfl
    · exact fun _ _ _ h => h
    · refine Or.inl ⟨by rfl, ?_⟩
      (intro V hSV; (try dsimp only at hSV); have q0 := hSV; go_simp; try with_reducible rfl)
    (try simp only [Act.put, List.setIfInBounds_toArray, List.set_cons_zero, List.set_cons_succ])
    refine wpAnyH_take (i := 9) (oi := ?_) (v := ?_) ?_ ?_ ?_ ?_ ?_ ?_ (by exact hHeld) ?_
    rotate_left 2
    · (simp only [List.getElem?_toArray, List.getElem?_cons_zero, List.getElem?_cons_succ]; try rfl)
    · kernel_rfl
    · kernel_rfl
    · kernel_rfl
    · exact fun _ _ _ h => h
    · refine Or.inl ⟨by rfl, ?_⟩
      (intro V hSV; (try dsimp only at hSV); have q0 := hSV; go_simp; try with_reducible rfl)
    (try simp only [Act.put, List.setIfInBounds_toArray, List.set_cons_zero, List.set_cons_succ])
    refine wpAnyH_take (i := 10) (oi := ?_) (v := ?_) ?_ ?_ ?_ ?_ ?_ ?_ (by exact hHeld) ?_
    rotate_left 2
    · (simp only [List.getElem?_toArray, List.getElem?_cons_zero, List.getElem?_cons_succ]; try rfl)
    · kernel_rfl
    · kernel_rfl
    · kernel_rfl
    · exact fun _ _ _ h => h
    · refine Or.inl ⟨by rfl, ?_⟩
      (intro V hSV; (try dsimp only at hSV); have q0 := hSV; go_simp; try with_reducible rfl)
    (try simp only [Act.put, List.setIfInBounds_toArray, List.set_cons_zero, List.set_cons_succ])
    refine wpAnyH_ready (rs := [5, 8, 13]) (by kernel_rfl) (by simp) ?_
    refine AllReadyH.cons (o := ?_) ?_ (fun K hK => ?_) ?_
    rotate_left 1
    · (simp only [List.getElem?_toArray, List.getElem?_cons_zero, List.getElem?_cons_succ]; try rfl)
    · go_simp
      refine (l09At_any (some ⟨b, off, none⟩) l c 1 _ hn9 (by omega) (by exact hA.below HB.out)).mono ?_
      rintro e y1 ⟨rfl, hE⟩
      have hb : Below (w1.drew).heap.size (w1.drew) y1 := by obtain ⟨n, rfl⟩ := hE; exact below_of_drewN _ n
      rw [HWp.out]
      have HB := Lib.hid (HB.out.trans (hb.mono HB.out.size))
      clear hb hE
      go_wp2_with fail
      refine hK.out _ _ (by exact ((HB.out.cell (p := ⟨b, off, none⟩) hbl).trans HLx.out)) (fun hHeld => ?_)
      clear hK K
      (try simp only [Act.put, List.setIfInBounds_toArray, List.set_cons_zero, List.set_cons_succ])
      refine wpAnyH_ready (rs := [7, 8, 13]) (by kernel_rfl) (by simp) ?_
      refine AllReadyH.cons (o := ?_) ?_ (fun K hK => ?_) ?_
      rotate_left 1
      · (simp only [List.getElem?_toArray, List.getElem?_cons_zero, List.getElem?_cons_succ]; try rfl)
      · go_simp
        refine (l09At_any (some ⟨b, off, none⟩) l c 3 _ hn9 (by omega) (by exact hA.below HB.out)).mono ?_
        rintro e y2 ⟨rfl, hE⟩
        have hb : Below (y1).heap.size (y1) y2 := by obtain ⟨n, rfl⟩ := hE; exact below_of_drewN _ n
        rw [HWq.out]
        have HB := Lib.hid (HB.out.trans (hb.mono HB.out.size))
        clear hb hE
        go_wp2_with fail
        refine hK.out _ _ (by exact ((HB.out.cell (p := ⟨b, off, none⟩) hbl).trans HLx.out)) (fun hHeld => ?_)
        clear hK K
        (try simp only [Act.put, List.setIfInBounds_toArray, List.set_cons_zero, List.set_cons_succ])
        refine wpAnyH_ready (rs := [8, 13]) (by kernel_rfl) (by simp) ?_
        refine AllReadyH.cons (o := ?_) ?_ (fun K hK => ?_) ?_
        rotate_left 1
        · (simp only [List.getElem?_toArray, List.getElem?_cons_zero, List.getElem?_cons_succ]; try rfl)
        · have hbA := (Below.refl (y2).heap.size (y2)).alloc (Nat.le_refl _) (.cells #[] 5)
          have hE0 : Own ((y2).alloc (.cells #[] 5)) w1.heap.size (.slice (some ⟨y2.heap.size, 0, none⟩) 0 0) [] := by
            have h := Own.mono (show Own ((y2).alloc (.cells #[] 5)) (y2).heap.size (.slice (some ⟨(y2).heap.size, 0, none⟩) 0 0) [] from Own.new (y2) [] (by simp [maxLen])) (show w1.heap.size ≤ (y2).heap.size from HB.out.size)
            first | exact h | simpa using h
          have E0 := Lib.hid hE0
          clear hE0
          have HB := Lib.hid (HB.out.trans (hbA.mono HB.out.size))
          clear hbA
          go_simp
          refine hK.out _ _ (by exact ((HB.out.cell (p := ⟨b, off, none⟩) hbl).trans HLx.out)) (fun hHeld => ?_)
          clear hK K
          (try simp only [Act.put, List.setIfInBounds_toArray, List.set_cons_zero, List.set_cons_succ])
          refine wpAnyH_ready (rs := [11, 13]) (by kernel_rfl) (by simp) ?_
          refine AllReadyH.cons (o := ?_) ?_ (fun K hK => ?_) ?_
          rotate_left 1
          · (simp only [List.getElem?_toArray, List.getElem?_cons_zero, List.getElem?_cons_succ]; try rfl)
          · have hfresh := E0.out.range
            refine step_app_bytes9 rfl (.tmp 17) (.tmp 19) rfl _ (Value.slice (some ⟨y2.heap.size, 0, none⟩) 0 0) [] T D N rc rfl rfl HN.out (by exact E0.out) (by exact HS.out.below HB.out) (by simp; omega) (by exact HB.out.size) ?_
            intro v9 y4 hown hg hv9
            have hg : World.grownBy (((y2).alloc (.cells #[] 5))) y4 (Value.slice (some ⟨y2.heap.size, 0, none⟩) 0 0).ownBlock := ⟨hg.os, hg.tape, hg.output, hg.size, hg.block⟩
            have hke := Keeps.of_grown hg
            have hown : Own y4 w1.heap.size v9 T := hown
            have HB := Lib.hid (HB.out.trans (hke.below (B := w1.heap.size) HB.out.size (fun k hk => (hfresh k hk).1)))
            obtain ⟨AV, cV, rfl, lV, kV, _, _, _⟩ := own_plain9 hown
            have VV := Lib.hid hown
            clear hke hg hown hfresh
            (try go_simp)
            refine hK.out _ _ (by exact ((HB.out.cell (p := ⟨b, off, none⟩) hbl).trans HLx.out)) (fun hHeld => ?_)
            clear hK K
            (try simp only [Act.put, List.setIfInBounds_toArray, List.set_cons_zero, List.set_cons_succ])
            refine wpAnyH_take (i := 12) (oi := ?_) (v := ?_) ?_ ?_ ?_ ?_ ?_ ?_ (by exact hHeld) ?_
            rotate_left 2
            · (simp only [List.getElem?_toArray, List.getElem?_cons_zero, List.getElem?_cons_succ]; try rfl)
            · kernel_rfl
            · kernel_rfl
            · kernel_rfl
            · exact fun _ _ _ h => h
            · refine Or.inl ⟨by rfl, ?_⟩
              (intro V hSV; (try dsimp only at hSV); have q0 := hSV; go_simp; try with_reducible rfl)
            (try simp only [Act.put, List.setIfInBounds_toArray, List.set_cons_zero, List.set_cons_succ])
            refine wpAnyH_ready (rs := [13]) (by kernel_rfl) (by simp) ?_
            refine AllReadyH.cons (o := ?_) ?_ (fun K hK => ?_) AllReadyH.nil
            rotate_left 1
            · (simp only [List.getElem?_toArray, List.getElem?_cons_zero, List.getElem?_cons_succ]; try rfl)
            have HB0 := HB
            have VV0 := VV
            have hbA := (Below.refl (y4).heap.size (y4)).alloc (Nat.le_refl _) (.cells #[.int .i64 0, .int .i64 0, .int .i64 0, .slice none 0 0] 27)
            have hBX : Blk ((y4).alloc (.cells #[.int .i64 0, .int .i64 0, .int .i64 0, .slice none 0 0] 27)) (y4.heap.size) #[.int .i64 0, .int .i64 0, .int .i64 0, .slice none 0 0] 27 := by
              have h := Blk.new (y4) #[.int .i64 0, .int .i64 0, .int .i64 0, .slice none 0 0] 27
              first | exact h | simpa using h
            have BX := Lib.hid hBX
            have HLO : Hid (w1.heap.size ≤ y4.heap.size) := Lib.hid (by have h := HB.out.size; first | exact h | (simp; done) | (simp at h ⊢; omega))
            clear hBX
            have HVB : Hid (∀ k ∈ (Value.slice AV T.length cV).ownBlock.toList, k ≠ y4.heap.size) := Lib.hid (fun k hk e => by have h := (VV.out.range k hk).2; (try simp at h); omega)
            have HB := Lib.hid (HB.out.trans (hbA.mono HB.out.size))
            have VV := Lib.hid (VV.out.below hbA)
            clear hbA
            go_simp
            refine hK.out _ _ (by exact ((HB.out.cell (p := ⟨b, off, none⟩) hbl).trans HLx.out)) (fun hHeld => ?_)
            clear hK K
            (try simp only [Act.put, List.setIfInBounds_toArray, List.set_cons_zero, List.set_cons_succ])
            have hbF := (Below.refl (y4).heap.size (y4)).alloc (Nat.le_refl _) (.cells #[.int .i64 x, .int .i64 p, .int .i64 q, .slice AV T.length cV] 27)
            have hBF : Blk (((y4).alloc (.cells #[.int .i64 x, .int .i64 p, .int .i64 q, .slice AV T.length cV] 27))) (y4.heap.size) #[.int .i64 x, .int .i64 p, .int .i64 q, .slice AV T.length cV] 27 := by
              have h := Blk.new (y4) #[.int .i64 x, .int .i64 p, .int .i64 q, .slice AV T.length cV] 27
              first | exact h | simpa using h
            have BF := Lib.hid hBF
            have VF := Lib.hid (VV0.out.below hbF)
            have HBF := Lib.hid (HB0.out.trans (hbF.mono HB0.out.size))
            have HB := HBF
            clear hbF hBF
            refine wpAnyH_ready (rs := [14]) (by kernel_rfl) (by simp) ?_
            refine AllReadyH.cons (o := ?_) ?_ (fun K hK => ?_) AllReadyH.nil
            rotate_left 1
            · (simp only [List.getElem?_toArray, List.getElem?_cons_zero, List.getElem?_cons_succ]; try rfl)
            go_simp
            refine hK.out _ _ (by exact ((HB.out.cell (p := ⟨b, off, none⟩) hbl).trans HLx.out)) (fun hHeld => ?_)
            clear hK K
            (try simp only [Act.put, List.setIfInBounds_toArray, List.set_cons_zero, List.set_cons_succ])
            refine wpAnyH_done (by kernel_rfl) ?_ _
            refine NoPanic.normal ?_
            go_wp2_with fail
            go_meet
            exact ⟨y4.heap.size, AV, cV, rfl, BF.out, VF.out, HLO.out, HBF.out⟩
          refine AllReadyH.cons (o := ?_) ?_ (fun K hK => ?_) AllReadyH.nil
          rotate_left 1
          · (simp only [List.getElem?_toArray, List.getElem?_cons_zero, List.getElem?_cons_succ]; try rfl)
          have hbA := (Below.refl (((y2).alloc (.cells #[] 5))).heap.size (((y2).alloc (.cells #[] 5)))).alloc (Nat.le_refl _) (.cells #[.int .i64 0, .int .i64 0, .int .i64 0, .slice none 0 0] 27)
          have hBX : Blk ((((y2).alloc (.cells #[] 5))).alloc (.cells #[.int .i64 0, .int .i64 0, .int .i64 0, .slice none 0 0] 27)) (y2.heap.size + 1) #[.int .i64 0, .int .i64 0, .int .i64 0, .slice none 0 0] 27 := by
            have h := Blk.new (((y2).alloc (.cells #[] 5))) #[.int .i64 0, .int .i64 0, .int .i64 0, .slice none 0 0] 27
            first | exact h | simpa using h
          have BX := Lib.hid hBX
          have HLO : Hid (w1.heap.size ≤ y2.heap.size + 1) := Lib.hid (by have h := HB.out.size; first | exact h | (simp; done) | (simp at h ⊢; omega))
          clear hBX
          have HNE : Hid (y2.heap.size + 1 ≠ y2.heap.size) := Lib.hid (Nat.ne_of_gt (by have h := (E0.out.range (y2.heap.size) (by simp [Value.ownBlock])).2; first | exact h | (simp; done) | (simp at h ⊢; omega)))
          have HB := Lib.hid (HB.out.trans (hbA.mono HB.out.size))
          have E0 := Lib.hid (E0.out.below hbA)
          clear hbA
          go_simp
          refine hK.out _ _ (by exact ((HB.out.cell (p := ⟨b, off, none⟩) hbl).trans HLx.out)) (fun hHeld => ?_)
          clear hK K
          (try simp only [Act.put, List.setIfInBounds_toArray, List.set_cons_zero, List.set_cons_succ])
          refine wpAnyH_ready (rs := [11]) (by kernel_rfl) (by simp) ?_
          refine AllReadyH.cons (o := ?_) ?_ (fun K hK => ?_) AllReadyH.nil
          rotate_left 1
          · (simp only [List.getElem?_toArray, List.getElem?_cons_zero, List.getElem?_cons_succ]; try rfl)
          have hfresh := E0.out.range
          refine step_app_bytes9 rfl (.tmp 17) (.tmp 19) rfl _ (Value.slice (some ⟨y2.heap.size, 0, none⟩) 0 0) [] T D N rc rfl rfl HN.out (by exact E0.out) (by exact HS.out.below HB.out) (by simp; omega) (by exact HB.out.size) ?_
          intro v9 y5 hown hg hv9
          have hg : World.grownBy (((((y2).alloc (.cells #[] 5))).alloc (.cells #[.int .i64 0, .int .i64 0, .int .i64 0, .slice none 0 0] 27))) y5 (Value.slice (some ⟨y2.heap.size, 0, none⟩) 0 0).ownBlock := ⟨hg.os, hg.tape, hg.output, hg.size, hg.block⟩
          have hke := Keeps.of_grown hg
          have hown : Own y5 w1.heap.size v9 T := hown
          have hbbl := BX.out.lt
          have BX := Lib.hid (BX.out.of_block (hke.block _ BX.out.lt (fun h => by first | (simp [Value.ownBlock] at h; done) | (have h2 := h; simp only [Value.ownBlock, Option.toList_some, List.mem_singleton] at h2; exact HNE.out h2))))
          have HB := Lib.hid (HB.out.trans (hke.below (B := w1.heap.size) HB.out.size (fun k hk => (hfresh k hk).1)))
          obtain ⟨AV, cV, rfl, lV, kV, _, _, _⟩ := own_plain9 hown
          have VV := Lib.hid hown
          have HVB : Hid (∀ k ∈ (Value.slice AV T.length cV).ownBlock.toList, k ≠ y2.heap.size + 1) := Lib.hid (fun k hk e => by
            rcases hv9 with h | h
            · have h3 : k = y2.heap.size := by rw [h] at hk; simpa [Value.ownBlock] using hk
              exact HNE.out (e.symm.trans h3)
            · have h3 : k = (((((y2).alloc (.cells #[] 5))).alloc (.cells #[.int .i64 0, .int .i64 0, .int .i64 0, .slice none 0 0] 27))).heap.size := by rw [h] at hk; simpa using hk
              have h2 : y2.heap.size + 1 < (((((y2).alloc (.cells #[] 5))).alloc (.cells #[.int .i64 0, .int .i64 0, .int .i64 0, .slice none 0 0] 27))).heap.size := hbbl
              omega)
          clear hbbl
          clear hke hg hown hfresh
          (try go_simp)
          refine hK.out _ _ (by exact ((HB.out.cell (p := ⟨b, off, none⟩) hbl).trans HLx.out)) (fun hHeld => ?_)
          clear hK K
          (try simp only [Act.put, List.setIfInBounds_toArray, List.set_cons_zero, List.set_cons_succ])
          refine wpAnyH_take (i := 12) (oi := ?_) (v := ?_) ?_ ?_ ?_ ?_ ?_ ?_ (by exact hHeld) ?_
          rotate_left 2
          · (simp only [List.getElem?_toArray, List.getElem?_cons_zero, List.getElem?_cons_succ]; try rfl)
          · kernel_rfl
          · kernel_rfl
          · kernel_rfl
          · exact fun _ _ _ h => h
          · refine Or.inl ⟨by rfl, ?_⟩
            (intro V hSV; (try dsimp only at hSV); have q0 := hSV; go_simp; try with_reducible rfl)
          (try simp only [Act.put, List.setIfInBounds_toArray, List.set_cons_zero, List.set_cons_succ])
          have g0 := BX.out.cell 0
          have f0 := BX.out.frozen 0
          have g1 := BX.out.cell 1
          have f1 := BX.out.frozen 1
          have g2 := BX.out.cell 2
          have f2 := BX.out.frozen 2
          have g3 := BX.out.cell 3
          have f3 := BX.out.frozen 3
          have BF : Hid (Blk (((((((((y5).setCell ⟨y2.heap.size + 1, 0, none⟩ (.int .i64 x))).setCell ⟨y2.heap.size + 1, 1, none⟩ (.int .i64 p))).setCell ⟨y2.heap.size + 1, 2, none⟩ (.int .i64 q))).setCell ⟨y2.heap.size + 1, 3, none⟩ (.slice AV T.length cV))) (y2.heap.size + 1) #[.int .i64 x, .int .i64 p, .int .i64 q, .slice AV T.length cV] 27) := Lib.hid (by simpa using ((((BX.out.set 0 (.int .i64 x)).set 1 (.int .i64 p)).set 2 (.int .i64 q)).set 3 (.slice AV T.length cV)))
          have HBF : Hid (Below w1.heap.size w1 (((((((((y5).setCell ⟨y2.heap.size + 1, 0, none⟩ (.int .i64 x))).setCell ⟨y2.heap.size + 1, 1, none⟩ (.int .i64 p))).setCell ⟨y2.heap.size + 1, 2, none⟩ (.int .i64 q))).setCell ⟨y2.heap.size + 1, 3, none⟩ (.slice AV T.length cV)))) := Lib.hid ((((HB.out.setCell (p := ⟨y2.heap.size + 1, 0, none⟩) HLO.out (.int .i64 x)).setCell (p := ⟨y2.heap.size + 1, 1, none⟩) HLO.out (.int .i64 p)).setCell (p := ⟨y2.heap.size + 1, 2, none⟩) HLO.out (.int .i64 q)).setCell (p := ⟨y2.heap.size + 1, 3, none⟩) HLO.out (.slice AV T.length cV))
          have VF : Hid (Own (((((((((y5).setCell ⟨y2.heap.size + 1, 0, none⟩ (.int .i64 x))).setCell ⟨y2.heap.size + 1, 1, none⟩ (.int .i64 p))).setCell ⟨y2.heap.size + 1, 2, none⟩ (.int .i64 q))).setCell ⟨y2.heap.size + 1, 3, none⟩ (.slice AV T.length cV))) w1.heap.size (.slice AV T.length cV) T) := Lib.hid ((((VV.out.heap (fun k hk => Below.heap_setCell _ ⟨y2.heap.size + 1, 0, none⟩ (.int .i64 x) k (fun e => HVB.out k hk e))).heap (fun k hk => Below.heap_setCell _ ⟨y2.heap.size + 1, 1, none⟩ (.int .i64 p) k (fun e => HVB.out k hk e))).heap (fun k hk => Below.heap_setCell _ ⟨y2.heap.size + 1, 2, none⟩ (.int .i64 q) k (fun e => HVB.out k hk e))).heap (fun k hk => Below.heap_setCell _ ⟨y2.heap.size + 1, 3, none⟩ (.slice AV T.length cV) k (fun e => HVB.out k hk e)))
          have HB := HBF
          refine wpAnyH_ready (rs := [14]) (by kernel_rfl) (by simp) ?_
          refine AllReadyH.cons (o := ?_) ?_ (fun K hK => ?_) AllReadyH.nil
          rotate_left 1
          · (simp only [List.getElem?_toArray, List.getElem?_cons_zero, List.getElem?_cons_succ]; try rfl)
          go_simp
          refine hK.out _ _ (by exact ((HB.out.cell (p := ⟨b, off, none⟩) hbl).trans HLx.out)) (fun hHeld => ?_)
          clear hK K
          (try simp only [Act.put, List.setIfInBounds_toArray, List.set_cons_zero, List.set_cons_succ])
          refine wpAnyH_done (by kernel_rfl) ?_ _
          refine NoPanic.normal ?_
          go_wp2_with fail
          go_meet
          exact ⟨y2.heap.size + 1, AV, cV, rfl, BF.out, VF.out, HLO.out, HBF.out⟩
        refine AllReadyH.cons (o := ?_) ?_ (fun K hK => ?_) AllReadyH.nil
        rotate_left 1
        · (simp only [List.getElem?_toArray, List.getElem?_cons_zero, List.getElem?_cons_succ]; try rfl)
        have hbA := (Below.refl (y2).heap.size (y2)).alloc (Nat.le_refl _) (.cells #[.int .i64 0, .int .i64 0, .int .i64 0, .slice none 0 0] 27)
        have hBX : Blk ((y2).alloc (.cells #[.int .i64 0, .int .i64 0, .int .i64 0, .slice none 0 0] 27)) (y2.heap.size) #[.int .i64 0, .int .i64 0, .int .i64 0, .slice none 0 0] 27 := by
          have h := Blk.new (y2) #[.int .i64 0, .int .i64 0, .int .i64 0, .slice none 0 0] 27
          first | exact h | simpa using h
        have BX := Lib.hid hBX
        have HLO : Hid (w1.heap.size ≤ y2.heap.size) := Lib.hid (by have h := HB.out.size; first | exact h | (simp; done) | (simp at h ⊢; omega))
        clear hBX
        have HB := Lib.hid (HB.out.trans (hbA.mono HB.out.size))
        clear hbA
        go_simp
        refine hK.out _ _ (by exact ((HB.out.cell (p := ⟨b, off, none⟩) hbl).trans HLx.out)) (fun hHeld => ?_)
        clear hK K
        (try simp only [Act.put, List.setIfInBounds_toArray, List.set_cons_zero, List.set_cons_succ])
        refine wpAnyH_ready (rs := [8]) (by kernel_rfl) (by simp) ?_
        refine AllReadyH.cons (o := ?_) ?_ (fun K hK => ?_) AllReadyH.nil
        rotate_left 1
        · (simp only [List.getElem?_toArray, List.getElem?_cons_zero, List.getElem?_cons_succ]; try rfl)
        have hbA := (Below.refl (((y2).alloc (.cells #[.int .i64 0, .int .i64 0, .int .i64 0, .slice none 0 0] 27))).heap.size (((y2).alloc (.cells #[.int .i64 0, .int .i64 0, .int .i64 0, .slice none 0 0] 27)))).alloc (Nat.le_refl _) (.cells #[] 5)
        have hE0 : Own ((((y2).alloc (.cells #[.int .i64 0, .int .i64 0, .int .i64 0, .slice none 0 0] 27))).alloc (.cells #[] 5)) w1.heap.size (.slice (some ⟨y2.heap.size + 1, 0, none⟩) 0 0) [] := by
          have h := Own.mono (show Own ((((y2).alloc (.cells #[.int .i64 0, .int .i64 0, .int .i64 0, .slice none 0 0] 27))).alloc (.cells #[] 5)) (((y2).alloc (.cells #[.int .i64 0, .int .i64 0, .int .i64 0, .slice none 0 0] 27))).heap.size (.slice (some ⟨(((y2).alloc (.cells #[.int .i64 0, .int .i64 0, .int .i64 0, .slice none 0 0] 27))).heap.size, 0, none⟩) 0 0) [] from Own.new (((y2).alloc (.cells #[.int .i64 0, .int .i64 0, .int .i64 0, .slice none 0 0] 27))) [] (by simp [maxLen])) (show w1.heap.size ≤ (((y2).alloc (.cells #[.int .i64 0, .int .i64 0, .int .i64 0, .slice none 0 0] 27))).heap.size from HB.out.size)
          first | exact h | simpa using h
        have E0 := Lib.hid hE0
        clear hE0
        have HNE : Hid (y2.heap.size ≠ y2.heap.size + 1) := Lib.hid (Nat.ne_of_lt (by have h := BX.out.lt; first | exact h | (simp; done) | (simp at h ⊢; omega)))
        have HB := Lib.hid (HB.out.trans (hbA.mono HB.out.size))
        have BX := Lib.hid (BX.out.below hbA)
        clear hbA
        go_simp
        refine hK.out _ _ (by exact ((HB.out.cell (p := ⟨b, off, none⟩) hbl).trans HLx.out)) (fun hHeld => ?_)
        clear hK K
        (try simp only [Act.put, List.setIfInBounds_toArray, List.set_cons_zero, List.set_cons_succ])
        refine wpAnyH_ready (rs := [11]) (by kernel_rfl) (by simp) ?_
        refine AllReadyH.cons (o := ?_) ?_ (fun K hK => ?_) AllReadyH.nil
        rotate_left 1
        · (simp only [List.getElem?_toArray, List.getElem?_cons_zero, List.getElem?_cons_succ]; try rfl)
        have hfresh := E0.out.range
        refine step_app_bytes9 rfl (.tmp 17) (.tmp 19) rfl _ (Value.slice (some ⟨y2.heap.size + 1, 0, none⟩) 0 0) [] T D N rc rfl rfl HN.out (by exact E0.out) (by exact HS.out.below HB.out) (by simp; omega) (by exact HB.out.size) ?_
        intro v9 y7 hown hg hv9
        have hg : World.grownBy (((((y2).alloc (.cells #[.int .i64 0, .int .i64 0, .int .i64 0, .slice none 0 0] 27))).alloc (.cells #[] 5))) y7 (Value.slice (some ⟨y2.heap.size + 1, 0, none⟩) 0 0).ownBlock := ⟨hg.os, hg.tape, hg.output, hg.size, hg.block⟩
        have hke := Keeps.of_grown hg
        have hown : Own y7 w1.heap.size v9 T := hown
        have hbbl := BX.out.lt
        have BX := Lib.hid (BX.out.of_block (hke.block _ BX.out.lt (fun h => by first | (simp [Value.ownBlock] at h; done) | (have h2 := h; simp only [Value.ownBlock, Option.toList_some, List.mem_singleton] at h2; exact HNE.out h2))))
        have HB := Lib.hid (HB.out.trans (hke.below (B := w1.heap.size) HB.out.size (fun k hk => (hfresh k hk).1)))
        obtain ⟨AV, cV, rfl, lV, kV, _, _, _⟩ := own_plain9 hown
        have VV := Lib.hid hown
        have HVB : Hid (∀ k ∈ (Value.slice AV T.length cV).ownBlock.toList, k ≠ y2.heap.size) := Lib.hid (fun k hk e => by
          rcases hv9 with h | h
          · have h3 : k = y2.heap.size + 1 := by rw [h] at hk; simpa [Value.ownBlock] using hk
            exact HNE.out (e.symm.trans h3)
          · have h3 : k = (((((y2).alloc (.cells #[.int .i64 0, .int .i64 0, .int .i64 0, .slice none 0 0] 27))).alloc (.cells #[] 5))).heap.size := by rw [h] at hk; simpa using hk
            have h2 : y2.heap.size < (((((y2).alloc (.cells #[.int .i64 0, .int .i64 0, .int .i64 0, .slice none 0 0] 27))).alloc (.cells #[] 5))).heap.size := hbbl
            omega)
        clear hbbl
        clear hke hg hown hfresh
        (try go_simp)
        refine hK.out _ _ (by exact ((HB.out.cell (p := ⟨b, off, none⟩) hbl).trans HLx.out)) (fun hHeld => ?_)
        clear hK K
        (try simp only [Act.put, List.setIfInBounds_toArray, List.set_cons_zero, List.set_cons_succ])
        refine wpAnyH_take (i := 12) (oi := ?_) (v := ?_) ?_ ?_ ?_ ?_ ?_ ?_ (by exact hHeld) ?_
        rotate_left 2
        · (simp only [List.getElem?_toArray, List.getElem?_cons_zero, List.getElem?_cons_succ]; try rfl)
        · kernel_rfl
        · kernel_rfl
        · kernel_rfl
        · exact fun _ _ _ h => h
        · refine Or.inl ⟨by rfl, ?_⟩
          (intro V hSV; (try dsimp only at hSV); have q0 := hSV; go_simp; try with_reducible rfl)
        (try simp only [Act.put, List.setIfInBounds_toArray, List.set_cons_zero, List.set_cons_succ])
        have g0 := BX.out.cell 0
        have f0 := BX.out.frozen 0
        have g1 := BX.out.cell 1
        have f1 := BX.out.frozen 1
        have g2 := BX.out.cell 2
        have f2 := BX.out.frozen 2
        have g3 := BX.out.cell 3
        have f3 := BX.out.frozen 3
        have BF : Hid (Blk (((((((((y7).setCell ⟨y2.heap.size, 0, none⟩ (.int .i64 x))).setCell ⟨y2.heap.size, 1, none⟩ (.int .i64 p))).setCell ⟨y2.heap.size, 2, none⟩ (.int .i64 q))).setCell ⟨y2.heap.size, 3, none⟩ (.slice AV T.length cV))) (y2.heap.size) #[.int .i64 x, .int .i64 p, .int .i64 q, .slice AV T.length cV] 27) := Lib.hid (by simpa using ((((BX.out.set 0 (.int .i64 x)).set 1 (.int .i64 p)).set 2 (.int .i64 q)).set 3 (.slice AV T.length cV)))
        have HBF : Hid (Below w1.heap.size w1 (((((((((y7).setCell ⟨y2.heap.size, 0, none⟩ (.int .i64 x))).setCell ⟨y2.heap.size, 1, none⟩ (.int .i64 p))).setCell ⟨y2.heap.size, 2, none⟩ (.int .i64 q))).setCell ⟨y2.heap.size, 3, none⟩ (.slice AV T.length cV)))) := Lib.hid ((((HB.out.setCell (p := ⟨y2.heap.size, 0, none⟩) HLO.out (.int .i64 x)).setCell (p := ⟨y2.heap.size, 1, none⟩) HLO.out (.int .i64 p)).setCell (p := ⟨y2.heap.size, 2, none⟩) HLO.out (.int .i64 q)).setCell (p := ⟨y2.heap.size, 3, none⟩) HLO.out (.slice AV T.length cV))
        have VF : Hid (Own (((((((((y7).setCell ⟨y2.heap.size, 0, none⟩ (.int .i64 x))).setCell ⟨y2.heap.size, 1, none⟩ (.int .i64 p))).setCell ⟨y2.heap.size, 2, none⟩ (.int .i64 q))).setCell ⟨y2.heap.size, 3, none⟩ (.slice AV T.length cV))) w1.heap.size (.slice AV T.length cV) T) := Lib.hid ((((VV.out.heap (fun k hk => Below.heap_setCell _ ⟨y2.heap.size, 0, none⟩ (.int .i64 x) k (fun e => HVB.out k hk e))).heap (fun k hk => Below.heap_setCell _ ⟨y2.heap.size, 1, none⟩ (.int .i64 p) k (fun e => HVB.out k hk e))).heap (fun k hk => Below.heap_setCell _ ⟨y2.heap.size, 2, none⟩ (.int .i64 q) k (fun e => HVB.out k hk e))).heap (fun k hk => Below.heap_setCell _ ⟨y2.heap.size, 3, none⟩ (.slice AV T.length cV) k (fun e => HVB.out k hk e)))
        have HB := HBF
        refine wpAnyH_ready (rs := [14]) (by kernel_rfl) (by simp) ?_
        refine AllReadyH.cons (o := ?_) ?_ (fun K hK => ?_) AllReadyH.nil
        rotate_left 1
        · (simp only [List.getElem?_toArray, List.getElem?_cons_zero, List.getElem?_cons_succ]; try rfl)
        go_simp
        refine hK.out _ _ (by exact ((HB.out.cell (p := ⟨b, off, none⟩) hbl).trans HLx.out)) (fun hHeld => ?_)
        clear hK K
        (try simp only [Act.put, List.setIfInBounds_toArray, List.set_cons_zero, List.set_cons_succ])
        refine wpAnyH_done (by kernel_rfl) ?_ _
        refine NoPanic.normal ?_
        go_wp2_with fail
        go_meet
        exact ⟨y2.heap.size, AV, cV, rfl, BF.out, VF.out, HLO.out, HBF.out⟩
      refine AllReadyH.cons (o := ?_) ?_ (fun K hK => ?_) ?_
      rotate_left 1
      · (simp only [List.getElem?_toArray, List.getElem?_cons_zero, List.getElem?_cons_succ]; try rfl)
      · have hbA := (Below.refl (y1).heap.size (y1)).alloc (Nat.le_refl _) (.cells #[] 5)
        have hE0 : Own ((y1).alloc (.cells #[] 5)) w1.heap.size (.slice (some ⟨y1.heap.size, 0, none⟩) 0 0) [] := by
          have h := Own.mono (show Own ((y1).alloc (.cells #[] 5)) (y1).heap.size (.slice (some ⟨(y1).heap.size, 0, none⟩) 0 0) [] from Own.new (y1) [] (by simp [maxLen])) (show w1.heap.size ≤ (y1).heap.size from HB.out.size)
          first | exact h | simpa using h
        have E0 := Lib.hid hE0
        clear hE0
        have HB := Lib.hid (HB.out.trans (hbA.mono HB.out.size))
        clear hbA
        go_simp
        refine hK.out _ _ (by exact ((HB.out.cell (p := ⟨b, off, none⟩) hbl).trans HLx.out)) (fun hHeld => ?_)
        clear hK K
        (try simp only [Act.put, List.setIfInBounds_toArray, List.set_cons_zero, List.set_cons_succ])
        refine wpAnyH_ready (rs := [7, 13]) (by kernel_rfl) (by simp) ?_
        refine AllReadyH.cons (o := ?_) ?_ (fun K hK => ?_) ?_
        rotate_left 1
        · (simp only [List.getElem?_toArray, List.getElem?_cons_zero, List.getElem?_cons_succ]; try rfl)
        · go_simp
          refine (l09At_any (some ⟨b, off, none⟩) l c 3 _ hn9 (by omega) (by exact hA.below HB.out)).mono ?_
          rintro e y9 ⟨rfl, hE⟩
          have hb : Below (((y1).alloc (.cells #[] 5))).heap.size (((y1).alloc (.cells #[] 5))) y9 := by obtain ⟨n, rfl⟩ := hE; exact below_of_drewN _ n
          rw [HWq.out]
          have HB := Lib.hid (HB.out.trans (hb.mono HB.out.size))
          have E0 := Lib.hid (E0.out.below hb)
          clear hb hE
          go_wp2_with fail
          refine hK.out _ _ (by exact ((HB.out.cell (p := ⟨b, off, none⟩) hbl).trans HLx.out)) (fun hHeld => ?_)
          clear hK K
          (try simp only [Act.put, List.setIfInBounds_toArray, List.set_cons_zero, List.set_cons_succ])
          refine wpAnyH_ready (rs := [11, 13]) (by kernel_rfl) (by simp) ?_
          refine AllReadyH.cons (o := ?_) ?_ (fun K hK => ?_) ?_
          rotate_left 1
          · (simp only [List.getElem?_toArray, List.getElem?_cons_zero, List.getElem?_cons_succ]; try rfl)
          · have hfresh := E0.out.range
            refine step_app_bytes9 rfl (.tmp 17) (.tmp 19) rfl _ (Value.slice (some ⟨y1.heap.size, 0, none⟩) 0 0) [] T D N rc rfl rfl HN.out (by exact E0.out) (by exact HS.out.below HB.out) (by simp; omega) (by exact HB.out.size) ?_
            intro v9 y10 hown hg hv9
            have hg : World.grownBy (y9) y10 (Value.slice (some ⟨y1.heap.size, 0, none⟩) 0 0).ownBlock := ⟨hg.os, hg.tape, hg.output, hg.size, hg.block⟩
            have hke := Keeps.of_grown hg
            have hown : Own y10 w1.heap.size v9 T := hown
            have HB := Lib.hid (HB.out.trans (hke.below (B := w1.heap.size) HB.out.size (fun k hk => (hfresh k hk).1)))
            obtain ⟨AV, cV, rfl, lV, kV, _, _, _⟩ := own_plain9 hown
            have VV := Lib.hid hown
            clear hke hg hown hfresh
            (try go_simp)
            refine hK.out _ _ (by exact ((HB.out.cell (p := ⟨b, off, none⟩) hbl).trans HLx.out)) (fun hHeld => ?_)
            clear hK K
            (try simp only [Act.put, List.setIfInBounds_toArray, List.set_cons_zero, List.set_cons_succ])
            refine wpAnyH_take (i := 12) (oi := ?_) (v := ?_) ?_ ?_ ?_ ?_ ?_ ?_ (by exact hHeld) ?_
            rotate_left 2
            · (simp only [List.getElem?_toArray, List.getElem?_cons_zero, List.getElem?_cons_succ]; try rfl)
            · kernel_rfl
            · kernel_rfl
            · kernel_rfl
            · exact fun _ _ _ h => h
            · refine Or.inl ⟨by rfl, ?_⟩
              (intro V hSV; (try dsimp only at hSV); have q0 := hSV; go_simp; try with_reducible rfl)
            (try simp only [Act.put, List.setIfInBounds_toArray, List.set_cons_zero, List.set_cons_succ])
            refine wpAnyH_ready (rs := [13]) (by kernel_rfl) (by simp) ?_
            refine AllReadyH.cons (o := ?_) ?_ (fun K hK => ?_) AllReadyH.nil
            rotate_left 1
            · (simp only [List.getElem?_toArray, List.getElem?_cons_zero, List.getElem?_cons_succ]; try rfl)
            have HB0 := HB
            have VV0 := VV
            have hbA := (Below.refl (y10).heap.size (y10)).alloc (Nat.le_refl _) (.cells #[.int .i64 0, .int .i64 0, .int .i64 0, .slice none 0 0] 27)
            have hBX : Blk ((y10).alloc (.cells #[.int .i64 0, .int .i64 0, .int .i64 0, .slice none 0 0] 27)) (y10.heap.size) #[.int .i64 0, .int .i64 0, .int .i64 0, .slice none 0 0] 27 := by
              have h := Blk.new (y10) #[.int .i64 0, .int .i64 0, .int .i64 0, .slice none 0 0] 27
              first | exact h | simpa using h
            have BX := Lib.hid hBX
            have HLO : Hid (w1.heap.size ≤ y10.heap.size) := Lib.hid (by have h := HB.out.size; first | exact h | (simp; done) | (simp at h ⊢; omega))
            clear hBX
            have HVB : Hid (∀ k ∈ (Value.slice AV T.length cV).ownBlock.toList, k ≠ y10.heap.size) := Lib.hid (fun k hk e => by have h := (VV.out.range k hk).2; (try simp at h); omega)
            have HB := Lib.hid (HB.out.trans (hbA.mono HB.out.size))
            have VV := Lib.hid (VV.out.below hbA)
            clear hbA
            go_simp
            refine hK.out _ _ (by exact ((HB.out.cell (p := ⟨b, off, none⟩) hbl).trans HLx.out)) (fun hHeld => ?_)
            clear hK K
            (try simp only [Act.put, List.setIfInBounds_toArray, List.set_cons_zero, List.set_cons_succ])
            have hbF := (Below.refl (y10).heap.size (y10)).alloc (Nat.le_refl _) (.cells #[.int .i64 x, .int .i64 p, .int .i64 q, .slice AV T.length cV] 27)
            have hBF : Blk (((y10).alloc (.cells #[.int .i64 x, .int .i64 p, .int .i64 q, .slice AV T.length cV] 27))) (y10.heap.size) #[.int .i64 x, .int .i64 p, .int .i64 q, .slice AV T.length cV] 27 := by
              have h := Blk.new (y10) #[.int .i64 x, .int .i64 p, .int .i64 q, .slice AV T.length cV] 27
              first | exact h | simpa using h
            have BF := Lib.hid hBF
            have VF := Lib.hid (VV0.out.below hbF)
            have HBF := Lib.hid (HB0.out.trans (hbF.mono HB0.out.size))
            have HB := HBF
            clear hbF hBF
            refine wpAnyH_ready (rs := [14]) (by kernel_rfl) (by simp) ?_
            refine AllReadyH.cons (o := ?_) ?_ (fun K hK => ?_) AllReadyH.nil
            rotate_left 1
            · (simp only [List.getElem?_toArray, List.getElem?_cons_zero, List.getElem?_cons_succ]; try rfl)
            go_simp
            refine hK.out _ _ (by exact ((HB.out.cell (p := ⟨b, off, none⟩) hbl).trans HLx.out)) (fun hHeld => ?_)
            clear hK K
            (try simp only [Act.put, List.setIfInBounds_toArray, List.set_cons_zero, List.set_cons_succ])
            refine wpAnyH_done (by kernel_rfl) ?_ _
            refine NoPanic.normal ?_
            go_wp2_with fail
            go_meet
            exact ⟨y10.heap.size, AV, cV, rfl, BF.out, VF.out, HLO.out, HBF.out⟩
          refine AllReadyH.cons (o := ?_) ?_ (fun K hK => ?_) AllReadyH.nil
          rotate_left 1
          · (simp only [List.getElem?_toArray, List.getElem?_cons_zero, List.getElem?_cons_succ]; try rfl)
          have hbA := (Below.refl (y9).heap.size (y9)).alloc (Nat.le_refl _) (.cells #[.int .i64 0, .int .i64 0, .int .i64 0, .slice none 0 0] 27)
          have hBX : Blk ((y9).alloc (.cells #[.int .i64 0, .int .i64 0, .int .i64 0, .slice none 0 0] 27)) (y9.heap.size) #[.int .i64 0, .int .i64 0, .int .i64 0, .slice none 0 0] 27 := by
            have h := Blk.new (y9) #[.int .i64 0, .int .i64 0, .int .i64 0, .slice none 0 0] 27
            first | exact h | simpa using h
          have BX := Lib.hid hBX
          have HLO : Hid (w1.heap.size ≤ y9.heap.size) := Lib.hid (by have h := HB.out.size; first | exact h | (simp; done) | (simp at h ⊢; omega))
          clear hBX
          have HNE : Hid (y9.heap.size ≠ y1.heap.size) := Lib.hid (Nat.ne_of_gt (by have h := (E0.out.range (y1.heap.size) (by simp [Value.ownBlock])).2; first | exact h | (simp; done) | (simp at h ⊢; omega)))
          have HB := Lib.hid (HB.out.trans (hbA.mono HB.out.size))
          have E0 := Lib.hid (E0.out.below hbA)
          clear hbA
          go_simp
          refine hK.out _ _ (by exact ((HB.out.cell (p := ⟨b, off, none⟩) hbl).trans HLx.out)) (fun hHeld => ?_)
          clear hK K
          (try simp only [Act.put, List.setIfInBounds_toArray, List.set_cons_zero, List.set_cons_succ])
          refine wpAnyH_ready (rs := [11]) (by kernel_rfl) (by simp) ?_
          refine AllReadyH.cons (o := ?_) ?_ (fun K hK => ?_) AllReadyH.nil
          rotate_left 1
          · (simp only [List.getElem?_toArray, List.getElem?_cons_zero, List.getElem?_cons_succ]; try rfl)
          have hfresh := E0.out.range
          refine step_app_bytes9 rfl (.tmp 17) (.tmp 19) rfl _ (Value.slice (some ⟨y1.heap.size, 0, none⟩) 0 0) [] T D N rc rfl rfl HN.out (by exact E0.out) (by exact HS.out.below HB.out) (by simp; omega) (by exact HB.out.size) ?_
          intro v9 y11 hown hg hv9
          have hg : World.grownBy (((y9).alloc (.cells #[.int .i64 0, .int .i64 0, .int .i64 0, .slice none 0 0] 27))) y11 (Value.slice (some ⟨y1.heap.size, 0, none⟩) 0 0).ownBlock := ⟨hg.os, hg.tape, hg.output, hg.size, hg.block⟩
          have hke := Keeps.of_grown hg
          have hown : Own y11 w1.heap.size v9 T := hown
          have hbbl := BX.out.lt
          have BX := Lib.hid (BX.out.of_block (hke.block _ BX.out.lt (fun h => by first | (simp [Value.ownBlock] at h; done) | (have h2 := h; simp only [Value.ownBlock, Option.toList_some, List.mem_singleton] at h2; exact HNE.out h2))))
          have HB := Lib.hid (HB.out.trans (hke.below (B := w1.heap.size) HB.out.size (fun k hk => (hfresh k hk).1)))
          obtain ⟨AV, cV, rfl, lV, kV, _, _, _⟩ := own_plain9 hown
          have VV := Lib.hid hown
          have HVB : Hid (∀ k ∈ (Value.slice AV T.length cV).ownBlock.toList, k ≠ y9.heap.size) := Lib.hid (fun k hk e => by
            rcases hv9 with h | h
            · have h3 : k = y1.heap.size := by rw [h] at hk; simpa [Value.ownBlock] using hk
              exact HNE.out (e.symm.trans h3)
            · have h3 : k = (((y9).alloc (.cells #[.int .i64 0, .int .i64 0, .int .i64 0, .slice none 0 0] 27))).heap.size := by rw [h] at hk; simpa using hk
              have h2 : y9.heap.size < (((y9).alloc (.cells #[.int .i64 0, .int .i64 0, .int .i64 0, .slice none 0 0] 27))).heap.size := hbbl
              omega)
          clear hbbl
          clear hke hg hown hfresh
          (try go_simp)
          refine hK.out _ _ (by exact ((HB.out.cell (p := ⟨b, off, none⟩) hbl).trans HLx.out)) (fun hHeld => ?_)
          clear hK K
          (try simp only [Act.put, List.setIfInBounds_toArray, List.set_cons_zero, List.set_cons_succ])
          refine wpAnyH_take (i := 12) (oi := ?_) (v := ?_) ?_ ?_ ?_ ?_ ?_ ?_ (by exact hHeld) ?_
          rotate_left 2
          · (simp only [List.getElem?_toArray, List.getElem?_cons_zero, List.getElem?_cons_succ]; try rfl)
          · kernel_rfl
          · kernel_rfl
          · kernel_rfl
          · exact fun _ _ _ h => h
          · refine Or.inl ⟨by rfl, ?_⟩
            (intro V hSV; (try dsimp only at hSV); have q0 := hSV; go_simp; try with_reducible rfl)
          (try simp only [Act.put, List.setIfInBounds_toArray, List.set_cons_zero, List.set_cons_succ])
          have g0 := BX.out.cell 0
          have f0 := BX.out.frozen 0
          have g1 := BX.out.cell 1
          have f1 := BX.out.frozen 1
          have g2 := BX.out.cell 2
          have f2 := BX.out.frozen 2
          have g3 := BX.out.cell 3
          have f3 := BX.out.frozen 3
          have BF : Hid (Blk (((((((((y11).setCell ⟨y9.heap.size, 0, none⟩ (.int .i64 x))).setCell ⟨y9.heap.size, 1, none⟩ (.int .i64 p))).setCell ⟨y9.heap.size, 2, none⟩ (.int .i64 q))).setCell ⟨y9.heap.size, 3, none⟩ (.slice AV T.length cV))) (y9.heap.size) #[.int .i64 x, .int .i64 p, .int .i64 q, .slice AV T.length cV] 27) := Lib.hid (by simpa using ((((BX.out.set 0 (.int .i64 x)).set 1 (.int .i64 p)).set 2 (.int .i64 q)).set 3 (.slice AV T.length cV)))
          have HBF : Hid (Below w1.heap.size w1 (((((((((y11).setCell ⟨y9.heap.size, 0, none⟩ (.int .i64 x))).setCell ⟨y9.heap.size, 1, none⟩ (.int .i64 p))).setCell ⟨y9.heap.size, 2, none⟩ (.int .i64 q))).setCell ⟨y9.heap.size, 3, none⟩ (.slice AV T.length cV)))) := Lib.hid ((((HB.out.setCell (p := ⟨y9.heap.size, 0, none⟩) HLO.out (.int .i64 x)).setCell (p := ⟨y9.heap.size, 1, none⟩) HLO.out (.int .i64 p)).setCell (p := ⟨y9.heap.size, 2, none⟩) HLO.out (.int .i64 q)).setCell (p := ⟨y9.heap.size, 3, none⟩) HLO.out (.slice AV T.length cV))
          have VF : Hid (Own (((((((((y11).setCell ⟨y9.heap.size, 0, none⟩ (.int .i64 x))).setCell ⟨y9.heap.size, 1, none⟩ (.int .i64 p))).setCell ⟨y9.heap.size, 2, none⟩ (.int .i64 q))).setCell ⟨y9.heap.size, 3, none⟩ (.slice AV T.length cV))) w1.heap.size (.slice AV T.length cV) T) := Lib.hid ((((VV.out.heap (fun k hk => Below.heap_setCell _ ⟨y9.heap.size, 0, none⟩ (.int .i64 x) k (fun e => HVB.out k hk e))).heap (fun k hk => Below.heap_setCell _ ⟨y9.heap.size, 1, none⟩ (.int .i64 p) k (fun e => HVB.out k hk e))).heap (fun k hk => Below.heap_setCell _ ⟨y9.heap.size, 2, none⟩ (.int .i64 q) k (fun e => HVB.out k hk e))).heap (fun k hk => Below.heap_setCell _ ⟨y9.heap.size, 3, none⟩ (.slice AV T.length cV) k (fun e => HVB.out k hk e)))
          have HB := HBF
          refine wpAnyH_ready (rs := [14]) (by kernel_rfl) (by simp) ?_
          refine AllReadyH.cons (o := ?_) ?_ (fun K hK => ?_) AllReadyH.nil
          rotate_left 1
          · (simp only [List.getElem?_toArray, List.getElem?_cons_zero, List.getElem?_cons_succ]; try rfl)
          go_simp
          refine hK.out _ _ (by exact ((HB.out.cell (p := ⟨b, off, none⟩) hbl).trans HLx.out)) (fun hHeld => ?_)
          clear hK K
          (try simp only [Act.put, List.setIfInBounds_toArray, List.set_cons_zero, List.set_cons_succ])
          refine wpAnyH_done (by kernel_rfl) ?_ _
          refine NoPanic.normal ?_
          go_wp2_with fail
          go_meet
          exact ⟨y9.heap.size, AV, cV, rfl, BF.out, VF.out, HLO.out, HBF.out⟩
        refine AllReadyH.cons (o := ?_) ?_ (fun K hK => ?_) AllReadyH.nil
        rotate_left 1
        · (simp only [List.getElem?_toArray, List.getElem?_cons_zero, List.getElem?_cons_succ]; try rfl)
        have hbA := (Below.refl (((y1).alloc (.cells #[] 5))).heap.size (((y1).alloc (.cells #[] 5)))).alloc (Nat.le_refl _) (.cells #[.int .i64 0, .int .i64 0, .int .i64 0, .slice none 0 0] 27)
        have hBX : Blk ((((y1).alloc (.cells #[] 5))).alloc (.cells #[.int .i64 0, .int .i64 0, .int .i64 0, .slice none 0 0] 27)) (y1.heap.size + 1) #[.int .i64 0, .int .i64 0, .int .i64 0, .slice none 0 0] 27 := by
          have h := Blk.new (((y1).alloc (.cells #[] 5))) #[.int .i64 0, .int .i64 0, .int .i64 0, .slice none 0 0] 27
          first | exact h | simpa using h
        have BX := Lib.hid hBX
        have HLO : Hid (w1.heap.size ≤ y1.heap.size + 1) := Lib.hid (by have h := HB.out.size; first | exact h | (simp; done) | (simp at h ⊢; omega))
        clear hBX
        have HNE : Hid (y1.heap.size + 1 ≠ y1.heap.size) := Lib.hid (Nat.ne_of_gt (by have h := (E0.out.range (y1.heap.size) (by simp [Value.ownBlock])).2; first | exact h | (simp; done) | (simp at h ⊢; omega)))
        have HB := Lib.hid (HB.out.trans (hbA.mono HB.out.size))
        have E0 := Lib.hid (E0.out.below hbA)
        clear hbA
        go_simp
        refine hK.out _ _ (by exact ((HB.out.cell (p := ⟨b, off, none⟩) hbl).trans HLx.out)) (fun hHeld => ?_)
        clear hK K
        (try simp only [Act.put, List.setIfInBounds_toArray, List.set_cons_zero, List.set_cons_succ])
        refine wpAnyH_ready (rs := [7]) (by kernel_rfl) (by simp) ?_
        refine AllReadyH.cons (o := ?_) ?_ (fun K hK => ?_) AllReadyH.nil
        rotate_left 1
        · (simp only [List.getElem?_toArray, List.getElem?_cons_zero, List.getElem?_cons_succ]; try rfl)
        go_simp
        refine (l09At_any (some ⟨b, off, none⟩) l c 3 _ hn9 (by omega) (by exact hA.below HB.out)).mono ?_
        rintro e y12 ⟨rfl, hE⟩
        have hb : Below (((((y1).alloc (.cells #[] 5))).alloc (.cells #[.int .i64 0, .int .i64 0, .int .i64 0, .slice none 0 0] 27))).heap.size (((((y1).alloc (.cells #[] 5))).alloc (.cells #[.int .i64 0, .int .i64 0, .int .i64 0, .slice none 0 0] 27))) y12 := by obtain ⟨n, rfl⟩ := hE; exact below_of_drewN _ n
        rw [HWq.out]
        have HB := Lib.hid (HB.out.trans (hb.mono HB.out.size))
        have E0 := Lib.hid (E0.out.below hb)
        have BX := Lib.hid (BX.out.below hb)
        clear hb hE
        go_wp2_with fail
        refine hK.out _ _ (by exact ((HB.out.cell (p := ⟨b, off, none⟩) hbl).trans HLx.out)) (fun hHeld => ?_)
        clear hK K
        (try simp only [Act.put, List.setIfInBounds_toArray, List.set_cons_zero, List.set_cons_succ])
        refine wpAnyH_ready (rs := [11]) (by kernel_rfl) (by simp) ?_
        refine AllReadyH.cons (o := ?_) ?_ (fun K hK => ?_) AllReadyH.nil
        rotate_left 1
        · (simp only [List.getElem?_toArray, List.getElem?_cons_zero, List.getElem?_cons_succ]; try rfl)
        have hfresh := E0.out.range
        refine step_app_bytes9 rfl (.tmp 17) (.tmp 19) rfl _ (Value.slice (some ⟨y1.heap.size, 0, none⟩) 0 0) [] T D N rc rfl rfl HN.out (by exact E0.out) (by exact HS.out.below HB.out) (by simp; omega) (by exact HB.out.size) ?_
        intro v9 y13 hown hg hv9
        have hg : World.grownBy (y12) y13 (Value.slice (some ⟨y1.heap.size, 0, none⟩) 0 0).ownBlock := ⟨hg.os, hg.tape, hg.output, hg.size, hg.block⟩
        have hke := Keeps.of_grown hg
        have hown : Own y13 w1.heap.size v9 T := hown
        have hbbl := BX.out.lt
        have BX := Lib.hid (BX.out.of_block (hke.block _ BX.out.lt (fun h => by first | (simp [Value.ownBlock] at h; done) | (have h2 := h; simp only [Value.ownBlock, Option.toList_some, List.mem_singleton] at h2; exact HNE.out h2))))
        have HB := Lib.hid (HB.out.trans (hke.below (B := w1.heap.size) HB.out.size (fun k hk => (hfresh k hk).1)))
        obtain ⟨AV, cV, rfl, lV, kV, _, _, _⟩ := own_plain9 hown
        have VV := Lib.hid hown
        have HVB : Hid (∀ k ∈ (Value.slice AV T.length cV).ownBlock.toList, k ≠ y1.heap.size + 1) := Lib.hid (fun k hk e => by
          rcases hv9 with h | h
          · have h3 : k = y1.heap.size := by rw [h] at hk; simpa [Value.ownBlock] using hk
            exact HNE.out (e.symm.trans h3)
          · have h3 : k = (y12).heap.size := by rw [h] at hk; simpa using hk
            have h2 : y1.heap.size + 1 < (y12).heap.size := hbbl
            omega)
        clear hbbl
        clear hke hg hown hfresh
        (try go_simp)
        refine hK.out _ _ (by exact ((HB.out.cell (p := ⟨b, off, none⟩) hbl).trans HLx.out)) (fun hHeld => ?_)
        clear hK K
        (try simp only [Act.put, List.setIfInBounds_toArray, List.set_cons_zero, List.set_cons_succ])
        refine wpAnyH_take (i := 12) (oi := ?_) (v := ?_) ?_ ?_ ?_ ?_ ?_ ?_ (by exact hHeld) ?_
        rotate_left 2
        · (simp only [List.getElem?_toArray, List.getElem?_cons_zero, List.getElem?_cons_succ]; try rfl)
        · kernel_rfl
        · kernel_rfl
        · kernel_rfl
        · exact fun _ _ _ h => h
        · refine Or.inl ⟨by rfl, ?_⟩
          (intro V hSV; (try dsimp only at hSV); have q0 := hSV; go_simp; try with_reducible rfl)
        (try simp only [Act.put, List.setIfInBounds_toArray, List.set_cons_zero, List.set_cons_succ])
        have g0 := BX.out.cell 0
        have f0 := BX.out.frozen 0
        have g1 := BX.out.cell 1
        have f1 := BX.out.frozen 1
        have g2 := BX.out.cell 2
        have f2 := BX.out.frozen 2
        have g3 := BX.out.cell 3
        have f3 := BX.out.frozen 3
        have BF : Hid (Blk (((((((((y13).setCell ⟨y1.heap.size + 1, 0, none⟩ (.int .i64 x))).setCell ⟨y1.heap.size + 1, 1, none⟩ (.int .i64 p))).setCell ⟨y1.heap.size + 1, 2, none⟩ (.int .i64 q))).setCell ⟨y1.heap.size + 1, 3, none⟩ (.slice AV T.length cV))) (y1.heap.size + 1) #[.int .i64 x, .int .i64 p, .int .i64 q, .slice AV T.length cV] 27) := Lib.hid (by simpa using ((((BX.out.set 0 (.int .i64 x)).set 1 (.int .i64 p)).set 2 (.int .i64 q)).set 3 (.slice AV T.length cV)))
        have HBF : Hid (Below w1.heap.size w1 (((((((((y13).setCell ⟨y1.heap.size + 1, 0, none⟩ (.int .i64 x))).setCell ⟨y1.heap.size + 1, 1, none⟩ (.int .i64 p))).setCell ⟨y1.heap.size + 1, 2, none⟩ (.int .i64 q))).setCell ⟨y1.heap.size + 1, 3, none⟩ (.slice AV T.length cV)))) := Lib.hid ((((HB.out.setCell (p := ⟨y1.heap.size + 1, 0, none⟩) HLO.out (.int .i64 x)).setCell (p := ⟨y1.heap.size + 1, 1, none⟩) HLO.out (.int .i64 p)).setCell (p := ⟨y1.heap.size + 1, 2, none⟩) HLO.out (.int .i64 q)).setCell (p := ⟨y1.heap.size + 1, 3, none⟩) HLO.out (.slice AV T.length cV))
        have VF : Hid (Own (((((((((y13).setCell ⟨y1.heap.size + 1, 0, none⟩ (.int .i64 x))).setCell ⟨y1.heap.size + 1, 1, none⟩ (.int .i64 p))).setCell ⟨y1.heap.size + 1, 2, none⟩ (.int .i64 q))).setCell ⟨y1.heap.size + 1, 3, none⟩ (.slice AV T.length cV))) w1.heap.size (.slice AV T.length cV) T) := Lib.hid ((((VV.out.heap (fun k hk => Below.heap_setCell _ ⟨y1.heap.size + 1, 0, none⟩ (.int .i64 x) k (fun e => HVB.out k hk e))).heap (fun k hk => Below.heap_setCell _ ⟨y1.heap.size + 1, 1, none⟩ (.int .i64 p) k (fun e => HVB.out k hk e))).heap (fun k hk => Below.heap_setCell _ ⟨y1.heap.size + 1, 2, none⟩ (.int .i64 q) k (fun e => HVB.out k hk e))).heap (fun k hk => Below.heap_setCell _ ⟨y1.heap.size + 1, 3, none⟩ (.slice AV T.length cV) k (fun e => HVB.out k hk e)))
        have HB := HBF
        refine wpAnyH_ready (rs := [14]) (by kernel_rfl) (by simp) ?_
        refine AllReadyH.cons (o := ?_) ?_ (fun K hK => ?_) AllReadyH.nil
        rotate_left 1
        · (simp only [List.getElem?_toArray, List.getElem?_cons_zero, List.getElem?_cons_succ]; try rfl)
        go_simp
        refine hK.out _ _ (by exact ((HB.out.cell (p := ⟨b, off, none⟩) hbl).trans HLx.out)) (fun hHeld => ?_)
        clear hK K
        (try simp only [Act.put, List.setIfInBounds_toArray, List.set_cons_zero, List.set_cons_succ])
        refine wpAnyH_done (by kernel_rfl) ?_ _
        refine NoPanic.normal ?_
        go_wp2_with fail
        go_meet
        exact ⟨y1.heap.size + 1, AV, cV, rfl, BF.out, VF.out, HLO.out, HBF.out⟩
      refine AllReadyH.cons (o := ?_) ?_ (fun K hK => ?_) AllReadyH.nil
      rotate_left 1
      · (simp only [List.getElem?_toArray, List.getElem?_cons_zero, List.getElem?_cons_succ]; try rfl)
      have hbA := (Below.refl (y1).heap.size (y1)).alloc (Nat.le_refl _) (.cells #[.int .i64 0, .int .i64 0, .int .i64 0, .slice none 0 0] 27)
      have hBX : Blk ((y1).alloc (.cells #[.int .i64 0, .int .i64 0, .int .i64 0, .slice none 0 0] 27)) (y1.heap.size) #[.int .i64 0, .int .i64 0, .int .i64 0, .slice none 0 0] 27 := by
        have h := Blk.new (y1) #[.int .i64 0, .int .i64 0, .int .i64 0, .slice none 0 0] 27
        first | exact h | simpa using h
      have BX := Lib.hid hBX
      have HLO : Hid (w1.heap.size ≤ y1.heap.size) := Lib.hid (by have h := HB.out.size; first | exact h | (simp; done) | (simp at h ⊢; omega))
      clear hBX
      have HB := Lib.hid (HB.out.trans (hbA.mono HB.out.size))
      clear hbA
      go_simp
      refine hK.out _ _ (by exact ((HB.out.cell (p := ⟨b, off, none⟩) hbl).trans HLx.out)) (fun hHeld => ?_)
      clear hK K
      (try simp only [Act.put, List.setIfInBounds_toArray, List.set_cons_zero, List.set_cons_succ])
      refine wpAnyH_ready (rs := [7, 8]) (by kernel_rfl) (by simp) ?_
      refine AllReadyH.cons (o := ?_) ?_ (fun K hK => ?_) ?_
      rotate_left 1
      · (simp only [List.getElem?_toArray, List.getElem?_cons_zero, List.getElem?_cons_succ]; try rfl)
      · go_simp
        refine (l09At_any (some ⟨b, off, none⟩) l c 3 _ hn9 (by omega) (by exact hA.below HB.out)).mono ?_
        rintro e y14 ⟨rfl, hE⟩
        have hb : Below (((y1).alloc (.cells #[.int .i64 0, .int .i64 0, .int .i64 0, .slice none 0 0] 27))).heap.size (((y1).alloc (.cells #[.int .i64 0, .int .i64 0, .int .i64 0, .slice none 0 0] 27))) y14 := by obtain ⟨n, rfl⟩ := hE; exact below_of_drewN _ n
        rw [HWq.out]
        have HB := Lib.hid (HB.out.trans (hb.mono HB.out.size))
        have BX := Lib.hid (BX.out.below hb)
        clear hb hE
        go_wp2_with fail
        refine hK.out _ _ (by exact ((HB.out.cell (p := ⟨b, off, none⟩) hbl).trans HLx.out)) (fun hHeld => ?_)
        clear hK K
        (try simp only [Act.put, List.setIfInBounds_toArray, List.set_cons_zero, List.set_cons_succ])
        refine wpAnyH_ready (rs := [8]) (by kernel_rfl) (by simp) ?_
        refine AllReadyH.cons (o := ?_) ?_ (fun K hK => ?_) AllReadyH.nil
        rotate_left 1
        · (simp only [List.getElem?_toArray, List.getElem?_cons_zero, List.getElem?_cons_succ]; try rfl)
        have hbA := (Below.refl (y14).heap.size (y14)).alloc (Nat.le_refl _) (.cells #[] 5)
        have hE0 : Own ((y14).alloc (.cells #[] 5)) w1.heap.size (.slice (some ⟨y14.heap.size, 0, none⟩) 0 0) [] := by
          have h := Own.mono (show Own ((y14).alloc (.cells #[] 5)) (y14).heap.size (.slice (some ⟨(y14).heap.size, 0, none⟩) 0 0) [] from Own.new (y14) [] (by simp [maxLen])) (show w1.heap.size ≤ (y14).heap.size from HB.out.size)
          first | exact h | simpa using h
        have E0 := Lib.hid hE0
        clear hE0
        have HNE : Hid (y1.heap.size ≠ y14.heap.size) := Lib.hid (Nat.ne_of_lt (by have h := BX.out.lt; first | exact h | (simp; done) | (simp at h ⊢; omega)))
        have HB := Lib.hid (HB.out.trans (hbA.mono HB.out.size))
        have BX := Lib.hid (BX.out.below hbA)
        clear hbA
        go_simp
        refine hK.out _ _ (by exact ((HB.out.cell (p := ⟨b, off, none⟩) hbl).trans HLx.out)) (fun hHeld => ?_)
        clear hK K
        (try simp only [Act.put, List.setIfInBounds_toArray, List.set_cons_zero, List.set_cons_succ])
        refine wpAnyH_ready (rs := [11]) (by kernel_rfl) (by simp) ?_
        refine AllReadyH.cons (o := ?_) ?_ (fun K hK => ?_) AllReadyH.nil
        rotate_left 1
        · (simp only [List.getElem?_toArray, List.getElem?_cons_zero, List.getElem?_cons_succ]; try rfl)
        have hfresh := E0.out.range
        refine step_app_bytes9 rfl (.tmp 17) (.tmp 19) rfl _ (Value.slice (some ⟨y14.heap.size, 0, none⟩) 0 0) [] T D N rc rfl rfl HN.out (by exact E0.out) (by exact HS.out.below HB.out) (by simp; omega) (by exact HB.out.size) ?_
        intro v9 y16 hown hg hv9
        have hg : World.grownBy (((y14).alloc (.cells #[] 5))) y16 (Value.slice (some ⟨y14.heap.size, 0, none⟩) 0 0).ownBlock := ⟨hg.os, hg.tape, hg.output, hg.size, hg.block⟩
        have hke := Keeps.of_grown hg
        have hown : Own y16 w1.heap.size v9 T := hown
        have hbbl := BX.out.lt
        have BX := Lib.hid (BX.out.of_block (hke.block _ BX.out.lt (fun h => by first | (simp [Value.ownBlock] at h; done) | (have h2 := h; simp only [Value.ownBlock, Option.toList_some, List.mem_singleton] at h2; exact HNE.out h2))))
        have HB := Lib.hid (HB.out.trans (hke.below (B := w1.heap.size) HB.out.size (fun k hk => (hfresh k hk).1)))
        obtain ⟨AV, cV, rfl, lV, kV, _, _, _⟩ := own_plain9 hown
        have VV := Lib.hid hown
        have HVB : Hid (∀ k ∈ (Value.slice AV T.length cV).ownBlock.toList, k ≠ y1.heap.size) := Lib.hid (fun k hk e => by
          rcases hv9 with h | h
          · have h3 : k = y14.heap.size := by rw [h] at hk; simpa [Value.ownBlock] using hk
            exact HNE.out (e.symm.trans h3)
          · have h3 : k = (((y14).alloc (.cells #[] 5))).heap.size := by rw [h] at hk; simpa using hk
            have h2 : y1.heap.size < (((y14).alloc (.cells #[] 5))).heap.size := hbbl
            omega)
        clear hbbl
        clear hke hg hown hfresh
        (try go_simp)
        refine hK.out _ _ (by exact ((HB.out.cell (p := ⟨b, off, none⟩) hbl).trans HLx.out)) (fun hHeld => ?_)
        clear hK K
        (try simp only [Act.put, List.setIfInBounds_toArray, List.set_cons_zero, List.set_cons_succ])
        refine wpAnyH_take (i := 12) (oi := ?_) (v := ?_) ?_ ?_ ?_ ?_ ?_ ?_ (by exact hHeld) ?_
        rotate_left 2
        · (simp only [List.getElem?_toArray, List.getElem?_cons_zero, List.getElem?_cons_succ]; try rfl)
        · kernel_rfl
        · kernel_rfl
        · kernel_rfl
        · exact fun _ _ _ h => h
        · refine Or.inl ⟨by rfl, ?_⟩
          (intro V hSV; (try dsimp only at hSV); have q0 := hSV; go_simp; try with_reducible rfl)
        (try simp only [Act.put, List.setIfInBounds_toArray, List.set_cons_zero, List.set_cons_succ])
        have g0 := BX.out.cell 0
        have f0 := BX.out.frozen 0
        have g1 := BX.out.cell 1
        have f1 := BX.out.frozen 1
        have g2 := BX.out.cell 2
        have f2 := BX.out.frozen 2
        have g3 := BX.out.cell 3
        have f3 := BX.out.frozen 3
        have BF : Hid (Blk (((((((((y16).setCell ⟨y1.heap.size, 0, none⟩ (.int .i64 x))).setCell ⟨y1.heap.size, 1, none⟩ (.int .i64 p))).setCell ⟨y1.heap.size, 2, none⟩ (.int .i64 q))).setCell ⟨y1.heap.size, 3, none⟩ (.slice AV T.length cV))) (y1.heap.size) #[.int .i64 x, .int .i64 p, .int .i64 q, .slice AV T.length cV] 27) := Lib.hid (by simpa using ((((BX.out.set 0 (.int .i64 x)).set 1 (.int .i64 p)).set 2 (.int .i64 q)).set 3 (.slice AV T.length cV)))
        have HBF : Hid (Below w1.heap.size w1 (((((((((y16).setCell ⟨y1.heap.size, 0, none⟩ (.int .i64 x))).setCell ⟨y1.heap.size, 1, none⟩ (.int .i64 p))).setCell ⟨y1.heap.size, 2, none⟩ (.int .i64 q))).setCell ⟨y1.heap.size, 3, none⟩ (.slice AV T.length cV)))) := Lib.hid ((((HB.out.setCell (p := ⟨y1.heap.size, 0, none⟩) HLO.out (.int .i64 x)).setCell (p := ⟨y1.heap.size, 1, none⟩) HLO.out (.int .i64 p)).setCell (p := ⟨y1.heap.size, 2, none⟩) HLO.out (.int .i64 q)).setCell (p := ⟨y1.heap.size, 3, none⟩) HLO.out (.slice AV T.length cV))
        have VF : Hid (Own (((((((((y16).setCell ⟨y1.heap.size, 0, none⟩ (.int .i64 x))).setCell ⟨y1.heap.size, 1, none⟩ (.int .i64 p))).setCell ⟨y1.heap.size, 2, none⟩ (.int .i64 q))).setCell ⟨y1.heap.size, 3, none⟩ (.slice AV T.length cV))) w1.heap.size (.slice AV T.length cV) T) := Lib.hid ((((VV.out.heap (fun k hk => Below.heap_setCell _ ⟨y1.heap.size, 0, none⟩ (.int .i64 x) k (fun e => HVB.out k hk e))).heap (fun k hk => Below.heap_setCell _ ⟨y1.heap.size, 1, none⟩ (.int .i64 p) k (fun e => HVB.out k hk e))).heap (fun k hk => Below.heap_setCell _ ⟨y1.heap.size, 2, none⟩ (.int .i64 q) k (fun e => HVB.out k hk e))).heap (fun k hk => Below.heap_setCell _ ⟨y1.heap.size, 3, none⟩ (.slice AV T.length cV) k (fun e => HVB.out k hk e)))
        have HB := HBF
        refine wpAnyH_ready (rs := [14]) (by kernel_rfl) (by simp) ?_
        refine AllReadyH.cons (o := ?_) ?_ (fun K hK => ?_) AllReadyH.nil
        rotate_left 1
        · (simp only [List.getElem?_toArray, List.getElem?_cons_zero, List.getElem?_cons_succ]; try rfl)
        go_simp
        refine hK.out _ _ (by exact ((HB.out.cell (p := ⟨b, off, none⟩) hbl).trans HLx.out)) (fun hHeld => ?_)
        clear hK K
        (try simp only [Act.put, List.setIfInBounds_toArray, List.set_cons_zero, List.set_cons_succ])
        refine wpAnyH_done (by kernel_rfl) ?_ _
        refine NoPanic.normal ?_
        go_wp2_with fail
        go_meet
        exact ⟨y1.heap.size, AV, cV, rfl, BF.out, VF.out, HLO.out, HBF.out⟩
      refine AllReadyH.cons (o := ?_) ?_ (fun K hK => ?_) AllReadyH.nil
      rotate_left 1
      · (simp only [List.getElem?_toArray, List.getElem?_cons_zero, List.getElem?_cons_succ]; try rfl)
      have hbA := (Below.refl (((y1).alloc (.cells #[.int .i64 0, .int .i64 0, .int .i64 0, .slice none 0 0] 27))).heap.size (((y1).alloc (.cells #[.int .i64 0, .int .i64 0, .int .i64 0, .slice none 0 0] 27)))).alloc (Nat.le_refl _) (.cells #[] 5)
      have hE0 : Own ((((y1).alloc (.cells #[.int .i64 0, .int .i64 0, .int .i64 0, .slice none 0 0] 27))).alloc (.cells #[] 5)) w1.heap.size (.slice (some ⟨y1.heap.size + 1, 0, none⟩) 0 0) [] := by
        have h := Own.mono (show Own ((((y1).alloc (.cells #[.int .i64 0, .int .i64 0, .int .i64 0, .slice none 0 0] 27))).alloc (.cells #[] 5)) (((y1).alloc (.cells #[.int .i64 0, .int .i64 0, .int .i64 0, .slice none 0 0] 27))).heap.size (.slice (some ⟨(((y1).alloc (.cells #[.int .i64 0, .int .i64 0, .int .i64 0, .slice none 0 0] 27))).heap.size, 0, none⟩) 0 0) [] from Own.new (((y1).alloc (.cells #[.int .i64 0, .int .i64 0, .int .i64 0, .slice none 0 0] 27))) [] (by simp [maxLen])) (show w1.heap.size ≤ (((y1).alloc (.cells #[.int .i64 0, .int .i64 0, .int .i64 0, .slice none 0 0] 27))).heap.size from HB.out.size)
        first | exact h | simpa using h
      have E0 := Lib.hid hE0
      clear hE0
      have HNE : Hid (y1.heap.size ≠ y1.heap.size + 1) := Lib.hid (Nat.ne_of_lt (by have h := BX.out.lt; first | exact h | (simp; done) | (simp at h ⊢; omega)))
      have HB := Lib.hid (HB.out.trans (hbA.mono HB.out.size))
      have BX := Lib.hid (BX.out.below hbA)
      clear hbA
      go_simp
      refine hK.out _ _ (by exact ((HB.out.cell (p := ⟨b, off, none⟩) hbl).trans HLx.out)) (fun hHeld => ?_)
      clear hK K
      (try simp only [Act.put, List.setIfInBounds_toArray, List.set_cons_zero, List.set_cons_succ])
      refine wpAnyH_ready (rs := [7]) (by kernel_rfl) (by simp) ?_
      refine AllReadyH.cons (o := ?_) ?_ (fun K hK => ?_) AllReadyH.nil
      rotate_left 1
      · (simp only [List.getElem?_toArray, List.getElem?_cons_zero, List.getElem?_cons_succ]; try rfl)
      go_simp
      refine (l09At_any (some ⟨b, off, none⟩) l c 3 _ hn9 (by omega) (by exact hA.below HB.out)).mono ?_
      rintro e y18 ⟨rfl, hE⟩
      have hb : Below (((((y1).alloc (.cells #[.int .i64 0, .int .i64 0, .int .i64 0, .slice none 0 0] 27))).alloc (.cells #[] 5))).heap.size (((((y1).alloc (.cells #[.int .i64 0, .int .i64 0, .int .i64 0, .slice none 0 0] 27))).alloc (.cells #[] 5))) y18 := by obtain ⟨n, rfl⟩ := hE; exact below_of_drewN _ n
      rw [HWq.out]
      have HB := Lib.hid (HB.out.trans (hb.mono HB.out.size))
      have BX := Lib.hid (BX.out.below hb)
      have E0 := Lib.hid (E0.out.below hb)
      clear hb hE
      go_wp2_with fail
      refine hK.out _ _ (by exact ((HB.out.cell (p := ⟨b, off, none⟩) hbl).trans HLx.out)) (fun hHeld => ?_)
      clear hK K
      (try simp only [Act.put, List.setIfInBounds_toArray, List.set_cons_zero, List.set_cons_succ])
      refine wpAnyH_ready (rs := [11]) (by kernel_rfl) (by simp) ?_
      refine AllReadyH.cons (o := ?_) ?_ (fun K hK => ?_) AllReadyH.nil
      rotate_left 1
      · (simp only [List.getElem?_toArray, List.getElem?_cons_zero, List.getElem?_cons_succ]; try rfl)
      have hfresh := E0.out.range
      refine step_app_bytes9 rfl (.tmp 17) (.tmp 19) rfl _ (Value.slice (some ⟨y1.heap.size + 1, 0, none⟩) 0 0) [] T D N rc rfl rfl HN.out (by exact E0.out) (by exact HS.out.below HB.out) (by simp; omega) (by exact HB.out.size) ?_
      intro v9 y19 hown hg hv9
      have hg : World.grownBy (y18) y19 (Value.slice (some ⟨y1.heap.size + 1, 0, none⟩) 0 0).ownBlock := ⟨hg.os, hg.tape, hg.output, hg.size, hg.block⟩
      have hke := Keeps.of_grown hg
      have hown : Own y19 w1.heap.size v9 T := hown
      have hbbl := BX.out.lt
      have BX := Lib.hid (BX.out.of_block (hke.block _ BX.out.lt (fun h => by first | (simp [Value.ownBlock] at h; done) | (have h2 := h; simp only [Value.ownBlock, Option.toList_some, List.mem_singleton] at h2; exact HNE.out h2))))
      have HB := Lib.hid (HB.out.trans (hke.below (B := w1.heap.size) HB.out.size (fun k hk => (hfresh k hk).1)))
      obtain ⟨AV, cV, rfl, lV, kV, _, _, _⟩ := own_plain9 hown
      have VV := Lib.hid hown
      have HVB : Hid (∀ k ∈ (Value.slice AV T.length cV).ownBlock.toList, k ≠ y1.heap.size) := Lib.hid (fun k hk e => by
        rcases hv9 with h | h
        · have h3 : k = y1.heap.size + 1 := by rw [h] at hk; simpa [Value.ownBlock] using hk
          exact HNE.out (e.symm.trans h3)
        · have h3 : k = (y18).heap.size := by rw [h] at hk; simpa using hk
          have h2 : y1.heap.size < (y18).heap.size := hbbl
          omega)
      clear hbbl
      clear hke hg hown hfresh
      (try go_simp)
      refine hK.out _ _ (by exact ((HB.out.cell (p := ⟨b, off, none⟩) hbl).trans HLx.out)) (fun hHeld => ?_)
      clear hK K
      (try simp only [Act.put, List.setIfInBounds_toArray, List.set_cons_zero, List.set_cons_succ])
      refine wpAnyH_take (i := 12) (oi := ?_) (v := ?_) ?_ ?_ ?_ ?_ ?_ ?_ (by exact hHeld) ?_
      rotate_left 2
      · (simp only [List.getElem?_toArray, List.getElem?_cons_zero, List.getElem?_cons_succ]; try rfl)
      · kernel_rfl
      · kernel_rfl
      · kernel_rfl
      · exact fun _ _ _ h => h
      · refine Or.inl ⟨by rfl, ?_⟩
        (intro V hSV; (try dsimp only at hSV); have q0 := hSV; go_simp; try with_reducible rfl)
      (try simp only [Act.put, List.setIfInBounds_toArray, List.set_cons_zero, List.set_cons_succ])
      have g0 := BX.out.cell 0
      have f0 := BX.out.frozen 0
      have g1 := BX.out.cell 1
      have f1 := BX.out.frozen 1
      have g2 := BX.out.cell 2
      have f2 := BX.out.frozen 2
      have g3 := BX.out.cell 3
      have f3 := BX.out.frozen 3
      have BF : Hid (Blk (((((((((y19).setCell ⟨y1.heap.size, 0, none⟩ (.int .i64 x))).setCell ⟨y1.heap.size, 1, none⟩ (.int .i64 p))).setCell ⟨y1.heap.size, 2, none⟩ (.int .i64 q))).setCell ⟨y1.heap.size, 3, none⟩ (.slice AV T.length cV))) (y1.heap.size) #[.int .i64 x, .int .i64 p, .int .i64 q, .slice AV T.length cV] 27) := Lib.hid (by simpa using ((((BX.out.set 0 (.int .i64 x)).set 1 (.int .i64 p)).set 2 (.int .i64 q)).set 3 (.slice AV T.length cV)))
      have HBF : Hid (Below w1.heap.size w1 (((((((((y19).setCell ⟨y1.heap.size, 0, none⟩ (.int .i64 x))).setCell ⟨y1.heap.size, 1, none⟩ (.int .i64 p))).setCell ⟨y1.heap.size, 2, none⟩ (.int .i64 q))).setCell ⟨y1.heap.size, 3, none⟩ (.slice AV T.length cV)))) := Lib.hid ((((HB.out.setCell (p := ⟨y1.heap.size, 0, none⟩) HLO.out (.int .i64 x)).setCell (p := ⟨y1.heap.size, 1, none⟩) HLO.out (.int .i64 p)).setCell (p := ⟨y1.heap.size, 2, none⟩) HLO.out (.int .i64 q)).setCell (p := ⟨y1.heap.size, 3, none⟩) HLO.out (.slice AV T.length cV))
      have VF : Hid (Own (((((((((y19).setCell ⟨y1.heap.size, 0, none⟩ (.int .i64 x))).setCell ⟨y1.heap.size, 1, none⟩ (.int .i64 p))).setCell ⟨y1.heap.size, 2, none⟩ (.int .i64 q))).setCell ⟨y1.heap.size, 3, none⟩ (.slice AV T.length cV))) w1.heap.size (.slice AV T.length cV) T) := Lib.hid ((((VV.out.heap (fun k hk => Below.heap_setCell _ ⟨y1.heap.size, 0, none⟩ (.int .i64 x) k (fun e => HVB.out k hk e))).heap (fun k hk => Below.heap_setCell _ ⟨y1.heap.size, 1, none⟩ (.int .i64 p) k (fun e => HVB.out k hk e))).heap (fun k hk => Below.heap_setCell _ ⟨y1.heap.size, 2, none⟩ (.int .i64 q) k (fun e => HVB.out k hk e))).heap (fun k hk => Below.heap_setCell _ ⟨y1.heap.size, 3, none⟩ (.slice AV T.length cV) k (fun e => HVB.out k hk e)))
      have HB := HBF
      refine wpAnyH_ready (rs := [14]) (by kernel_rfl) (by simp) ?_
      refine AllReadyH.cons (o := ?_) ?_ (fun K hK => ?_) AllReadyH.nil
      rotate_left 1
      · (simp only [List.getElem?_toArray, List.getElem?_cons_zero, List.getElem?_cons_succ]; try rfl)
      go_simp
      refine hK.out _ _ (by exact ((HB.out.cell (p := ⟨b, off, none⟩) hbl).trans HLx.out)) (fun hHeld => ?_)
      clear hK K
      (try simp only [Act.put, List.setIfInBounds_toArray, List.set_cons_zero, List.set_cons_succ])
      refine wpAnyH_done (by kernel_rfl) ?_ _
      refine NoPanic.normal ?_
      go_wp2_with fail
      go_meet
      exact ⟨y1.heap.size, AV, cV, rfl, BF.out, VF.out, HLO.out, HBF.out⟩
    refine AllReadyH.cons (o := ?_) ?_ (fun K hK => ?_) ?_
    rotate_left 1
    · (simp only [List.getElem?_toArray, List.getElem?_cons_zero, List.getElem?_cons_succ]; try rfl)
    · have hbA := (Below.refl (w1.drew).heap.size (w1.drew)).alloc (Nat.le_refl _) (.cells #[] 5)
      have hE0 : Own ((w1.drew).alloc (.cells #[] 5)) w1.heap.size (.slice (some ⟨w1.heap.size, 0, none⟩) 0 0) [] := by
        have h := Own.mono (show Own ((w1.drew).alloc (.cells #[] 5)) (w1.drew).heap.size (.slice (some ⟨(w1.drew).heap.size, 0, none⟩) 0 0) [] from Own.new (w1.drew) [] (by simp [maxLen])) (show w1.heap.size ≤ (w1.drew).heap.size from HB.out.size)
        first | exact h | simpa using h
      have E0 := Lib.hid hE0
      clear hE0
      have HB := Lib.hid (HB.out.trans (hbA.mono HB.out.size))
      clear hbA
      go_simp
      refine hK.out _ _ (by exact ((HB.out.cell (p := ⟨b, off, none⟩) hbl).trans HLx.out)) (fun hHeld => ?_)
      clear hK K
      (try simp only [Act.put, List.setIfInBounds_toArray, List.set_cons_zero, List.set_cons_succ])
      refine wpAnyH_ready (rs := [5, 13]) (by kernel_rfl) (by simp) ?_
      refine AllReadyH.cons (o := ?_) ?_ (fun K hK => ?_) ?_
      rotate_left 1
      · (simp only [List.getElem?_toArray, List.getElem?_cons_zero, List.getElem?_cons_succ]; try rfl)
      · go_simp
        refine (l09At_any (some ⟨b, off, none⟩) l c 1 _ hn9 (by omega) (by exact hA.below HB.out)).mono ?_
        rintro e y21 ⟨rfl, hE⟩
        have hb : Below (((w1.drew).alloc (.cells #[] 5))).heap.size (((w1.drew).alloc (.cells #[] 5))) y21 := by obtain ⟨n, rfl⟩ := hE; exact below_of_drewN _ n
        rw [HWp.out]
        have HB := Lib.hid (HB.out.trans (hb.mono HB.out.size))
        have E0 := Lib.hid (E0.out.below hb)
        clear hb hE
        go_wp2_with fail
        refine hK.out _ _ (by exact ((HB.out.cell (p := ⟨b, off, none⟩) hbl).trans HLx.out)) (fun hHeld => ?_)
        clear hK K
        (try simp only [Act.put, List.setIfInBounds_toArray, List.set_cons_zero, List.set_cons_succ])
        refine wpAnyH_ready (rs := [7, 13]) (by kernel_rfl) (by simp) ?_
        refine AllReadyH.cons (o := ?_) ?_ (fun K hK => ?_) ?_
        rotate_left 1
        · (simp only [List.getElem?_toArray, List.getElem?_cons_zero, List.getElem?_cons_succ]; try rfl)
        · go_simp
          refine (l09At_any (some ⟨b, off, none⟩) l c 3 _ hn9 (by omega) (by exact hA.below HB.out)).mono ?_
          rintro e y22 ⟨rfl, hE⟩
          have hb : Below (y21).heap.size (y21) y22 := by obtain ⟨n, rfl⟩ := hE; exact below_of_drewN _ n
          rw [HWq.out]
          have HB := Lib.hid (HB.out.trans (hb.mono HB.out.size))
          have E0 := Lib.hid (E0.out.below hb)
          clear hb hE
          go_wp2_with fail
          refine hK.out _ _ (by exact ((HB.out.cell (p := ⟨b, off, none⟩) hbl).trans HLx.out)) (fun hHeld => ?_)
          clear hK K
          (try simp only [Act.put, List.setIfInBounds_toArray, List.set_cons_zero, List.set_cons_succ])
          refine wpAnyH_ready (rs := [11, 13]) (by kernel_rfl) (by simp) ?_
          refine AllReadyH.cons (o := ?_) ?_ (fun K hK => ?_) ?_
          rotate_left 1
          · (simp only [List.getElem?_toArray, List.getElem?_cons_zero, List.getElem?_cons_succ]; try rfl)
          · have hfresh := E0.out.range
            refine step_app_bytes9 rfl (.tmp 17) (.tmp 19) rfl _ (Value.slice (some ⟨w1.heap.size, 0, none⟩) 0 0) [] T D N rc rfl rfl HN.out (by exact E0.out) (by exact HS.out.below HB.out) (by simp; omega) (by exact HB.out.size) ?_
            intro v9 y23 hown hg hv9
            have hg : World.grownBy (y22) y23 (Value.slice (some ⟨w1.heap.size, 0, none⟩) 0 0).ownBlock := ⟨hg.os, hg.tape, hg.output, hg.size, hg.block⟩
            have hke := Keeps.of_grown hg
            have hown : Own y23 w1.heap.size v9 T := hown
            have HB := Lib.hid (HB.out.trans (hke.below (B := w1.heap.size) HB.out.size (fun k hk => (hfresh k hk).1)))
            obtain ⟨AV, cV, rfl, lV, kV, _, _, _⟩ := own_plain9 hown
            have VV := Lib.hid hown
            clear hke hg hown hfresh
            (try go_simp)
            refine hK.out _ _ (by exact ((HB.out.cell (p := ⟨b, off, none⟩) hbl).trans HLx.out)) (fun hHeld => ?_)
            clear hK K
            (try simp only [Act.put, List.setIfInBounds_toArray, List.set_cons_zero, List.set_cons_succ])
            refine wpAnyH_take (i := 12) (oi := ?_) (v := ?_) ?_ ?_ ?_ ?_ ?_ ?_ (by exact hHeld) ?_
            rotate_left 2
            · (simp only [List.getElem?_toArray, List.getElem?_cons_zero, List.getElem?_cons_succ]; try rfl)
            · kernel_rfl
            · kernel_rfl
            · kernel_rfl
            · exact fun _ _ _ h => h
            · refine Or.inl ⟨by rfl, ?_⟩
              (intro V hSV; (try dsimp only at hSV); have q0 := hSV; go_simp; try with_reducible rfl)
            (try simp only [Act.put, List.setIfInBounds_toArray, List.set_cons_zero, List.set_cons_succ])
            refine wpAnyH_ready (rs := [13]) (by kernel_rfl) (by simp) ?_
            refine AllReadyH.cons (o := ?_) ?_ (fun K hK => ?_) AllReadyH.nil
            rotate_left 1
            · (simp only [List.getElem?_toArray, List.getElem?_cons_zero, List.getElem?_cons_succ]; try rfl)
            have HB0 := HB
            have VV0 := VV
            have hbA := (Below.refl (y23).heap.size (y23)).alloc (Nat.le_refl _) (.cells #[.int .i64 0, .int .i64 0, .int .i64 0, .slice none 0 0] 27)
            have hBX : Blk ((y23).alloc (.cells #[.int .i64 0, .int .i64 0, .int .i64 0, .slice none 0 0] 27)) (y23.heap.size) #[.int .i64 0, .int .i64 0, .int .i64 0, .slice none 0 0] 27 := by
              have h := Blk.new (y23) #[.int .i64 0, .int .i64 0, .int .i64 0, .slice none 0 0] 27
              first | exact h | simpa using h
            have BX := Lib.hid hBX
            have HLO : Hid (w1.heap.size ≤ y23.heap.size) := Lib.hid (by have h := HB.out.size; first | exact h | (simp; done) | (simp at h ⊢; omega))
            clear hBX
            have HVB : Hid (∀ k ∈ (Value.slice AV T.length cV).ownBlock.toList, k ≠ y23.heap.size) := Lib.hid (fun k hk e => by have h := (VV.out.range k hk).2; (try simp at h); omega)
            have HB := Lib.hid (HB.out.trans (hbA.mono HB.out.size))
            have VV := Lib.hid (VV.out.below hbA)
            clear hbA
            go_simp
            refine hK.out _ _ (by exact ((HB.out.cell (p := ⟨b, off, none⟩) hbl).trans HLx.out)) (fun hHeld => ?_)
            clear hK K
            (try simp only [Act.put, List.setIfInBounds_toArray, List.set_cons_zero, List.set_cons_succ])
            have hbF := (Below.refl (y23).heap.size (y23)).alloc (Nat.le_refl _) (.cells #[.int .i64 x, .int .i64 p, .int .i64 q, .slice AV T.length cV] 27)
            have hBF : Blk (((y23).alloc (.cells #[.int .i64 x, .int .i64 p, .int .i64 q, .slice AV T.length cV] 27))) (y23.heap.size) #[.int .i64 x, .int .i64 p, .int .i64 q, .slice AV T.length cV] 27 := by
              have h := Blk.new (y23) #[.int .i64 x, .int .i64 p, .int .i64 q, .slice AV T.length cV] 27
              first | exact h | simpa using h
            have BF := Lib.hid hBF
            have VF := Lib.hid (VV0.out.below hbF)
            have HBF := Lib.hid (HB0.out.trans (hbF.mono HB0.out.size))
            have HB := HBF
            clear hbF hBF
            refine wpAnyH_ready (rs := [14]) (by kernel_rfl) (by simp) ?_
            refine AllReadyH.cons (o := ?_) ?_ (fun K hK => ?_) AllReadyH.nil
            rotate_left 1
            · (simp only [List.getElem?_toArray, List.getElem?_cons_zero, List.getElem?_cons_succ]; try rfl)
            go_simp
            refine hK.out _ _ (by exact ((HB.out.cell (p := ⟨b, off, none⟩) hbl).trans HLx.out)) (fun hHeld => ?_)
            clear hK K
            (try simp only [Act.put, List.setIfInBounds_toArray, List.set_cons_zero, List.set_cons_succ])
            refine wpAnyH_done (by kernel_rfl) ?_ _
            refine NoPanic.normal ?_
            go_wp2_with fail
            go_meet
            exact ⟨y23.heap.size, AV, cV, rfl, BF.out, VF.out, HLO.out, HBF.out⟩
          refine AllReadyH.cons (o := ?_) ?_ (fun K hK => ?_) AllReadyH.nil
          rotate_left 1
          · (simp only [List.getElem?_toArray, List.getElem?_cons_zero, List.getElem?_cons_succ]; try rfl)
          have hbA := (Below.refl (y22).heap.size (y22)).alloc (Nat.le_refl _) (.cells #[.int .i64 0, .int .i64 0, .int .i64 0, .slice none 0 0] 27)
          have hBX : Blk ((y22).alloc (.cells #[.int .i64 0, .int .i64 0, .int .i64 0, .slice none 0 0] 27)) (y22.heap.size) #[.int .i64 0, .int .i64 0, .int .i64 0, .slice none 0 0] 27 := by
            have h := Blk.new (y22) #[.int .i64 0, .int .i64 0, .int .i64 0, .slice none 0 0] 27
            first | exact h | simpa using h
          have BX := Lib.hid hBX
          have HLO : Hid (w1.heap.size ≤ y22.heap.size) := Lib.hid (by have h := HB.out.size; first | exact h | (simp; done) | (simp at h ⊢; omega))
          clear hBX
          have HNE : Hid (y22.heap.size ≠ w1.heap.size) := Lib.hid (Nat.ne_of_gt (by have h := (E0.out.range (w1.heap.size) (by simp [Value.ownBlock])).2; first | exact h | (simp; done) | (simp at h ⊢; omega)))
          have HB := Lib.hid (HB.out.trans (hbA.mono HB.out.size))
          have E0 := Lib.hid (E0.out.below hbA)
          clear hbA
          go_simp
          refine hK.out _ _ (by exact ((HB.out.cell (p := ⟨b, off, none⟩) hbl).trans HLx.out)) (fun hHeld => ?_)
          clear hK K
          (try simp only [Act.put, List.setIfInBounds_toArray, List.set_cons_zero, List.set_cons_succ])
          refine wpAnyH_ready (rs := [11]) (by kernel_rfl) (by simp) ?_
          refine AllReadyH.cons (o := ?_) ?_ (fun K hK => ?_) AllReadyH.nil
          rotate_left 1
          · (simp only [List.getElem?_toArray, List.getElem?_cons_zero, List.getElem?_cons_succ]; try rfl)
          have hfresh := E0.out.range
          refine step_app_bytes9 rfl (.tmp 17) (.tmp 19) rfl _ (Value.slice (some ⟨w1.heap.size, 0, none⟩) 0 0) [] T D N rc rfl rfl HN.out (by exact E0.out) (by exact HS.out.below HB.out) (by simp; omega) (by exact HB.out.size) ?_
          intro v9 y24 hown hg hv9
          have hg : World.grownBy (((y22).alloc (.cells #[.int .i64 0, .int .i64 0, .int .i64 0, .slice none 0 0] 27))) y24 (Value.slice (some ⟨w1.heap.size, 0, none⟩) 0 0).ownBlock := ⟨hg.os, hg.tape, hg.output, hg.size, hg.block⟩
          have hke := Keeps.of_grown hg
          have hown : Own y24 w1.heap.size v9 T := hown
          have hbbl := BX.out.lt
          have BX := Lib.hid (BX.out.of_block (hke.block _ BX.out.lt (fun h => by first | (simp [Value.ownBlock] at h; done) | (have h2 := h; simp only [Value.ownBlock, Option.toList_some, List.mem_singleton] at h2; exact HNE.out h2))))
          have HB := Lib.hid (HB.out.trans (hke.below (B := w1.heap.size) HB.out.size (fun k hk => (hfresh k hk).1)))
          obtain ⟨AV, cV, rfl, lV, kV, _, _, _⟩ := own_plain9 hown
          have VV := Lib.hid hown
          have HVB : Hid (∀ k ∈ (Value.slice AV T.length cV).ownBlock.toList, k ≠ y22.heap.size) := Lib.hid (fun k hk e => by
            rcases hv9 with h | h
            · have h3 : k = w1.heap.size := by rw [h] at hk; simpa [Value.ownBlock] using hk
              exact HNE.out (e.symm.trans h3)
            · have h3 : k = (((y22).alloc (.cells #[.int .i64 0, .int .i64 0, .int .i64 0, .slice none 0 0] 27))).heap.size := by rw [h] at hk; simpa using hk
              have h2 : y22.heap.size < (((y22).alloc (.cells #[.int .i64 0, .int .i64 0, .int .i64 0, .slice none 0 0] 27))).heap.size := hbbl
              omega)
          clear hbbl
          clear hke hg hown hfresh
          (try go_simp)
          refine hK.out _ _ (by exact ((HB.out.cell (p := ⟨b, off, none⟩) hbl).trans HLx.out)) (fun hHeld => ?_)
          clear hK K
          (try simp only [Act.put, List.setIfInBounds_toArray, List.set_cons_zero, List.set_cons_succ])
          refine wpAnyH_take (i := 12) (oi := ?_) (v := ?_) ?_ ?_ ?_ ?_ ?_ ?_ (by exact hHeld) ?_
          rotate_left 2
          · (simp only [List.getElem?_toArray, List.getElem?_cons_zero, List.getElem?_cons_succ]; try rfl)
          · kernel_rfl
          · kernel_rfl
          · kernel_rfl
          · exact fun _ _ _ h => h
          · refine Or.inl ⟨by rfl, ?_⟩
            (intro V hSV; (try dsimp only at hSV); have q0 := hSV; go_simp; try with_reducible rfl)
          (try simp only [Act.put, List.setIfInBounds_toArray, List.set_cons_zero, List.set_cons_succ])
          have g0 := BX.out.cell 0
          have f0 := BX.out.frozen 0
          have g1 := BX.out.cell 1
          have f1 := BX.out.frozen 1
          have g2 := BX.out.cell 2
          have f2 := BX.out.frozen 2
          have g3 := BX.out.cell 3
          have f3 := BX.out.frozen 3
          have BF : Hid (Blk (((((((((y24).setCell ⟨y22.heap.size, 0, none⟩ (.int .i64 x))).setCell ⟨y22.heap.size, 1, none⟩ (.int .i64 p))).setCell ⟨y22.heap.size, 2, none⟩ (.int .i64 q))).setCell ⟨y22.heap.size, 3, none⟩ (.slice AV T.length cV))) (y22.heap.size) #[.int .i64 x, .int .i64 p, .int .i64 q, .slice AV T.length cV] 27) := Lib.hid (by simpa using ((((BX.out.set 0 (.int .i64 x)).set 1 (.int .i64 p)).set 2 (.int .i64 q)).set 3 (.slice AV T.length cV)))
          have HBF : Hid (Below w1.heap.size w1 (((((((((y24).setCell ⟨y22.heap.size, 0, none⟩ (.int .i64 x))).setCell ⟨y22.heap.size, 1, none⟩ (.int .i64 p))).setCell ⟨y22.heap.size, 2, none⟩ (.int .i64 q))).setCell ⟨y22.heap.size, 3, none⟩ (.slice AV T.length cV)))) := Lib.hid ((((HB.out.setCell (p := ⟨y22.heap.size, 0, none⟩) HLO.out (.int .i64 x)).setCell (p := ⟨y22.heap.size, 1, none⟩) HLO.out (.int .i64 p)).setCell (p := ⟨y22.heap.size, 2, none⟩) HLO.out (.int .i64 q)).setCell (p := ⟨y22.heap.size, 3, none⟩) HLO.out (.slice AV T.length cV))
          have VF : Hid (Own (((((((((y24).setCell ⟨y22.heap.size, 0, none⟩ (.int .i64 x))).setCell ⟨y22.heap.size, 1, none⟩ (.int .i64 p))).setCell ⟨y22.heap.size, 2, none⟩ (.int .i64 q))).setCell ⟨y22.heap.size, 3, none⟩ (.slice AV T.length cV))) w1.heap.size (.slice AV T.length cV) T) := Lib.hid ((((VV.out.heap (fun k hk => Below.heap_setCell _ ⟨y22.heap.size, 0, none⟩ (.int .i64 x) k (fun e => HVB.out k hk e))).heap (fun k hk => Below.heap_setCell _ ⟨y22.heap.size, 1, none⟩ (.int .i64 p) k (fun e => HVB.out k hk e))).heap (fun k hk => Below.heap_setCell _ ⟨y22.heap.size, 2, none⟩ (.int .i64 q) k (fun e => HVB.out k hk e))).heap (fun k hk => Below.heap_setCell _ ⟨y22.heap.size, 3, none⟩ (.slice AV T.length cV) k (fun e => HVB.out k hk e)))
          have HB := HBF
          refine wpAnyH_ready (rs := [14]) (by kernel_rfl) (by simp) ?_
          refine AllReadyH.cons (o := ?_) ?_ (fun K hK => ?_) AllReadyH.nil
          rotate_left 1
          · (simp only [List.getElem?_toArray, List.getElem?_cons_zero, List.getElem?_cons_succ]; try rfl)
          go_simp
          refine hK.out _ _ (by exact ((HB.out.cell (p := ⟨b, off, none⟩) hbl).trans HLx.out)) (fun hHeld => ?_)
          clear hK K
          (try simp only [Act.put, List.setIfInBounds_toArray, List.set_cons_zero, List.set_cons_succ])
          refine wpAnyH_done (by kernel_rfl) ?_ _
          refine NoPanic.normal ?_
          go_wp2_with fail
          go_meet
          exact ⟨y22.heap.size, AV, cV, rfl, BF.out, VF.out, HLO.out, HBF.out⟩
        refine AllReadyH.cons (o := ?_) ?_ (fun K hK => ?_) AllReadyH.nil
        rotate_left 1
        · (simp only [List.getElem?_toArray, List.getElem?_cons_zero, List.getElem?_cons_succ]; try rfl)
        have hbA := (Below.refl (y21).heap.size (y21)).alloc (Nat.le_refl _) (.cells #[.int .i64 0, .int .i64 0, .int .i64 0, .slice none 0 0] 27)
        have hBX : Blk ((y21).alloc (.cells #[.int .i64 0, .int .i64 0, .int .i64 0, .slice none 0 0] 27)) (y21.heap.size) #[.int .i64 0, .int .i64 0, .int .i64 0, .slice none 0 0] 27 := by
          have h := Blk.new (y21) #[.int .i64 0, .int .i64 0, .int .i64 0, .slice none 0 0] 27
          first | exact h | simpa using h
        have BX := Lib.hid hBX
        have HLO : Hid (w1.heap.size ≤ y21.heap.size) := Lib.hid (by have h := HB.out.size; first | exact h | (simp; done) | (simp at h ⊢; omega))
        clear hBX
        have HNE : Hid (y21.heap.size ≠ w1.heap.size) := Lib.hid (Nat.ne_of_gt (by have h := (E0.out.range (w1.heap.size) (by simp [Value.ownBlock])).2; first | exact h | (simp; done) | (simp at h ⊢; omega)))
        have HB := Lib.hid (HB.out.trans (hbA.mono HB.out.size))
        have E0 := Lib.hid (E0.out.below hbA)
        clear hbA
        go_simp
        refine hK.out _ _ (by exact ((HB.out.cell (p := ⟨b, off, none⟩) hbl).trans HLx.out)) (fun hHeld => ?_)
        clear hK K
        (try simp only [Act.put, List.setIfInBounds_toArray, List.set_cons_zero, List.set_cons_succ])
        refine wpAnyH_ready (rs := [7]) (by kernel_rfl) (by simp) ?_
        refine AllReadyH.cons (o := ?_) ?_ (fun K hK => ?_) AllReadyH.nil
        rotate_left 1
        · (simp only [List.getElem?_toArray, List.getElem?_cons_zero, List.getElem?_cons_succ]; try rfl)
        go_simp
        refine (l09At_any (some ⟨b, off, none⟩) l c 3 _ hn9 (by omega) (by exact hA.below HB.out)).mono ?_
        rintro e y25 ⟨rfl, hE⟩
        have hb : Below (((y21).alloc (.cells #[.int .i64 0, .int .i64 0, .int .i64 0, .slice none 0 0] 27))).heap.size (((y21).alloc (.cells #[.int .i64 0, .int .i64 0, .int .i64 0, .slice none 0 0] 27))) y25 := by obtain ⟨n, rfl⟩ := hE; exact below_of_drewN _ n
        rw [HWq.out]
        have HB := Lib.hid (HB.out.trans (hb.mono HB.out.size))
        have E0 := Lib.hid (E0.out.below hb)
        have BX := Lib.hid (BX.out.below hb)
        clear hb hE
        go_wp2_with fail
        refine hK.out _ _ (by exact ((HB.out.cell (p := ⟨b, off, none⟩) hbl).trans HLx.out)) (fun hHeld => ?_)
        clear hK K
        (try simp only [Act.put, List.setIfInBounds_toArray, List.set_cons_zero, List.set_cons_succ])
        refine wpAnyH_ready (rs := [11]) (by kernel_rfl) (by simp) ?_
        refine AllReadyH.cons (o := ?_) ?_ (fun K hK => ?_) AllReadyH.nil
        rotate_left 1
        · (simp only [List.getElem?_toArray, List.getElem?_cons_zero, List.getElem?_cons_succ]; try rfl)
        have hfresh := E0.out.range
        refine step_app_bytes9 rfl (.tmp 17) (.tmp 19) rfl _ (Value.slice (some ⟨w1.heap.size, 0, none⟩) 0 0) [] T D N rc rfl rfl HN.out (by exact E0.out) (by exact HS.out.below HB.out) (by simp; omega) (by exact HB.out.size) ?_
        intro v9 y26 hown hg hv9
        have hg : World.grownBy (y25) y26 (Value.slice (some ⟨w1.heap.size, 0, none⟩) 0 0).ownBlock := ⟨hg.os, hg.tape, hg.output, hg.size, hg.block⟩
        have hke := Keeps.of_grown hg
        have hown : Own y26 w1.heap.size v9 T := hown
        have hbbl := BX.out.lt
        have BX := Lib.hid (BX.out.of_block (hke.block _ BX.out.lt (fun h => by first | (simp [Value.ownBlock] at h; done) | (have h2 := h; simp only [Value.ownBlock, Option.toList_some, List.mem_singleton] at h2; exact HNE.out h2))))
        have HB := Lib.hid (HB.out.trans (hke.below (B := w1.heap.size) HB.out.size (fun k hk => (hfresh k hk).1)))
        obtain ⟨AV, cV, rfl, lV, kV, _, _, _⟩ := own_plain9 hown
        have VV := Lib.hid hown
        have HVB : Hid (∀ k ∈ (Value.slice AV T.length cV).ownBlock.toList, k ≠ y21.heap.size) := Lib.hid (fun k hk e => by
          rcases hv9 with h | h
          · have h3 : k = w1.heap.size := by rw [h] at hk; simpa [Value.ownBlock] using hk
            exact HNE.out (e.symm.trans h3)
          · have h3 : k = (y25).heap.size := by rw [h] at hk; simpa using hk
            have h2 : y21.heap.size < (y25).heap.size := hbbl
            omega)
        clear hbbl
        clear hke hg hown hfresh
        (try go_simp)
        refine hK.out _ _ (by exact ((HB.out.cell (p := ⟨b, off, none⟩) hbl).trans HLx.out)) (fun hHeld => ?_)
        clear hK K
        (try simp only [Act.put, List.setIfInBounds_toArray, List.set_cons_zero, List.set_cons_succ])
        refine wpAnyH_take (i := 12) (oi := ?_) (v := ?_) ?_ ?_ ?_ ?_ ?_ ?_ (by exact hHeld) ?_
        rotate_left 2
        · (simp only [List.getElem?_toArray, List.getElem?_cons_zero, List.getElem?_cons_succ]; try rfl)
        · kernel_rfl
        · kernel_rfl
        · kernel_rfl
        · exact fun _ _ _ h => h
        · refine Or.inl ⟨by rfl, ?_⟩
          (intro V hSV; (try dsimp only at hSV); have q0 := hSV; go_simp; try with_reducible rfl)
        (try simp only [Act.put, List.setIfInBounds_toArray, List.set_cons_zero, List.set_cons_succ])
        have g0 := BX.out.cell 0
        have f0 := BX.out.frozen 0
        have g1 := BX.out.cell 1
        have f1 := BX.out.frozen 1
        have g2 := BX.out.cell 2
        have f2 := BX.out.frozen 2
        have g3 := BX.out.cell 3
        have f3 := BX.out.frozen 3
        have BF : Hid (Blk (((((((((y26).setCell ⟨y21.heap.size, 0, none⟩ (.int .i64 x))).setCell ⟨y21.heap.size, 1, none⟩ (.int .i64 p))).setCell ⟨y21.heap.size, 2, none⟩ (.int .i64 q))).setCell ⟨y21.heap.size, 3, none⟩ (.slice AV T.length cV))) (y21.heap.size) #[.int .i64 x, .int .i64 p, .int .i64 q, .slice AV T.length cV] 27) := Lib.hid (by simpa using ((((BX.out.set 0 (.int .i64 x)).set 1 (.int .i64 p)).set 2 (.int .i64 q)).set 3 (.slice AV T.length cV)))
        have HBF : Hid (Below w1.heap.size w1 (((((((((y26).setCell ⟨y21.heap.size, 0, none⟩ (.int .i64 x))).setCell ⟨y21.heap.size, 1, none⟩ (.int .i64 p))).setCell ⟨y21.heap.size, 2, none⟩ (.int .i64 q))).setCell ⟨y21.heap.size, 3, none⟩ (.slice AV T.length cV)))) := Lib.hid ((((HB.out.setCell (p := ⟨y21.heap.size, 0, none⟩) HLO.out (.int .i64 x)).setCell (p := ⟨y21.heap.size, 1, none⟩) HLO.out (.int .i64 p)).setCell (p := ⟨y21.heap.size, 2, none⟩) HLO.out (.int .i64 q)).setCell (p := ⟨y21.heap.size, 3, none⟩) HLO.out (.slice AV T.length cV))
        have VF : Hid (Own (((((((((y26).setCell ⟨y21.heap.size, 0, none⟩ (.int .i64 x))).setCell ⟨y21.heap.size, 1, none⟩ (.int .i64 p))).setCell ⟨y21.heap.size, 2, none⟩ (.int .i64 q))).setCell ⟨y21.heap.size, 3, none⟩ (.slice AV T.length cV))) w1.heap.size (.slice AV T.length cV) T) := Lib.hid ((((VV.out.heap (fun k hk => Below.heap_setCell _ ⟨y21.heap.size, 0, none⟩ (.int .i64 x) k (fun e => HVB.out k hk e))).heap (fun k hk => Below.heap_setCell _ ⟨y21.heap.size, 1, none⟩ (.int .i64 p) k (fun e => HVB.out k hk e))).heap (fun k hk => Below.heap_setCell _ ⟨y21.heap.size, 2, none⟩ (.int .i64 q) k (fun e => HVB.out k hk e))).heap (fun k hk => Below.heap_setCell _ ⟨y21.heap.size, 3, none⟩ (.slice AV T.length cV) k (fun e => HVB.out k hk e)))
        have HB := HBF
        refine wpAnyH_ready (rs := [14]) (by kernel_rfl) (by simp) ?_
        refine AllReadyH.cons (o := ?_) ?_ (fun K hK => ?_) AllReadyH.nil
        rotate_left 1
        · (simp only [List.getElem?_toArray, List.getElem?_cons_zero, List.getElem?_cons_succ]; try rfl)
        go_simp
        refine hK.out _ _ (by exact ((HB.out.cell (p := ⟨b, off, none⟩) hbl).trans HLx.out)) (fun hHeld => ?_)
        clear hK K
        (try simp only [Act.put, List.setIfInBounds_toArray, List.set_cons_zero, List.set_cons_succ])
        refine wpAnyH_done (by kernel_rfl) ?_ _
        refine NoPanic.normal ?_
        go_wp2_with fail
        go_meet
        exact ⟨y21.heap.size, AV, cV, rfl, BF.out, VF.out, HLO.out, HBF.out⟩
      refine AllReadyH.cons (o := ?_) ?_ (fun K hK => ?_) AllReadyH.nil
      rotate_left 1
      · (simp only [List.getElem?_toArray, List.getElem?_cons_zero, List.getElem?_cons_succ]; try rfl)
      have hbA := (Below.refl (((w1.drew).alloc (.cells #[] 5))).heap.size (((w1.drew).alloc (.cells #[] 5)))).alloc (Nat.le_refl _) (.cells #[.int .i64 0, .int .i64 0, .int .i64 0, .slice none 0 0] 27)
      have hBX : Blk ((((w1.drew).alloc (.cells #[] 5))).alloc (.cells #[.int .i64 0, .int .i64 0, .int .i64 0, .slice none 0 0] 27)) (w1.heap.size + 1) #[.int .i64 0, .int .i64 0, .int .i64 0, .slice none 0 0] 27 := by
        have h := Blk.new (((w1.drew).alloc (.cells #[] 5))) #[.int .i64 0, .int .i64 0, .int .i64 0, .slice none 0 0] 27
        first | exact h | simpa using h
      have BX := Lib.hid hBX
      have HLO : Hid (w1.heap.size ≤ w1.heap.size + 1) := Lib.hid (by have h := HB.out.size; first | exact h | (simp; done) | (simp at h ⊢; omega))
      clear hBX
      have HNE : Hid (w1.heap.size + 1 ≠ w1.heap.size) := Lib.hid (Nat.ne_of_gt (by have h := (E0.out.range (w1.heap.size) (by simp [Value.ownBlock])).2; first | exact h | (simp; done) | (simp at h ⊢; omega)))
      have HB := Lib.hid (HB.out.trans (hbA.mono HB.out.size))
      have E0 := Lib.hid (E0.out.below hbA)
      clear hbA
      go_simp
      refine hK.out _ _ (by exact ((HB.out.cell (p := ⟨b, off, none⟩) hbl).trans HLx.out)) (fun hHeld => ?_)
      clear hK K
      (try simp only [Act.put, List.setIfInBounds_toArray, List.set_cons_zero, List.set_cons_succ])
      refine wpAnyH_ready (rs := [5]) (by kernel_rfl) (by simp) ?_
      refine AllReadyH.cons (o := ?_) ?_ (fun K hK => ?_) AllReadyH.nil
      rotate_left 1
      · (simp only [List.getElem?_toArray, List.getElem?_cons_zero, List.getElem?_cons_succ]; try rfl)
      go_simp
      refine (l09At_any (some ⟨b, off, none⟩) l c 1 _ hn9 (by omega) (by exact hA.below HB.out)).mono ?_
      rintro e y27 ⟨rfl, hE⟩
      have hb : Below (((((w1.drew).alloc (.cells #[] 5))).alloc (.cells #[.int .i64 0, .int .i64 0, .int .i64 0, .slice none 0 0] 27))).heap.size (((((w1.drew).alloc (.cells #[] 5))).alloc (.cells #[.int .i64 0, .int .i64 0, .int .i64 0, .slice none 0 0] 27))) y27 := by obtain ⟨n, rfl⟩ := hE; exact below_of_drewN _ n
      rw [HWp.out]
      have HB := Lib.hid (HB.out.trans (hb.mono HB.out.size))
      have E0 := Lib.hid (E0.out.below hb)
      have BX := Lib.hid (BX.out.below hb)
      clear hb hE
      go_wp2_with fail
      refine hK.out _ _ (by exact ((HB.out.cell (p := ⟨b, off, none⟩) hbl).trans HLx.out)) (fun hHeld => ?_)
      clear hK K
      (try simp only [Act.put, List.setIfInBounds_toArray, List.set_cons_zero, List.set_cons_succ])
      refine wpAnyH_ready (rs := [7]) (by kernel_rfl) (by simp) ?_
      refine AllReadyH.cons (o := ?_) ?_ (fun K hK => ?_) AllReadyH.nil
      rotate_left 1
      · (simp only [List.getElem?_toArray, List.getElem?_cons_zero, List.getElem?_cons_succ]; try rfl)
      go_simp
      refine (l09At_any (some ⟨b, off, none⟩) l c 3 _ hn9 (by omega) (by exact hA.below HB.out)).mono ?_
      rintro e y28 ⟨rfl, hE⟩
      have hb : Below (y27).heap.size (y27) y28 := by obtain ⟨n, rfl⟩ := hE; exact below_of_drewN _ n
      rw [HWq.out]
      have HB := Lib.hid (HB.out.trans (hb.mono HB.out.size))
      have E0 := Lib.hid (E0.out.below hb)
      have BX := Lib.hid (BX.out.below hb)
      clear hb hE
      go_wp2_with fail
      refine hK.out _ _ (by exact ((HB.out.cell (p := ⟨b, off, none⟩) hbl).trans HLx.out)) (fun hHeld => ?_)
      clear hK K
      (try simp only [Act.put, List.setIfInBounds_toArray, List.set_cons_zero, List.set_cons_succ])
      refine wpAnyH_ready (rs := [11]) (by kernel_rfl) (by simp) ?_
      refine AllReadyH.cons (o := ?_) ?_ (fun K hK => ?_) AllReadyH.nil
      rotate_left 1
      · (simp only [List.getElem?_toArray, List.getElem?_cons_zero, List.getElem?_cons_succ]; try rfl)
      have hfresh := E0.out.range
      refine step_app_bytes9 rfl (.tmp 17) (.tmp 19) rfl _ (Value.slice (some ⟨w1.heap.size, 0, none⟩) 0 0) [] T D N rc rfl rfl HN.out (by exact E0.out) (by exact HS.out.below HB.out) (by simp; omega) (by exact HB.out.size) ?_
      intro v9 y29 hown hg hv9
      have hg : World.grownBy (y28) y29 (Value.slice (some ⟨w1.heap.size, 0, none⟩) 0 0).ownBlock := ⟨hg.os, hg.tape, hg.output, hg.size, hg.block⟩
      have hke := Keeps.of_grown hg
      have hown : Own y29 w1.heap.size v9 T := hown
      have hbbl := BX.out.lt
      have BX := Lib.hid (BX.out.of_block (hke.block _ BX.out.lt (fun h => by first | (simp [Value.ownBlock] at h; done) | (have h2 := h; simp only [Value.ownBlock, Option.toList_some, List.mem_singleton] at h2; exact HNE.out h2))))
      have HB := Lib.hid (HB.out.trans (hke.below (B := w1.heap.size) HB.out.size (fun k hk => (hfresh k hk).1)))
      obtain ⟨AV, cV, rfl, lV, kV, _, _, _⟩ := own_plain9 hown
      have VV := Lib.hid hown
      have HVB : Hid (∀ k ∈ (Value.slice AV T.length cV).ownBlock.toList, k ≠ w1.heap.size + 1) := Lib.hid (fun k hk e => by
        rcases hv9 with h | h
        · have h3 : k = w1.heap.size := by rw [h] at hk; simpa [Value.ownBlock] using hk
          exact HNE.out (e.symm.trans h3)
        · have h3 : k = (y28).heap.size := by rw [h] at hk; simpa using hk
          have h2 : w1.heap.size + 1 < (y28).heap.size := hbbl
          omega)
      clear hbbl
      clear hke hg hown hfresh
      (try go_simp)
      refine hK.out _ _ (by exact ((HB.out.cell (p := ⟨b, off, none⟩) hbl).trans HLx.out)) (fun hHeld => ?_)
      clear hK K
      (try simp only [Act.put, List.setIfInBounds_toArray, List.set_cons_zero, List.set_cons_succ])
      refine wpAnyH_take (i := 12) (oi := ?_) (v := ?_) ?_ ?_ ?_ ?_ ?_ ?_ (by exact hHeld) ?_
      rotate_left 2
      · (simp only [List.getElem?_toArray, List.getElem?_cons_zero, List.getElem?_cons_succ]; try rfl)
      · kernel_rfl
      · kernel_rfl
      · kernel_rfl
      · exact fun _ _ _ h => h
      · refine Or.inl ⟨by rfl, ?_⟩
        (intro V hSV; (try dsimp only at hSV); have q0 := hSV; go_simp; try with_reducible rfl)
      (try simp only [Act.put, List.setIfInBounds_toArray, List.set_cons_zero, List.set_cons_succ])
      have g0 := BX.out.cell 0
      have f0 := BX.out.frozen 0
      have g1 := BX.out.cell 1
      have f1 := BX.out.frozen 1
      have g2 := BX.out.cell 2
      have f2 := BX.out.frozen 2
      have g3 := BX.out.cell 3
      have f3 := BX.out.frozen 3
      have BF : Hid (Blk (((((((((y29).setCell ⟨w1.heap.size + 1, 0, none⟩ (.int .i64 x))).setCell ⟨w1.heap.size + 1, 1, none⟩ (.int .i64 p))).setCell ⟨w1.heap.size + 1, 2, none⟩ (.int .i64 q))).setCell ⟨w1.heap.size + 1, 3, none⟩ (.slice AV T.length cV))) (w1.heap.size + 1) #[.int .i64 x, .int .i64 p, .int .i64 q, .slice AV T.length cV] 27) := Lib.hid (by simpa using ((((BX.out.set 0 (.int .i64 x)).set 1 (.int .i64 p)).set 2 (.int .i64 q)).set 3 (.slice AV T.length cV)))
      have HBF : Hid (Below w1.heap.size w1 (((((((((y29).setCell ⟨w1.heap.size + 1, 0, none⟩ (.int .i64 x))).setCell ⟨w1.heap.size + 1, 1, none⟩ (.int .i64 p))).setCell ⟨w1.heap.size + 1, 2, none⟩ (.int .i64 q))).setCell ⟨w1.heap.size + 1, 3, none⟩ (.slice AV T.length cV)))) := Lib.hid ((((HB.out.setCell (p := ⟨w1.heap.size + 1, 0, none⟩) HLO.out (.int .i64 x)).setCell (p := ⟨w1.heap.size + 1, 1, none⟩) HLO.out (.int .i64 p)).setCell (p := ⟨w1.heap.size + 1, 2, none⟩) HLO.out (.int .i64 q)).setCell (p := ⟨w1.heap.size + 1, 3, none⟩) HLO.out (.slice AV T.length cV))
      have VF : Hid (Own (((((((((y29).setCell ⟨w1.heap.size + 1, 0, none⟩ (.int .i64 x))).setCell ⟨w1.heap.size + 1, 1, none⟩ (.int .i64 p))).setCell ⟨w1.heap.size + 1, 2, none⟩ (.int .i64 q))).setCell ⟨w1.heap.size + 1, 3, none⟩ (.slice AV T.length cV))) w1.heap.size (.slice AV T.length cV) T) := Lib.hid ((((VV.out.heap (fun k hk => Below.heap_setCell _ ⟨w1.heap.size + 1, 0, none⟩ (.int .i64 x) k (fun e => HVB.out k hk e))).heap (fun k hk => Below.heap_setCell _ ⟨w1.heap.size + 1, 1, none⟩ (.int .i64 p) k (fun e => HVB.out k hk e))).heap (fun k hk => Below.heap_setCell _ ⟨w1.heap.size + 1, 2, none⟩ (.int .i64 q) k (fun e => HVB.out k hk e))).heap (fun k hk => Below.heap_setCell _ ⟨w1.heap.size + 1, 3, none⟩ (.slice AV T.length cV) k (fun e => HVB.out k hk e)))
      have HB := HBF
      refine wpAnyH_ready (rs := [14]) (by kernel_rfl) (by simp) ?_
      refine AllReadyH.cons (o := ?_) ?_ (fun K hK => ?_) AllReadyH.nil
      rotate_left 1
      · (simp only [List.getElem?_toArray, List.getElem?_cons_zero, List.getElem?_cons_succ]; try rfl)
      go_simp
      refine hK.out _ _ (by exact ((HB.out.cell (p := ⟨b, off, none⟩) hbl).trans HLx.out)) (fun hHeld => ?_)
      clear hK K
      (try simp only [Act.put, List.setIfInBounds_toArray, List.set_cons_zero, List.set_cons_succ])
      refine wpAnyH_done (by kernel_rfl) ?_ _
      refine NoPanic.normal ?_
      go_wp2_with fail
      go_meet
      exact ⟨w1.heap.size + 1, AV, cV, rfl, BF.out, VF.out, HLO.out, HBF.out⟩
    refine AllReadyH.cons (o := ?_) ?_ (fun K hK => ?_) AllReadyH.nil
    rotate_left 1
    · (simp only [List.getElem?_toArray, List.getElem?_cons_zero, List.getElem?_cons_succ]; try rfl)
    have hbA := (Below.refl (w1.drew).heap.size (w1.drew)).alloc (Nat.le_refl _) (.cells #[.int .i64 0, .int .i64 0, .int .i64 0, .slice none 0 0] 27)
    have hBX : Blk ((w1.drew).alloc (.cells #[.int .i64 0, .int .i64 0, .int .i64 0, .slice none 0 0] 27)) (w1.heap.size) #[.int .i64 0, .int .i64 0, .int .i64 0, .slice none 0 0] 27 := by
      have h := Blk.new (w1.drew) #[.int .i64 0, .int .i64 0, .int .i64 0, .slice none 0 0] 27
      first | exact h | simpa using h
    have BX := Lib.hid hBX
    have HLO : Hid (w1.heap.size ≤ w1.heap.size) := Lib.hid (by have h := HB.out.size; first | exact h | (simp; done) | (simp at h ⊢; omega))
    clear hBX
    have HB := Lib.hid (HB.out.trans (hbA.mono HB.out.size))
    clear hbA
    go_simp
    refine hK.out _ _ (by exact ((HB.out.cell (p := ⟨b, off, none⟩) hbl).trans HLx.out)) (fun hHeld => ?_)
    clear hK K
    (try simp only [Act.put, List.setIfInBounds_toArray, List.set_cons_zero, List.set_cons_succ])
    refine wpAnyH_ready (rs := [5, 8]) (by kernel_rfl) (by simp) ?_
    refine AllReadyH.cons (o := ?_) ?_ (fun K hK => ?_) ?_
    rotate_left 1
    · (simp only [List.getElem?_toArray, List.getElem?_cons_zero, List.getElem?_cons_succ]; try rfl)
    · go_simp
      refine (l09At_any (some ⟨b, off, none⟩) l c 1 _ hn9 (by omega) (by exact hA.below HB.out)).mono ?_
      rintro e y30 ⟨rfl, hE⟩
      have hb : Below (((w1.drew).alloc (.cells #[.int .i64 0, .int .i64 0, .int .i64 0, .slice none 0 0] 27))).heap.size (((w1.drew).alloc (.cells #[.int .i64 0, .int .i64 0, .int .i64 0, .slice none 0 0] 27))) y30 := by obtain ⟨n, rfl⟩ := hE; exact below_of_drewN _ n
      rw [HWp.out]
      have HB := Lib.hid (HB.out.trans (hb.mono HB.out.size))
      have BX := Lib.hid (BX.out.below hb)
      clear hb hE
      go_wp2_with fail
      refine hK.out _ _ (by exact ((HB.out.cell (p := ⟨b, off, none⟩) hbl).trans HLx.out)) (fun hHeld => ?_)
      clear hK K
      (try simp only [Act.put, List.setIfInBounds_toArray, List.set_cons_zero, List.set_cons_succ])
      refine wpAnyH_ready (rs := [7, 8]) (by kernel_rfl) (by simp) ?_
      refine AllReadyH.cons (o := ?_) ?_ (fun K hK => ?_) ?_
      rotate_left 1
      · (simp only [List.getElem?_toArray, List.getElem?_cons_zero, List.getElem?_cons_succ]; try rfl)
      · go_simp
        refine (l09At_any (some ⟨b, off, none⟩) l c 3 _ hn9 (by omega) (by exact hA.below HB.out)).mono ?_
        rintro e y31 ⟨rfl, hE⟩
        have hb : Below (y30).heap.size (y30) y31 := by obtain ⟨n, rfl⟩ := hE; exact below_of_drewN _ n
        rw [HWq.out]
        have HB := Lib.hid (HB.out.trans (hb.mono HB.out.size))
        have BX := Lib.hid (BX.out.below hb)
        clear hb hE
        go_wp2_with fail
        refine hK.out _ _ (by exact ((HB.out.cell (p := ⟨b, off, none⟩) hbl).trans HLx.out)) (fun hHeld => ?_)
        clear hK K
        (try simp only [Act.put, List.setIfInBounds_toArray, List.set_cons_zero, List.set_cons_succ])
        refine wpAnyH_ready (rs := [8]) (by kernel_rfl) (by simp) ?_
        refine AllReadyH.cons (o := ?_) ?_ (fun K hK => ?_) AllReadyH.nil
        rotate_left 1
        · (simp only [List.getElem?_toArray, List.getElem?_cons_zero, List.getElem?_cons_succ]; try rfl)
        have hbA := (Below.refl (y31).heap.size (y31)).alloc (Nat.le_refl _) (.cells #[] 5)
        have hE0 : Own ((y31).alloc (.cells #[] 5)) w1.heap.size (.slice (some ⟨y31.heap.size, 0, none⟩) 0 0) [] := by
          have h := Own.mono (show Own ((y31).alloc (.cells #[] 5)) (y31).heap.size (.slice (some ⟨(y31).heap.size, 0, none⟩) 0 0) [] from Own.new (y31) [] (by simp [maxLen])) (show w1.heap.size ≤ (y31).heap.size from HB.out.size)
          first | exact h | simpa using h
        have E0 := Lib.hid hE0
        clear hE0
        have HNE : Hid (w1.heap.size ≠ y31.heap.size) := Lib.hid (Nat.ne_of_lt (by have h := BX.out.lt; first | exact h | (simp; done) | (simp at h ⊢; omega)))
        have HB := Lib.hid (HB.out.trans (hbA.mono HB.out.size))
        have BX := Lib.hid (BX.out.below hbA)
        clear hbA
        go_simp
        refine hK.out _ _ (by exact ((HB.out.cell (p := ⟨b, off, none⟩) hbl).trans HLx.out)) (fun hHeld => ?_)
        clear hK K
        (try simp only [Act.put, List.setIfInBounds_toArray, List.set_cons_zero, List.set_cons_succ])
        refine wpAnyH_ready (rs := [11]) (by kernel_rfl) (by simp) ?_
        refine AllReadyH.cons (o := ?_) ?_ (fun K hK => ?_) AllReadyH.nil
        rotate_left 1
        · (simp only [List.getElem?_toArray, List.getElem?_cons_zero, List.getElem?_cons_succ]; try rfl)
        have hfresh := E0.out.range
        refine step_app_bytes9 rfl (.tmp 17) (.tmp 19) rfl _ (Value.slice (some ⟨y31.heap.size, 0, none⟩) 0 0) [] T D N rc rfl rfl HN.out (by exact E0.out) (by exact HS.out.below HB.out) (by simp; omega) (by exact HB.out.size) ?_
        intro v9 y33 hown hg hv9
        have hg : World.grownBy (((y31).alloc (.cells #[] 5))) y33 (Value.slice (some ⟨y31.heap.size, 0, none⟩) 0 0).ownBlock := ⟨hg.os, hg.tape, hg.output, hg.size, hg.block⟩
        have hke := Keeps.of_grown hg
        have hown : Own y33 w1.heap.size v9 T := hown
        have hbbl := BX.out.lt
        have BX := Lib.hid (BX.out.of_block (hke.block _ BX.out.lt (fun h => by first | (simp [Value.ownBlock] at h; done) | (have h2 := h; simp only [Value.ownBlock, Option.toList_some, List.mem_singleton] at h2; exact HNE.out h2))))
        have HB := Lib.hid (HB.out.trans (hke.below (B := w1.heap.size) HB.out.size (fun k hk => (hfresh k hk).1)))
        obtain ⟨AV, cV, rfl, lV, kV, _, _, _⟩ := own_plain9 hown
        have VV := Lib.hid hown
        have HVB : Hid (∀ k ∈ (Value.slice AV T.length cV).ownBlock.toList, k ≠ w1.heap.size) := Lib.hid (fun k hk e => by
          rcases hv9 with h | h
          · have h3 : k = y31.heap.size := by rw [h] at hk; simpa [Value.ownBlock] using hk
            exact HNE.out (e.symm.trans h3)
          · have h3 : k = (((y31).alloc (.cells #[] 5))).heap.size := by rw [h] at hk; simpa using hk
            have h2 : w1.heap.size < (((y31).alloc (.cells #[] 5))).heap.size := hbbl
            omega)
        clear hbbl
        clear hke hg hown hfresh
        (try go_simp)
        refine hK.out _ _ (by exact ((HB.out.cell (p := ⟨b, off, none⟩) hbl).trans HLx.out)) (fun hHeld => ?_)
        clear hK K
        (try simp only [Act.put, List.setIfInBounds_toArray, List.set_cons_zero, List.set_cons_succ])
        refine wpAnyH_take (i := 12) (oi := ?_) (v := ?_) ?_ ?_ ?_ ?_ ?_ ?_ (by exact hHeld) ?_
        rotate_left 2
        · (simp only [List.getElem?_toArray, List.getElem?_cons_zero, List.getElem?_cons_succ]; try rfl)
        · kernel_rfl
        · kernel_rfl
        · kernel_rfl
        · exact fun _ _ _ h => h
        · refine Or.inl ⟨by rfl, ?_⟩
          (intro V hSV; (try dsimp only at hSV); have q0 := hSV; go_simp; try with_reducible rfl)
        (try simp only [Act.put, List.setIfInBounds_toArray, List.set_cons_zero, List.set_cons_succ])
        have g0 := BX.out.cell 0
        have f0 := BX.out.frozen 0
        have g1 := BX.out.cell 1
        have f1 := BX.out.frozen 1
        have g2 := BX.out.cell 2
        have f2 := BX.out.frozen 2
        have g3 := BX.out.cell 3
        have f3 := BX.out.frozen 3
        have BF : Hid (Blk (((((((((y33).setCell ⟨w1.heap.size, 0, none⟩ (.int .i64 x))).setCell ⟨w1.heap.size, 1, none⟩ (.int .i64 p))).setCell ⟨w1.heap.size, 2, none⟩ (.int .i64 q))).setCell ⟨w1.heap.size, 3, none⟩ (.slice AV T.length cV))) (w1.heap.size) #[.int .i64 x, .int .i64 p, .int .i64 q, .slice AV T.length cV] 27) := Lib.hid (by simpa using ((((BX.out.set 0 (.int .i64 x)).set 1 (.int .i64 p)).set 2 (.int .i64 q)).set 3 (.slice AV T.length cV)))
        have HBF : Hid (Below w1.heap.size w1 (((((((((y33).setCell ⟨w1.heap.size, 0, none⟩ (.int .i64 x))).setCell ⟨w1.heap.size, 1, none⟩ (.int .i64 p))).setCell ⟨w1.heap.size, 2, none⟩ (.int .i64 q))).setCell ⟨w1.heap.size, 3, none⟩ (.slice AV T.length cV)))) := Lib.hid ((((HB.out.setCell (p := ⟨w1.heap.size, 0, none⟩) HLO.out (.int .i64 x)).setCell (p := ⟨w1.heap.size, 1, none⟩) HLO.out (.int .i64 p)).setCell (p := ⟨w1.heap.size, 2, none⟩) HLO.out (.int .i64 q)).setCell (p := ⟨w1.heap.size, 3, none⟩) HLO.out (.slice AV T.length cV))
        have VF : Hid (Own (((((((((y33).setCell ⟨w1.heap.size, 0, none⟩ (.int .i64 x))).setCell ⟨w1.heap.size, 1, none⟩ (.int .i64 p))).setCell ⟨w1.heap.size, 2, none⟩ (.int .i64 q))).setCell ⟨w1.heap.size, 3, none⟩ (.slice AV T.length cV))) w1.heap.size (.slice AV T.length cV) T) := Lib.hid ((((VV.out.heap (fun k hk => Below.heap_setCell _ ⟨w1.heap.size, 0, none⟩ (.int .i64 x) k (fun e => HVB.out k hk e))).heap (fun k hk => Below.heap_setCell _ ⟨w1.heap.size, 1, none⟩ (.int .i64 p) k (fun e => HVB.out k hk e))).heap (fun k hk => Below.heap_setCell _ ⟨w1.heap.size, 2, none⟩ (.int .i64 q) k (fun e => HVB.out k hk e))).heap (fun k hk => Below.heap_setCell _ ⟨w1.heap.size, 3, none⟩ (.slice AV T.length cV) k (fun e => HVB.out k hk e)))
        have HB := HBF
        refine wpAnyH_ready (rs := [14]) (by kernel_rfl) (by simp) ?_
        refine AllReadyH.cons (o := ?_) ?_ (fun K hK => ?_) AllReadyH.nil
        rotate_left 1
        · (simp only [List.getElem?_toArray, List.getElem?_cons_zero, List.getElem?_cons_succ]; try rfl)
        go_simp
        refine hK.out _ _ (by exact ((HB.out.cell (p := ⟨b, off, none⟩) hbl).trans HLx.out)) (fun hHeld => ?_)
        clear hK K
        (try simp only [Act.put, List.setIfInBounds_toArray, List.set_cons_zero, List.set_cons_succ])
        refine wpAnyH_done (by kernel_rfl) ?_ _
        refine NoPanic.normal ?_
        go_wp2_with fail
        go_meet
        exact ⟨w1.heap.size, AV, cV, rfl, BF.out, VF.out, HLO.out, HBF.out⟩
      refine AllReadyH.cons (o := ?_) ?_ (fun K hK => ?_) AllReadyH.nil
      rotate_left 1
      · (simp only [List.getElem?_toArray, List.getElem?_cons_zero, List.getElem?_cons_succ]; try rfl)
      have hbA := (Below.refl (y30).heap.size (y30)).alloc (Nat.le_refl _) (.cells #[] 5)
      have hE0 : Own ((y30).alloc (.cells #[] 5)) w1.heap.size (.slice (some ⟨y30.heap.size, 0, none⟩) 0 0) [] := by
        have h := Own.mono (show Own ((y30).alloc (.cells #[] 5)) (y30).heap.size (.slice (some ⟨(y30).heap.size, 0, none⟩) 0 0) [] from Own.new (y30) [] (by simp [maxLen])) (show w1.heap.size ≤ (y30).heap.size from HB.out.size)
        first | exact h | simpa using h
      have E0 := Lib.hid hE0
      clear hE0
      have HNE : Hid (w1.heap.size ≠ y30.heap.size) := Lib.hid (Nat.ne_of_lt (by have h := BX.out.lt; first | exact h | (simp; done) | (simp at h ⊢; omega)))
      have HB := Lib.hid (HB.out.trans (hbA.mono HB.out.size))
      have BX := Lib.hid (BX.out.below hbA)
      clear hbA
      go_simp
      refine hK.out _ _ (by exact ((HB.out.cell (p := ⟨b, off, none⟩) hbl).trans HLx.out)) (fun hHeld => ?_)
      clear hK K
      (try simp only [Act.put, List.setIfInBounds_toArray, List.set_cons_zero, List.set_cons_succ])
      refine wpAnyH_ready (rs := [7]) (by kernel_rfl) (by simp) ?_
      refine AllReadyH.cons (o := ?_) ?_ (fun K hK => ?_) AllReadyH.nil
      rotate_left 1
      · (simp only [List.getElem?_toArray, List.getElem?_cons_zero, List.getElem?_cons_succ]; try rfl)
      go_simp
      refine (l09At_any (some ⟨b, off, none⟩) l c 3 _ hn9 (by omega) (by exact hA.below HB.out)).mono ?_
      rintro e y35 ⟨rfl, hE⟩
      have hb : Below (((y30).alloc (.cells #[] 5))).heap.size (((y30).alloc (.cells #[] 5))) y35 := by obtain ⟨n, rfl⟩ := hE; exact below_of_drewN _ n
      rw [HWq.out]
      have HB := Lib.hid (HB.out.trans (hb.mono HB.out.size))
      have BX := Lib.hid (BX.out.below hb)
      have E0 := Lib.hid (E0.out.below hb)
      clear hb hE
      go_wp2_with fail
      refine hK.out _ _ (by exact ((HB.out.cell (p := ⟨b, off, none⟩) hbl).trans HLx.out)) (fun hHeld => ?_)
      clear hK K
      (try simp only [Act.put, List.setIfInBounds_toArray, List.set_cons_zero, List.set_cons_succ])
      refine wpAnyH_ready (rs := [11]) (by kernel_rfl) (by simp) ?_
      refine AllReadyH.cons (o := ?_) ?_ (fun K hK => ?_) AllReadyH.nil
      rotate_left 1
      · (simp only [List.getElem?_toArray, List.getElem?_cons_zero, List.getElem?_cons_succ]; try rfl)
      have hfresh := E0.out.range
      refine step_app_bytes9 rfl (.tmp 17) (.tmp 19) rfl _ (Value.slice (some ⟨y30.heap.size, 0, none⟩) 0 0) [] T D N rc rfl rfl HN.out (by exact E0.out) (by exact HS.out.below HB.out) (by simp; omega) (by exact HB.out.size) ?_
      intro v9 y36 hown hg hv9
      have hg : World.grownBy (y35) y36 (Value.slice (some ⟨y30.heap.size, 0, none⟩) 0 0).ownBlock := ⟨hg.os, hg.tape, hg.output, hg.size, hg.block⟩
      have hke := Keeps.of_grown hg
      have hown : Own y36 w1.heap.size v9 T := hown
      have hbbl := BX.out.lt
      have BX := Lib.hid (BX.out.of_block (hke.block _ BX.out.lt (fun h => by first | (simp [Value.ownBlock] at h; done) | (have h2 := h; simp only [Value.ownBlock, Option.toList_some, List.mem_singleton] at h2; exact HNE.out h2))))
      have HB := Lib.hid (HB.out.trans (hke.below (B := w1.heap.size) HB.out.size (fun k hk => (hfresh k hk).1)))
      obtain ⟨AV, cV, rfl, lV, kV, _, _, _⟩ := own_plain9 hown
      have VV := Lib.hid hown
      have HVB : Hid (∀ k ∈ (Value.slice AV T.length cV).ownBlock.toList, k ≠ w1.heap.size) := Lib.hid (fun k hk e => by
        rcases hv9 with h | h
        · have h3 : k = y30.heap.size := by rw [h] at hk; simpa [Value.ownBlock] using hk
          exact HNE.out (e.symm.trans h3)
        · have h3 : k = (y35).heap.size := by rw [h] at hk; simpa using hk
          have h2 : w1.heap.size < (y35).heap.size := hbbl
          omega)
      clear hbbl
      clear hke hg hown hfresh
      (try go_simp)
      refine hK.out _ _ (by exact ((HB.out.cell (p := ⟨b, off, none⟩) hbl).trans HLx.out)) (fun hHeld => ?_)
      clear hK K
      (try simp only [Act.put, List.setIfInBounds_toArray, List.set_cons_zero, List.set_cons_succ])
      refine wpAnyH_take (i := 12) (oi := ?_) (v := ?_) ?_ ?_ ?_ ?_ ?_ ?_ (by exact hHeld) ?_
      rotate_left 2
      · (simp only [List.getElem?_toArray, List.getElem?_cons_zero, List.getElem?_cons_succ]; try rfl)
      · kernel_rfl
      · kernel_rfl
      · kernel_rfl
      · exact fun _ _ _ h => h
      · refine Or.inl ⟨by rfl, ?_⟩
        (intro V hSV; (try dsimp only at hSV); have q0 := hSV; go_simp; try with_reducible rfl)
      (try simp only [Act.put, List.setIfInBounds_toArray, List.set_cons_zero, List.set_cons_succ])
      have g0 := BX.out.cell 0
      have f0 := BX.out.frozen 0
      have g1 := BX.out.cell 1
      have f1 := BX.out.frozen 1
      have g2 := BX.out.cell 2
      have f2 := BX.out.frozen 2
      have g3 := BX.out.cell 3
      have f3 := BX.out.frozen 3
      have BF : Hid (Blk (((((((((y36).setCell ⟨w1.heap.size, 0, none⟩ (.int .i64 x))).setCell ⟨w1.heap.size, 1, none⟩ (.int .i64 p))).setCell ⟨w1.heap.size, 2, none⟩ (.int .i64 q))).setCell ⟨w1.heap.size, 3, none⟩ (.slice AV T.length cV))) (w1.heap.size) #[.int .i64 x, .int .i64 p, .int .i64 q, .slice AV T.length cV] 27) := Lib.hid (by simpa using ((((BX.out.set 0 (.int .i64 x)).set 1 (.int .i64 p)).set 2 (.int .i64 q)).set 3 (.slice AV T.length cV)))
      have HBF : Hid (Below w1.heap.size w1 (((((((((y36).setCell ⟨w1.heap.size, 0, none⟩ (.int .i64 x))).setCell ⟨w1.heap.size, 1, none⟩ (.int .i64 p))).setCell ⟨w1.heap.size, 2, none⟩ (.int .i64 q))).setCell ⟨w1.heap.size, 3, none⟩ (.slice AV T.length cV)))) := Lib.hid ((((HB.out.setCell (p := ⟨w1.heap.size, 0, none⟩) HLO.out (.int .i64 x)).setCell (p := ⟨w1.heap.size, 1, none⟩) HLO.out (.int .i64 p)).setCell (p := ⟨w1.heap.size, 2, none⟩) HLO.out (.int .i64 q)).setCell (p := ⟨w1.heap.size, 3, none⟩) HLO.out (.slice AV T.length cV))
      have VF : Hid (Own (((((((((y36).setCell ⟨w1.heap.size, 0, none⟩ (.int .i64 x))).setCell ⟨w1.heap.size, 1, none⟩ (.int .i64 p))).setCell ⟨w1.heap.size, 2, none⟩ (.int .i64 q))).setCell ⟨w1.heap.size, 3, none⟩ (.slice AV T.length cV))) w1.heap.size (.slice AV T.length cV) T) := Lib.hid ((((VV.out.heap (fun k hk => Below.heap_setCell _ ⟨w1.heap.size, 0, none⟩ (.int .i64 x) k (fun e => HVB.out k hk e))).heap (fun k hk => Below.heap_setCell _ ⟨w1.heap.size, 1, none⟩ (.int .i64 p) k (fun e => HVB.out k hk e))).heap (fun k hk => Below.heap_setCell _ ⟨w1.heap.size, 2, none⟩ (.int .i64 q) k (fun e => HVB.out k hk e))).heap (fun k hk => Below.heap_setCell _ ⟨w1.heap.size, 3, none⟩ (.slice AV T.length cV) k (fun e => HVB.out k hk e)))
      have HB := HBF
      refine wpAnyH_ready (rs := [14]) (by kernel_rfl) (by simp) ?_
      refine AllReadyH.cons (o := ?_) ?_ (fun K hK => ?_) AllReadyH.nil
      rotate_left 1
      · (simp only [List.getElem?_toArray, List.getElem?_cons_zero, List.getElem?_cons_succ]; try rfl)
      go_simp
      refine hK.out _ _ (by exact ((HB.out.cell (p := ⟨b, off, none⟩) hbl).trans HLx.out)) (fun hHeld => ?_)
      clear hK K
      (try simp only [Act.put, List.setIfInBounds_toArray, List.set_cons_zero, List.set_cons_succ])
      refine wpAnyH_done (by kernel_rfl) ?_ _
      refine NoPanic.normal ?_
      go_wp2_with fail
      go_meet
      exact ⟨w1.heap.size, AV, cV, rfl, BF.out, VF.out, HLO.out, HBF.out⟩
    refine AllReadyH.cons (o := ?_) ?_ (fun K hK => ?_) AllReadyH.nil
    rotate_left 1
    · (simp only [List.getElem?_toArray, List.getElem?_cons_zero, List.getElem?_cons_succ]; try rfl)
    have hbA := (Below.refl (((w1.drew).alloc (.cells #[.int .i64 0, .int .i64 0, .int .i64 0, .slice none 0 0] 27))).heap.size (((w1.drew).alloc (.cells #[.int .i64 0, .int .i64 0, .int .i64 0, .slice none 0 0] 27)))).alloc (Nat.le_refl _) (.cells #[] 5)
    have hE0 : Own ((((w1.drew).alloc (.cells #[.int .i64 0, .int .i64 0, .int .i64 0, .slice none 0 0] 27))).alloc (.cells #[] 5)) w1.heap.size (.slice (some ⟨w1.heap.size + 1, 0, none⟩) 0 0) [] := by
      have h := Own.mono (show Own ((((w1.drew).alloc (.cells #[.int .i64 0, .int .i64 0, .int .i64 0, .slice none 0 0] 27))).alloc (.cells #[] 5)) (((w1.drew).alloc (.cells #[.int .i64 0, .int .i64 0, .int .i64 0, .slice none 0 0] 27))).heap.size (.slice (some ⟨(((w1.drew).alloc (.cells #[.int .i64 0, .int .i64 0, .int .i64 0, .slice none 0 0] 27))).heap.size, 0, none⟩) 0 0) [] from Own.new (((w1.drew).alloc (.cells #[.int .i64 0, .int .i64 0, .int .i64 0, .slice none 0 0] 27))) [] (by simp [maxLen])) (show w1.heap.size ≤ (((w1.drew).alloc (.cells #[.int .i64 0, .int .i64 0, .int .i64 0, .slice none 0 0] 27))).heap.size from HB.out.size)
      first | exact h | simpa using h
    have E0 := Lib.hid hE0
    clear hE0
    have HNE : Hid (w1.heap.size ≠ w1.heap.size + 1) := Lib.hid (Nat.ne_of_lt (by have h := BX.out.lt; first | exact h | (simp; done) | (simp at h ⊢; omega)))
    have HB := Lib.hid (HB.out.trans (hbA.mono HB.out.size))
    have BX := Lib.hid (BX.out.below hbA)
    clear hbA
    go_simp
    refine hK.out _ _ (by exact ((HB.out.cell (p := ⟨b, off, none⟩) hbl).trans HLx.out)) (fun hHeld => ?_)
    clear hK K
    (try simp only [Act.put, List.setIfInBounds_toArray, List.set_cons_zero, List.set_cons_succ])
    refine wpAnyH_ready (rs := [5]) (by kernel_rfl) (by simp) ?_
    refine AllReadyH.cons (o := ?_) ?_ (fun K hK => ?_) AllReadyH.nil
    rotate_left 1
    · (simp only [List.getElem?_toArray, List.getElem?_cons_zero, List.getElem?_cons_succ]; try rfl)
    go_simp
    refine (l09At_any (some ⟨b, off, none⟩) l c 1 _ hn9 (by omega) (by exact hA.below HB.out)).mono ?_
    rintro e y38 ⟨rfl, hE⟩
    have hb : Below (((((w1.drew).alloc (.cells #[.int .i64 0, .int .i64 0, .int .i64 0, .slice none 0 0] 27))).alloc (.cells #[] 5))).heap.size (((((w1.drew).alloc (.cells #[.int .i64 0, .int .i64 0, .int .i64 0, .slice none 0 0] 27))).alloc (.cells #[] 5))) y38 := by obtain ⟨n, rfl⟩ := hE; exact below_of_drewN _ n
    rw [HWp.out]
    have HB := Lib.hid (HB.out.trans (hb.mono HB.out.size))
    have BX := Lib.hid (BX.out.below hb)
    have E0 := Lib.hid (E0.out.below hb)
    clear hb hE
    go_wp2_with fail
    refine hK.out _ _ (by exact ((HB.out.cell (p := ⟨b, off, none⟩) hbl).trans HLx.out)) (fun hHeld => ?_)
    clear hK K
    (try simp only [Act.put, List.setIfInBounds_toArray, List.set_cons_zero, List.set_cons_succ])
    refine wpAnyH_ready (rs := [7]) (by kernel_rfl) (by simp) ?_
    refine AllReadyH.cons (o := ?_) ?_ (fun K hK => ?_) AllReadyH.nil
    rotate_left 1
    · (simp only [List.getElem?_toArray, List.getElem?_cons_zero, List.getElem?_cons_succ]; try rfl)
    go_simp
    refine (l09At_any (some ⟨b, off, none⟩) l c 3 _ hn9 (by omega) (by exact hA.below HB.out)).mono ?_
    rintro e y39 ⟨rfl, hE⟩
    have hb : Below (y38).heap.size (y38) y39 := by obtain ⟨n, rfl⟩ := hE; exact below_of_drewN _ n
    rw [HWq.out]
    have HB := Lib.hid (HB.out.trans (hb.mono HB.out.size))
    have BX := Lib.hid (BX.out.below hb)
    have E0 := Lib.hid (E0.out.below hb)
    clear hb hE
    go_wp2_with fail
    refine hK.out _ _ (by exact ((HB.out.cell (p := ⟨b, off, none⟩) hbl).trans HLx.out)) (fun hHeld => ?_)
    clear hK K
    (try simp only [Act.put, List.setIfInBounds_toArray, List.set_cons_zero, List.set_cons_succ])
    refine wpAnyH_ready (rs := [11]) (by kernel_rfl) (by simp) ?_
    refine AllReadyH.cons (o := ?_) ?_ (fun K hK => ?_) AllReadyH.nil
    rotate_left 1
    · (simp only [List.getElem?_toArray, List.getElem?_cons_zero, List.getElem?_cons_succ]; try rfl)
    have hfresh := E0.out.range
    refine step_app_bytes9 rfl (.tmp 17) (.tmp 19) rfl _ (Value.slice (some ⟨w1.heap.size + 1, 0, none⟩) 0 0) [] T D N rc rfl rfl HN.out (by exact E0.out) (by exact HS.out.below HB.out) (by simp; omega) (by exact HB.out.size) ?_
    intro v9 y40 hown hg hv9
    have hg : World.grownBy (y39) y40 (Value.slice (some ⟨w1.heap.size + 1, 0, none⟩) 0 0).ownBlock := ⟨hg.os, hg.tape, hg.output, hg.size, hg.block⟩
    have hke := Keeps.of_grown hg
    have hown : Own y40 w1.heap.size v9 T := hown
    have hbbl := BX.out.lt
    have BX := Lib.hid (BX.out.of_block (hke.block _ BX.out.lt (fun h => by first | (simp [Value.ownBlock] at h; done) | (have h2 := h; simp only [Value.ownBlock, Option.toList_some, List.mem_singleton] at h2; exact HNE.out h2))))
    have HB := Lib.hid (HB.out.trans (hke.below (B := w1.heap.size) HB.out.size (fun k hk => (hfresh k hk).1)))
    obtain ⟨AV, cV, rfl, lV, kV, _, _, _⟩ := own_plain9 hown
    have VV := Lib.hid hown
    have HVB : Hid (∀ k ∈ (Value.slice AV T.length cV).ownBlock.toList, k ≠ w1.heap.size) := Lib.hid (fun k hk e => by
      rcases hv9 with h | h
      · have h3 : k = w1.heap.size + 1 := by rw [h] at hk; simpa [Value.ownBlock] using hk
        exact HNE.out (e.symm.trans h3)
      · have h3 : k = (y39).heap.size := by rw [h] at hk; simpa using hk
        have h2 : w1.heap.size < (y39).heap.size := hbbl
        omega)
    clear hbbl
    clear hke hg hown hfresh
    (try go_simp)
    refine hK.out _ _ (by exact ((HB.out.cell (p := ⟨b, off, none⟩) hbl).trans HLx.out)) (fun hHeld => ?_)
    clear hK K
    (try simp only [Act.put, List.setIfInBounds_toArray, List.set_cons_zero, List.set_cons_succ])
    refine wpAnyH_take (i := 12) (oi := ?_) (v := ?_) ?_ ?_ ?_ ?_ ?_ ?_ (by exact hHeld) ?_
    rotate_left 2
    · (simp only [List.getElem?_toArray, List.getElem?_cons_zero, List.getElem?_cons_succ]; try rfl)
    · kernel_rfl
    · kernel_rfl
    · kernel_rfl
    · exact fun _ _ _ h => h
    · refine Or.inl ⟨by rfl, ?_⟩
      (intro V hSV; (try dsimp only at hSV); have q0 := hSV; go_simp; try with_reducible rfl)
    (try simp only [Act.put, List.setIfInBounds_toArray, List.set_cons_zero, List.set_cons_succ])
    have g0 := BX.out.cell 0
    have f0 := BX.out.frozen 0
    have g1 := BX.out.cell 1
    have f1 := BX.out.frozen 1
    have g2 := BX.out.cell 2
    have f2 := BX.out.frozen 2
    have g3 := BX.out.cell 3
    have f3 := BX.out.frozen 3
    have BF : Hid (Blk (((((((((y40).setCell ⟨w1.heap.size, 0, none⟩ (.int .i64 x))).setCell ⟨w1.heap.size, 1, none⟩ (.int .i64 p))).setCell ⟨w1.heap.size, 2, none⟩ (.int .i64 q))).setCell ⟨w1.heap.size, 3, none⟩ (.slice AV T.length cV))) (w1.heap.size) #[.int .i64 x, .int .i64 p, .int .i64 q, .slice AV T.length cV] 27) := Lib.hid (by simpa using ((((BX.out.set 0 (.int .i64 x)).set 1 (.int .i64 p)).set 2 (.int .i64 q)).set 3 (.slice AV T.length cV)))
    have HBF : Hid (Below w1.heap.size w1 (((((((((y40).setCell ⟨w1.heap.size, 0, none⟩ (.int .i64 x))).setCell ⟨w1.heap.size, 1, none⟩ (.int .i64 p))).setCell ⟨w1.heap.size, 2, none⟩ (.int .i64 q))).setCell ⟨w1.heap.size, 3, none⟩ (.slice AV T.length cV)))) := Lib.hid ((((HB.out.setCell (p := ⟨w1.heap.size, 0, none⟩) HLO.out (.int .i64 x)).setCell (p := ⟨w1.heap.size, 1, none⟩) HLO.out (.int .i64 p)).setCell (p := ⟨w1.heap.size, 2, none⟩) HLO.out (.int .i64 q)).setCell (p := ⟨w1.heap.size, 3, none⟩) HLO.out (.slice AV T.length cV))
    have VF : Hid (Own (((((((((y40).setCell ⟨w1.heap.size, 0, none⟩ (.int .i64 x))).setCell ⟨w1.heap.size, 1, none⟩ (.int .i64 p))).setCell ⟨w1.heap.size, 2, none⟩ (.int .i64 q))).setCell ⟨w1.heap.size, 3, none⟩ (.slice AV T.length cV))) w1.heap.size (.slice AV T.length cV) T) := Lib.hid ((((VV.out.heap (fun k hk => Below.heap_setCell _ ⟨w1.heap.size, 0, none⟩ (.int .i64 x) k (fun e => HVB.out k hk e))).heap (fun k hk => Below.heap_setCell _ ⟨w1.heap.size, 1, none⟩ (.int .i64 p) k (fun e => HVB.out k hk e))).heap (fun k hk => Below.heap_setCell _ ⟨w1.heap.size, 2, none⟩ (.int .i64 q) k (fun e => HVB.out k hk e))).heap (fun k hk => Below.heap_setCell _ ⟨w1.heap.size, 3, none⟩ (.slice AV T.length cV) k (fun e => HVB.out k hk e)))
    have HB := HBF
    refine wpAnyH_ready (rs := [14]) (by kernel_rfl) (by simp) ?_
    refine AllReadyH.cons (o := ?_) ?_ (fun K hK => ?_) AllReadyH.nil
    rotate_left 1
    · (simp only [List.getElem?_toArray, List.getElem?_cons_zero, List.getElem?_cons_succ]; try rfl)
    go_simp
    refine hK.out _ _ (by exact ((HB.out.cell (p := ⟨b, off, none⟩) hbl).trans HLx.out)) (fun hHeld => ?_)
    clear hK K
    (try simp only [Act.put, List.setIfInBounds_toArray, List.set_cons_zero, List.set_cons_succ])
    refine wpAnyH_done (by kernel_rfl) ?_ _
    refine NoPanic.normal ?_
    go_wp2_with fail
    go_meet
    exact ⟨w1.heap.size, AV, cV, rfl, BF.out, VF.out, HLO.out, HBF.out⟩
  case rest =>
  obtain ⟨bb, AV, cV, rfl, hBB, hV, hbb, hbW⟩ := hcut
  have HBB := Lib.hid hBB
  have HV := Lib.hid hV
  have HW2 := Lib.hid (below_then HAL.out hbW)
  have RX := Lib.hid (RX.out.below hbW)
  obtain ⟨_, _, ev, lV, kV, hBV, _, _⟩ := own_plain9 hV
  cases ev
  have HBV := Lib.hid hBV
  clear hBB hV hbW hBV hA
  have b0 := HBB.out.cell 0
  have b1 := HBB.out.cell 1
  have b2 := HBB.out.cell 2
  have b3 := HBB.out.cell 3
  obtain ⟨z, hz⟩ : ∃ z, rpOk x p q T = z := ⟨_, rfl⟩
  have HZ := Lib.hid hz
  clear hz
  have hbbl := HBB.out.lt
  have HAC := Lib.hid (HA0.out.below HW2.out)
  have hcv := run_conv_bs c l.length rfl (HAC.out.below (Below.refl wc.heap.size wc).drew)
  cases z
  case false =>
    have HG : Hid (rpGood l = false) := Lib.hid (by rw [HGM.out, HWx.out, HWp.out, HWq.out, HTT.out, HZ.out]; rfl)
    go_upto_region 4 with fail
    refine wp_region_held_drew (S := (fun V => V.cell? ⟨bb, 0, none⟩ = some (.int .i64 x) ∧ V.cell? ⟨bb, 1, none⟩ = some (.int .i64 p) ∧ V.cell? ⟨bb, 2, none⟩ = some (.int .i64 q) ∧ V.cell? ⟨bb, 3, none⟩ = some (.slice AV T.length cV) ∧ Sem.run Tryd.prog (convert 22 9 (.slice (some ⟨b, off, none⟩) l.length c)) V = .ok (.string ⟨l.toArray⟩) V)) (by kernel_rfl) (by exact ⟨b0, b1, b2, b3, hcv⟩) (fun hHeld => ?_)
    refine wpAnyH_take (i := 0) (oi := ?_) (v := ?_) ?_ ?_ ?_ ?_ ?_ ?_ (by exact hHeld) ?_
    rotate_left 2
    · (simp only [List.getElem?_toArray, List.getElem?_cons_zero]; try rfl)
    · kernel_rfl
    · kernel_rfl
    · kernel_rfl
    · exact fun _ _ _ h => h
    · refine Or.inl ⟨by rfl, ?_⟩
      (intro V hSV; (try dsimp only at hSV); obtain ⟨q0, q1, q2, q3, q4⟩ := hSV; go_simp; try with_reducible rfl)
    (try simp only [Act.put, List.setIfInBounds_toArray, List.set_cons_zero, List.set_cons_succ])
    refine wpAnyH_ready (rs := [1]) (by kernel_rfl) (by simp) ?_
    refine AllReadyH.cons rfl (fun K hK => ?_) AllReadyH.nil
    go_simp
    refine (specReplyOk_any x p q AV T cV _ lV kV (by exact HBV.out)).mono ?_
    rintro e v1 ⟨rfl, hb⟩
    rw [HZ.out]
    have hb : Below wc.heap.size wc v1 := ⟨hb.os, hb.tape, hb.output, hb.size, hb.block⟩
    have H1 := Lib.hid hb
    clear hb
    go_wp2_with fail
    refine hK.out _ _ (by exact ⟨((H1.out).cell (p := ⟨bb, 0, none⟩) hbbl).trans b0, ((H1.out).cell (p := ⟨bb, 1, none⟩) hbbl).trans b1, ((H1.out).cell (p := ⟨bb, 2, none⟩) hbbl).trans b2, ((H1.out).cell (p := ⟨bb, 3, none⟩) hbbl).trans b3, run_conv_bs c l.length rfl (HAC.out.below H1.out)⟩) (fun hHeld => ?_)
    clear hK K
    (try simp only [Act.put, List.setIfInBounds_toArray, List.set_cons_zero, List.set_cons_succ])
    refine wpAnyH_take (i := 2) (oi := ?_) (v := ?_) ?_ ?_ ?_ ?_ ?_ ?_ (by exact hHeld) ?_
    rotate_left 2
    · (simp only [List.getElem?_toArray, List.getElem?_cons_zero, List.getElem?_cons_succ]; try rfl)
    · kernel_rfl
    · kernel_rfl
    · kernel_rfl
    · exact fun _ _ _ h => h
    · refine Or.inl ⟨by rfl, ?_⟩
      (intro V hSV; (try dsimp only at hSV); obtain ⟨q0, q1, q2, q3, q4⟩ := hSV; go_simp; try with_reducible rfl)
    (try simp only [Act.put, List.setIfInBounds_toArray, List.set_cons_zero, List.set_cons_succ])
    refine wpAnyH_take (i := 3) (oi := ?_) (v := ?_) ?_ ?_ ?_ ?_ ?_ ?_ (by exact hHeld) ?_
    rotate_left 2
    · (simp only [List.getElem?_toArray, List.getElem?_cons_zero, List.getElem?_cons_succ]; try rfl)
    · kernel_rfl
    · kernel_rfl
    · kernel_rfl
    · exact fun _ _ _ h => h
    · refine Or.inl ⟨by rfl, ?_⟩
      (intro V hSV; (try dsimp only at hSV); obtain ⟨q0, q1, q2, q3, q4⟩ := hSV; go_simp; try with_reducible rfl)
    (try simp only [Act.put, List.setIfInBounds_toArray, List.set_cons_zero, List.set_cons_succ])
    refine wpAnyH_take (i := 4) (oi := ?_) (v := undef) ?_ ?_ ?_ ?_ ?_ ?_ (by exact hHeld) ?_
    rotate_left 1
    · (simp only [List.getElem?_toArray, List.getElem?_cons_zero, List.getElem?_cons_succ]; try rfl)
    · kernel_rfl
    · kernel_rfl
    · kernel_rfl
    · exact fun _ _ _ h => h
    · refine Or.inr ?_
      exact ⟨by rfl, rfl⟩
    (try simp only [Act.put, List.setIfInBounds_toArray, List.set_cons_zero, List.set_cons_succ])
    refine wpAnyH_take (i := 5) (oi := ?_) (v := undef) ?_ ?_ ?_ ?_ ?_ ?_ (by exact hHeld) ?_
    rotate_left 1
    · (simp only [List.getElem?_toArray, List.getElem?_cons_zero, List.getElem?_cons_succ]; try rfl)
    · kernel_rfl
    · kernel_rfl
    · kernel_rfl
    · exact fun _ _ _ h => h
    · refine Or.inr ?_
      exact ⟨by rfl, rfl⟩
    (try simp only [Act.put, List.setIfInBounds_toArray, List.set_cons_zero, List.set_cons_succ])
    refine wpAnyH_take (i := 6) (oi := ?_) (v := undef) ?_ ?_ ?_ ?_ ?_ ?_ (by exact hHeld) ?_
    rotate_left 1
    · (simp only [List.getElem?_toArray, List.getElem?_cons_zero, List.getElem?_cons_succ]; try rfl)
    · kernel_rfl
    · kernel_rfl
    · kernel_rfl
    · exact fun _ _ _ h => h
    · refine Or.inr ?_
      exact ⟨by rfl, rfl⟩
    (try simp only [Act.put, List.setIfInBounds_toArray, List.set_cons_zero, List.set_cons_succ])
    refine wpAnyH_take (i := 7) (oi := ?_) (v := undef) ?_ ?_ ?_ ?_ ?_ ?_ (by exact hHeld) ?_
    rotate_left 1
    · (simp only [List.getElem?_toArray, List.getElem?_cons_zero, List.getElem?_cons_succ]; try rfl)
    · kernel_rfl
    · kernel_rfl
    · kernel_rfl
    · exact fun _ _ _ h => h
    · refine Or.inr ?_
      exact ⟨by rfl, rfl⟩
    (try simp only [Act.put, List.setIfInBounds_toArray, List.set_cons_zero, List.set_cons_succ])
    refine wpAnyH_take (i := 8) (oi := ?_) (v := undef) ?_ ?_ ?_ ?_ ?_ ?_ (by exact hHeld) ?_
    rotate_left 1
    · (simp only [List.getElem?_toArray, List.getElem?_cons_zero, List.getElem?_cons_succ]; try rfl)
    · kernel_rfl
    · kernel_rfl
    · kernel_rfl
    · exact fun _ _ _ h => h
    · refine Or.inr ?_
      exact ⟨by rfl, rfl⟩
    (try simp only [Act.put, List.setIfInBounds_toArray, List.set_cons_zero, List.set_cons_succ])
    refine wpAnyH_take (i := 9) (oi := ?_) (v := undef) ?_ ?_ ?_ ?_ ?_ ?_ (by exact hHeld) ?_
    rotate_left 1
    · (simp only [List.getElem?_toArray, List.getElem?_cons_zero, List.getElem?_cons_succ]; try rfl)
    · kernel_rfl
    · kernel_rfl
    · kernel_rfl
    · exact fun _ _ _ h => h
    · refine Or.inr ?_
      exact ⟨by rfl, rfl⟩
    (try simp only [Act.put, List.setIfInBounds_toArray, List.set_cons_zero, List.set_cons_succ])
    refine wpAnyH_take (i := 10) (oi := ?_) (v := ?_) ?_ ?_ ?_ ?_ ?_ ?_ (by exact hHeld) ?_
    rotate_left 2
    · (simp only [List.getElem?_toArray, List.getElem?_cons_zero, List.getElem?_cons_succ]; try rfl)
    · kernel_rfl
    · kernel_rfl
    · kernel_rfl
    · exact fun _ _ _ h => h
    · refine Or.inl ⟨by rfl, ?_⟩
      (intro V hSV; (try dsimp only at hSV); obtain ⟨q0, q1, q2, q3, q4⟩ := hSV; go_simp; try with_reducible rfl)
    (try simp only [Act.put, List.setIfInBounds_toArray, List.set_cons_zero, List.set_cons_succ])
    refine wpAnyH_done (by kernel_rfl) ?_ _
    clear hHeld hcv b0 b1 b2 b3
    have RX := Lib.hid (RX.out.below H1.out)
    have HB2 := Lib.hid (below_then HW2.out H1.out)
    have r0 := RX.out.cell 0
    have fr0 := RX.out.frozen 0
    have r1 := RX.out.cell 1
    have fr1 := RX.out.frozen 1
    have r2 := RX.out.cell 2
    have fr2 := RX.out.frozen 2
    have r3 := RX.out.cell 3
    have fr3 := RX.out.frozen 3
    have hzz := RX.out.lt
    go_wp2
    refine bodyPost_ret (v := .tuple #[.agg #[.int .i64 0, .int .i64 0, .int .i64 0, .slice none 0 0], .bool false]) (by simp [results, Tryd.results17, go_sem, r0, r1, r2, r3]) rfl ?_
    refine ⟨.slice none 0 0, by unfold rpFd; rw [HG.out]; rfl, by unfold rpT; rw [HG.out]; exact Own.nil _ _, ?_⟩
    repeat (refine Below.setCell ?_ (by simp) _)
    exact HB2.out
  obtain ⟨B, hB⟩ : ∃ B, rpBytes x p q T = B := ⟨_, rfl⟩
  have HBE := Lib.hid hB
  clear hB
  by_cases hq : B = l
  case neg =>
    have HG : Hid (rpGood l = false) := Lib.hid (by rw [HGM.out, HWx.out, HWp.out, HWq.out, HTT.out, HZ.out, HBE.out, decide_eq_false hq]; rfl)
    have hne1 : (B == l) = false := by simpa using hq
    go_upto_region 4 with fail
    refine wp_region_held_drew (S := (fun V => V.cell? ⟨bb, 0, none⟩ = some (.int .i64 x) ∧ V.cell? ⟨bb, 1, none⟩ = some (.int .i64 p) ∧ V.cell? ⟨bb, 2, none⟩ = some (.int .i64 q) ∧ V.cell? ⟨bb, 3, none⟩ = some (.slice AV T.length cV) ∧ Sem.run Tryd.prog (convert 22 9 (.slice (some ⟨b, off, none⟩) l.length c)) V = .ok (.string ⟨l.toArray⟩) V)) (by kernel_rfl) (by exact ⟨b0, b1, b2, b3, hcv⟩) (fun hHeld => ?_)
    refine wpAnyH_take (i := 0) (oi := ?_) (v := ?_) ?_ ?_ ?_ ?_ ?_ ?_ (by exact hHeld) ?_
    rotate_left 2
    · (simp only [List.getElem?_toArray, List.getElem?_cons_zero]; try rfl)
    · kernel_rfl
    · kernel_rfl
    · kernel_rfl
    · exact fun _ _ _ h => h
    · refine Or.inl ⟨by rfl, ?_⟩
      (intro V hSV; (try dsimp only at hSV); obtain ⟨q0, q1, q2, q3, q4⟩ := hSV; go_simp; try with_reducible rfl)
    (try simp only [Act.put, List.setIfInBounds_toArray, List.set_cons_zero, List.set_cons_succ])
    refine wpAnyH_ready (rs := [1]) (by kernel_rfl) (by simp) ?_
    refine AllReadyH.cons rfl (fun K hK => ?_) AllReadyH.nil
    go_simp
    refine (specReplyOk_any x p q AV T cV _ lV kV (by exact HBV.out)).mono ?_
    rintro e v1 ⟨rfl, hb⟩
    rw [HZ.out]
    have hb : Below wc.heap.size wc v1 := ⟨hb.os, hb.tape, hb.output, hb.size, hb.block⟩
    have H1 := Lib.hid hb
    clear hb
    go_wp2_with fail
    refine hK.out _ _ (by exact ⟨((H1.out).cell (p := ⟨bb, 0, none⟩) hbbl).trans b0, ((H1.out).cell (p := ⟨bb, 1, none⟩) hbbl).trans b1, ((H1.out).cell (p := ⟨bb, 2, none⟩) hbbl).trans b2, ((H1.out).cell (p := ⟨bb, 3, none⟩) hbbl).trans b3, run_conv_bs c l.length rfl (HAC.out.below H1.out)⟩) (fun hHeld => ?_)
    clear hK K
    (try simp only [Act.put, List.setIfInBounds_toArray, List.set_cons_zero, List.set_cons_succ])
    refine wpAnyH_take (i := 2) (oi := ?_) (v := ?_) ?_ ?_ ?_ ?_ ?_ ?_ (by exact hHeld) ?_
    rotate_left 2
    · (simp only [List.getElem?_toArray, List.getElem?_cons_zero, List.getElem?_cons_succ]; try rfl)
    · kernel_rfl
    · kernel_rfl
    · kernel_rfl
    · exact fun _ _ _ h => h
    · refine Or.inl ⟨by rfl, ?_⟩
      (intro V hSV; (try dsimp only at hSV); obtain ⟨q0, q1, q2, q3, q4⟩ := hSV; go_simp; try with_reducible rfl)
    (try simp only [Act.put, List.setIfInBounds_toArray, List.set_cons_zero, List.set_cons_succ])
    refine wpAnyH_take (i := 3) (oi := ?_) (v := ?_) ?_ ?_ ?_ ?_ ?_ ?_ (by exact hHeld) ?_
    rotate_left 2
    · (simp only [List.getElem?_toArray, List.getElem?_cons_zero, List.getElem?_cons_succ]; try rfl)
    · kernel_rfl
    · kernel_rfl
    · kernel_rfl
    · exact fun _ _ _ h => h
    · refine Or.inl ⟨by rfl, ?_⟩
      (intro V hSV; (try dsimp only at hSV); obtain ⟨q0, q1, q2, q3, q4⟩ := hSV; go_simp; try with_reducible rfl)
    (try simp only [Act.put, List.setIfInBounds_toArray, List.set_cons_zero, List.set_cons_succ])
    refine wpAnyH_take (i := 4) (oi := ?_) (v := ?_) ?_ ?_ ?_ ?_ ?_ ?_ (by exact hHeld) ?_
    rotate_left 2
    · (simp only [List.getElem?_toArray, List.getElem?_cons_zero, List.getElem?_cons_succ]; try rfl)
    · kernel_rfl
    · kernel_rfl
    · kernel_rfl
    · exact fun _ _ _ h => h
    · refine Or.inl ⟨by rfl, ?_⟩
      (intro V hSV; (try dsimp only at hSV); obtain ⟨q0, q1, q2, q3, q4⟩ := hSV; go_simp; try with_reducible rfl)
    (try simp only [Act.put, List.setIfInBounds_toArray, List.set_cons_zero, List.set_cons_succ])
    refine wpAnyH_take (i := 7) (oi := ?_) (v := ?_) ?_ ?_ ?_ ?_ ?_ ?_ (by exact hHeld) ?_
    rotate_left 2
    · (simp only [List.getElem?_toArray, List.getElem?_cons_zero, List.getElem?_cons_succ]; try rfl)
    · kernel_rfl
    · kernel_rfl
    · kernel_rfl
    · exact fun _ _ _ h => h
    · refine Or.inl ⟨by rfl, ?_⟩
      (intro V hSV; (try dsimp only at hSV); obtain ⟨q0, q1, q2, q3, q4⟩ := hSV; go_simp; try with_reducible rfl)
    (try simp only [Act.put, List.setIfInBounds_toArray, List.set_cons_zero, List.set_cons_succ])
    refine wpAnyH_take (i := 8) (oi := ?_) (v := ?_) ?_ ?_ ?_ ?_ ?_ ?_ (by exact hHeld) ?_
    rotate_left 2
    · (simp only [List.getElem?_toArray, List.getElem?_cons_zero, List.getElem?_cons_succ]; try rfl)
    · kernel_rfl
    · kernel_rfl
    · kernel_rfl
    · exact fun _ _ _ h => h
    · refine Or.inl ⟨by rfl, ?_⟩
      (intro V hSV; (try dsimp only at hSV); obtain ⟨q0, q1, q2, q3, q4⟩ := hSV; go_simp; try with_reducible rfl)
    (try simp only [Act.put, List.setIfInBounds_toArray, List.set_cons_zero, List.set_cons_succ])
    refine wpAnyH_ready (rs := [5]) (by kernel_rfl) (by simp) ?_
    refine AllReadyH.cons rfl (fun K hK => ?_) AllReadyH.nil
    go_simp
    refine (specReplyBytes_any x p q AV T cV _ lV kV (by exact HBV.out.below H1.out)).mono ?_
    rintro e v2 ⟨v, rfl, hown, hb⟩
    rw [HBE.out] at hown
    have hb : Below v1.heap.size v1 v2 := ⟨hb.os, hb.tape, hb.output, hb.size, hb.block⟩
    have H2 := Lib.hid (below_then H1.out hb)
    obtain ⟨A2, c2, rfl, _, _, hB2, _, _⟩ := own_plain9 hown
    have hcv2 := run_conv_bs c2 B.length rfl hB2
    clear hb hown hB2
    go_wp2_with fail
    refine hK.out _ _ (by exact ⟨((H2.out).cell (p := ⟨bb, 0, none⟩) hbbl).trans b0, ((H2.out).cell (p := ⟨bb, 1, none⟩) hbbl).trans b1, ((H2.out).cell (p := ⟨bb, 2, none⟩) hbbl).trans b2, ((H2.out).cell (p := ⟨bb, 3, none⟩) hbbl).trans b3, run_conv_bs c l.length rfl (HAC.out.below H2.out)⟩) (fun hHeld => ?_)
    clear hK K
    (try simp only [Act.put, List.setIfInBounds_toArray, List.set_cons_zero, List.set_cons_succ])
    refine wpAnyH_ready (rs := [6]) (by kernel_rfl) (by simp) ?_
    refine AllReadyH.cons (o := ?_) ?_ (fun K hK => ?_) AllReadyH.nil
    rotate_left 1
    · (simp only [List.getElem?_toArray, List.getElem?_cons_zero, List.getElem?_cons_succ]; try rfl)
    go_simp
    refine hK.out _ _ (by exact ⟨((H2.out).cell (p := ⟨bb, 0, none⟩) hbbl).trans b0, ((H2.out).cell (p := ⟨bb, 1, none⟩) hbbl).trans b1, ((H2.out).cell (p := ⟨bb, 2, none⟩) hbbl).trans b2, ((H2.out).cell (p := ⟨bb, 3, none⟩) hbbl).trans b3, run_conv_bs c l.length rfl (HAC.out.below H2.out)⟩) (fun hHeld => ?_)
    clear hK K
    (try simp only [Act.put, List.setIfInBounds_toArray, List.set_cons_zero, List.set_cons_succ])
    refine wpAnyH_take (i := 9) (oi := ?_) (v := ?_) ?_ ?_ ?_ ?_ ?_ ?_ (by exact hHeld) ?_
    rotate_left 2
    · (simp only [List.getElem?_toArray, List.getElem?_cons_zero, List.getElem?_cons_succ]; try rfl)
    · kernel_rfl
    · kernel_rfl
    · kernel_rfl
    · exact fun _ _ _ h => h
    · refine Or.inl ⟨by rfl, ?_⟩
      (intro V hSV; (try dsimp only at hSV); obtain ⟨q0, q1, q2, q3, q4⟩ := hSV; go_simp; try with_reducible rfl)
    (try simp only [Act.put, List.setIfInBounds_toArray, List.set_cons_zero, List.set_cons_succ])
    refine wpAnyH_take (i := 10) (oi := ?_) (v := ?_) ?_ ?_ ?_ ?_ ?_ ?_ (by exact hHeld) ?_
    rotate_left 2
    · (simp only [List.getElem?_toArray, List.getElem?_cons_zero, List.getElem?_cons_succ]; try rfl)
    · kernel_rfl
    · kernel_rfl
    · kernel_rfl
    · exact fun _ _ _ h => h
    · refine Or.inl ⟨by rfl, ?_⟩
      (intro V hSV; (try dsimp only at hSV); obtain ⟨q0, q1, q2, q3, q4⟩ := hSV; go_simp; try with_reducible rfl)
    (try simp only [Act.put, List.setIfInBounds_toArray, List.set_cons_zero, List.set_cons_succ])
    refine wpAnyH_done (by kernel_rfl) ?_ _
    clear hHeld hcv b0 b1 b2 b3
    have RX := Lib.hid (RX.out.below H2.out)
    have HB2 := Lib.hid (below_then HW2.out H2.out)
    have r0 := RX.out.cell 0
    have fr0 := RX.out.frozen 0
    have r1 := RX.out.cell 1
    have fr1 := RX.out.frozen 1
    have r2 := RX.out.cell 2
    have fr2 := RX.out.frozen 2
    have r3 := RX.out.cell 3
    have fr3 := RX.out.frozen 3
    have hzz := RX.out.lt
    go_wp2
    refine bodyPost_ret (v := .tuple #[.agg #[.int .i64 0, .int .i64 0, .int .i64 0, .slice none 0 0], .bool false]) (by simp [results, Tryd.results17, go_sem, r0, r1, r2, r3]) rfl ?_
    refine ⟨.slice none 0 0, by unfold rpFd; rw [HG.out]; rfl, by unfold rpT; rw [HG.out]; exact Own.nil _ _, ?_⟩
    repeat (refine Below.setCell ?_ (by simp) _)
    exact HB2.out
  have HG0 := Lib.hid hq
  have HG : Hid (rpGood l = true) := Lib.hid (by rw [HGM.out, HWx.out, HWp.out, HWq.out, HTT.out, HZ.out, HBE.out, decide_eq_true hq]; rfl)
  rw [hq] at HBE
  clear hq
  have heq1 : (l == l) = true := by simp
  go_upto_region 4 with fail
  refine wp_region_held_drew (S := (fun V => V.cell? ⟨bb, 0, none⟩ = some (.int .i64 x) ∧ V.cell? ⟨bb, 1, none⟩ = some (.int .i64 p) ∧ V.cell? ⟨bb, 2, none⟩ = some (.int .i64 q) ∧ V.cell? ⟨bb, 3, none⟩ = some (.slice AV T.length cV) ∧ Sem.run Tryd.prog (convert 22 9 (.slice (some ⟨b, off, none⟩) l.length c)) V = .ok (.string ⟨l.toArray⟩) V)) (by kernel_rfl) (by exact ⟨b0, b1, b2, b3, hcv⟩) (fun hHeld => ?_)
  refine wpAnyH_take (i := 0) (oi := ?_) (v := ?_) ?_ ?_ ?_ ?_ ?_ ?_ (by exact hHeld) ?_
  rotate_left 2
  · (simp only [List.getElem?_toArray, List.getElem?_cons_zero]; try rfl)
  · kernel_rfl
  · kernel_rfl
  · kernel_rfl
  · exact fun _ _ _ h => h
  · refine Or.inl ⟨by rfl, ?_⟩
    (intro V hSV; (try dsimp only at hSV); obtain ⟨q0, q1, q2, q3, q4⟩ := hSV; go_simp; try with_reducible rfl)
  (try simp only [Act.put, List.setIfInBounds_toArray, List.set_cons_zero, List.set_cons_succ])
  refine wpAnyH_ready (rs := [1]) (by kernel_rfl) (by simp) ?_
  refine AllReadyH.cons rfl (fun K hK => ?_) AllReadyH.nil
  go_simp
  refine (specReplyOk_any x p q AV T cV _ lV kV (by exact HBV.out)).mono ?_
  rintro e v1 ⟨rfl, hb⟩
  rw [HZ.out]
  have hb : Below wc.heap.size wc v1 := ⟨hb.os, hb.tape, hb.output, hb.size, hb.block⟩
  have H1 := Lib.hid hb
  clear hb
  go_wp2_with fail
  refine hK.out _ _ (by exact ⟨((H1.out).cell (p := ⟨bb, 0, none⟩) hbbl).trans b0, ((H1.out).cell (p := ⟨bb, 1, none⟩) hbbl).trans b1, ((H1.out).cell (p := ⟨bb, 2, none⟩) hbbl).trans b2, ((H1.out).cell (p := ⟨bb, 3, none⟩) hbbl).trans b3, run_conv_bs c l.length rfl (HAC.out.below H1.out)⟩) (fun hHeld => ?_)
  clear hK K
  (try simp only [Act.put, List.setIfInBounds_toArray, List.set_cons_zero, List.set_cons_succ])
  refine wpAnyH_take (i := 2) (oi := ?_) (v := ?_) ?_ ?_ ?_ ?_ ?_ ?_ (by exact hHeld) ?_
  rotate_left 2
  · (simp only [List.getElem?_toArray, List.getElem?_cons_zero, List.getElem?_cons_succ]; try rfl)
  · kernel_rfl
  · kernel_rfl
  · kernel_rfl
  · exact fun _ _ _ h => h
  · refine Or.inl ⟨by rfl, ?_⟩
    (intro V hSV; (try dsimp only at hSV); obtain ⟨q0, q1, q2, q3, q4⟩ := hSV; go_simp; try with_reducible rfl)
  (try simp only [Act.put, List.setIfInBounds_toArray, List.set_cons_zero, List.set_cons_succ])
  refine wpAnyH_take (i := 3) (oi := ?_) (v := ?_) ?_ ?_ ?_ ?_ ?_ ?_ (by exact hHeld) ?_
  rotate_left 2
  · (simp only [List.getElem?_toArray, List.getElem?_cons_zero, List.getElem?_cons_succ]; try rfl)
  · kernel_rfl
  · kernel_rfl
  · kernel_rfl
  · exact fun _ _ _ h => h
  · refine Or.inl ⟨by rfl, ?_⟩
    (intro V hSV; (try dsimp only at hSV); obtain ⟨q0, q1, q2, q3, q4⟩ := hSV; go_simp; try with_reducible rfl)
  (try simp only [Act.put, List.setIfInBounds_toArray, List.set_cons_zero, List.set_cons_succ])
  refine wpAnyH_take (i := 4) (oi := ?_) (v := ?_) ?_ ?_ ?_ ?_ ?_ ?_ (by exact hHeld) ?_
  rotate_left 2
  · (simp only [List.getElem?_toArray, List.getElem?_cons_zero, List.getElem?_cons_succ]; try rfl)
  · kernel_rfl
  · kernel_rfl
  · kernel_rfl
  · exact fun _ _ _ h => h
  · refine Or.inl ⟨by rfl, ?_⟩
    (intro V hSV; (try dsimp only at hSV); obtain ⟨q0, q1, q2, q3, q4⟩ := hSV; go_simp; try with_reducible rfl)
  (try simp only [Act.put, List.setIfInBounds_toArray, List.set_cons_zero, List.set_cons_succ])
  refine wpAnyH_take (i := 7) (oi := ?_) (v := ?_) ?_ ?_ ?_ ?_ ?_ ?_ (by exact hHeld) ?_
  rotate_left 2
  · (simp only [List.getElem?_toArray, List.getElem?_cons_zero, List.getElem?_cons_succ]; try rfl)
  · kernel_rfl
  · kernel_rfl
  · kernel_rfl
  · exact fun _ _ _ h => h
  · refine Or.inl ⟨by rfl, ?_⟩
    (intro V hSV; (try dsimp only at hSV); obtain ⟨q0, q1, q2, q3, q4⟩ := hSV; go_simp; try with_reducible rfl)
  (try simp only [Act.put, List.setIfInBounds_toArray, List.set_cons_zero, List.set_cons_succ])
  refine wpAnyH_take (i := 8) (oi := ?_) (v := ?_) ?_ ?_ ?_ ?_ ?_ ?_ (by exact hHeld) ?_
  rotate_left 2
  · (simp only [List.getElem?_toArray, List.getElem?_cons_zero, List.getElem?_cons_succ]; try rfl)
  · kernel_rfl
  · kernel_rfl
  · kernel_rfl
  · exact fun _ _ _ h => h
  · refine Or.inl ⟨by rfl, ?_⟩
    (intro V hSV; (try dsimp only at hSV); obtain ⟨q0, q1, q2, q3, q4⟩ := hSV; go_simp; try with_reducible rfl)
  (try simp only [Act.put, List.setIfInBounds_toArray, List.set_cons_zero, List.set_cons_succ])
  refine wpAnyH_ready (rs := [5]) (by kernel_rfl) (by simp) ?_
  refine AllReadyH.cons rfl (fun K hK => ?_) AllReadyH.nil
  go_simp
  refine (specReplyBytes_any x p q AV T cV _ lV kV (by exact HBV.out.below H1.out)).mono ?_
  rintro e v2 ⟨v, rfl, hown, hb⟩
  rw [HBE.out] at hown
  have hb : Below v1.heap.size v1 v2 := ⟨hb.os, hb.tape, hb.output, hb.size, hb.block⟩
  have H2 := Lib.hid (below_then H1.out hb)
  obtain ⟨A2, c2, rfl, _, _, hB2, _, _⟩ := own_plain9 hown
  have hcv2 := run_conv_bs c2 l.length rfl hB2
  clear hb hown hB2
  go_wp2_with fail
  refine hK.out _ _ (by exact ⟨((H2.out).cell (p := ⟨bb, 0, none⟩) hbbl).trans b0, ((H2.out).cell (p := ⟨bb, 1, none⟩) hbbl).trans b1, ((H2.out).cell (p := ⟨bb, 2, none⟩) hbbl).trans b2, ((H2.out).cell (p := ⟨bb, 3, none⟩) hbbl).trans b3, run_conv_bs c l.length rfl (HAC.out.below H2.out)⟩) (fun hHeld => ?_)
  clear hK K
  (try simp only [Act.put, List.setIfInBounds_toArray, List.set_cons_zero, List.set_cons_succ])
  refine wpAnyH_ready (rs := [6]) (by kernel_rfl) (by simp) ?_
  refine AllReadyH.cons (o := ?_) ?_ (fun K hK => ?_) AllReadyH.nil
  rotate_left 1
  · (simp only [List.getElem?_toArray, List.getElem?_cons_zero, List.getElem?_cons_succ]; try rfl)
  go_simp
  refine hK.out _ _ (by exact ⟨((H2.out).cell (p := ⟨bb, 0, none⟩) hbbl).trans b0, ((H2.out).cell (p := ⟨bb, 1, none⟩) hbbl).trans b1, ((H2.out).cell (p := ⟨bb, 2, none⟩) hbbl).trans b2, ((H2.out).cell (p := ⟨bb, 3, none⟩) hbbl).trans b3, run_conv_bs c l.length rfl (HAC.out.below H2.out)⟩) (fun hHeld => ?_)
  clear hK K
  (try simp only [Act.put, List.setIfInBounds_toArray, List.set_cons_zero, List.set_cons_succ])
  refine wpAnyH_take (i := 9) (oi := ?_) (v := ?_) ?_ ?_ ?_ ?_ ?_ ?_ (by exact hHeld) ?_
  rotate_left 2
  · (simp only [List.getElem?_toArray, List.getElem?_cons_zero, List.getElem?_cons_succ]; try rfl)
  · kernel_rfl
  · kernel_rfl
  · kernel_rfl
  · exact fun _ _ _ h => h
  · refine Or.inl ⟨by rfl, ?_⟩
    (intro V hSV; (try dsimp only at hSV); obtain ⟨q0, q1, q2, q3, q4⟩ := hSV; go_simp; try with_reducible rfl)
  (try simp only [Act.put, List.setIfInBounds_toArray, List.set_cons_zero, List.set_cons_succ])
  refine wpAnyH_take (i := 10) (oi := ?_) (v := ?_) ?_ ?_ ?_ ?_ ?_ ?_ (by exact hHeld) ?_
  rotate_left 2
  · (simp only [List.getElem?_toArray, List.getElem?_cons_zero, List.getElem?_cons_succ]; try rfl)
  · kernel_rfl
  · kernel_rfl
  · kernel_rfl
  · exact fun _ _ _ h => h
  · refine Or.inl ⟨by rfl, ?_⟩
    (intro V hSV; (try dsimp only at hSV); obtain ⟨q0, q1, q2, q3, q4⟩ := hSV; go_simp; try with_reducible rfl)
  (try simp only [Act.put, List.setIfInBounds_toArray, List.set_cons_zero, List.set_cons_succ])
  refine wpAnyH_done (by kernel_rfl) ?_ _
  clear hHeld hcv2 hcv b0 b1 b2 b3
  have RX := Lib.hid (RX.out.below H2.out)
  have HB2 := Lib.hid (below_then HW2.out H2.out)
  have HBB := Lib.hid (HBB.out.below H2.out)
  have HV := Lib.hid (HV.out.below H2.out)
  have b0 := HBB.out.cell 0
  have b1 := HBB.out.cell 1
  have b2 := HBB.out.cell 2
  have b3 := HBB.out.cell 3
  have r0 := RX.out.cell 0
  have fr0 := RX.out.frozen 0
  have r1 := RX.out.cell 1
  have fr1 := RX.out.frozen 1
  have r2 := RX.out.cell 2
  have fr2 := RX.out.frozen 2
  have r3 := RX.out.cell 3
  have fr3 := RX.out.frozen 3
  have hzz := RX.out.lt
  go_wp2
  refine bodyPost_ret (v := .tuple #[.agg #[.int .i64 x, .int .i64 p, .int .i64 q, .slice AV T.length cV], .bool true]) (by simp [results, Tryd.results17, go_sem, r0, r1, r2, r3]) rfl ?_
  refine ⟨.slice AV T.length cV, by unfold rpFd; rw [HG.out, HWx.out, HWp.out, HWq.out]; rfl, ?_, ?_⟩
  · have e : rpT l = T := by unfold rpT; rw [HG.out]; exact HTT.out
    rw [e]
    have h9 : ∀ (W : World) (i : Nat) (u : Value), Own W w1.heap.size (.slice AV T.length cV) T → Own (W.setCell ⟨w.heap.size, i, none⟩ u) w1.heap.size (.slice AV T.length cV) T := fun W i u h => h.setBelow (by simpa using hzw) u
    refine Own.mono (base := w1.heap.size) ?_ (by omega)
    iterate 4 (refine h9 _ _ _ ?_)
    exact HV.out
  · repeat (refine Below.setCell ?_ (by simp) _)
    exact HB2.out
end Go.Proofs.YtdmmdbapkogdhabDoor
