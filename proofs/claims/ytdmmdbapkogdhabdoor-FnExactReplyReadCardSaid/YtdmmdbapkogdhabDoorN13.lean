/-
  Chapter 9, ReplyRead in the program: contract. Own work.
-/
import Derived.Test.YtdmmdbapkogdhabDoorN08
import Derived.Test.YtdmmdbapkogdhabDoorEB
import Derived.Test.YtdmmdbapkogdhabDoorC05
import Derived.Test.YtdmmdbapkogdhabDoorCl
import Derived.Deep.RegionHeld3
import Derived.Deep.DeepCutAuto
namespace Go.Proofs.YtdmmdbapkogdhabDoor
open Go.RowKit P
set_option linter.unusedVariables false
set_option linter.unusedSimpArgs false
set_option maxRecDepth 100000

/-- What is read out of d, a field at a time. -/
def rpFd (d : List UInt8) (x : Int) : Int := if rpGood d = true then x else 0
def rpT (d : List UInt8) : List UInt8 := if rpGood d = true then d.drop 7 else []
def GivesRp (d : List UInt8) (w : World) (e : Ending) (w' : World) : Prop := ∃ v, e = .returned (.tuple #[.agg #[.int .i64 (rpFd d (gb d 0)), .int .i64 (rpFd d (wd d 1)), .int .i64 (rpFd d (wd d 3)), v], .bool (rpGood d)]) ∧ Own w' w.heap.size v (rpT d) ∧ Below w.heap.size w w'

set_option maxHeartbeats 32000000 in
theorem implReplyRead_any (A0 : Option Addr) (l : List UInt8) (c : Nat) (w : World) (hlc : l.length ≤ c) (hc9 : c ≤ 9223372036854775807) (hPl : A0 = none → c = 0) (hpp : ∀ a, A0 = some a → ∃ g o, a = ⟨g, o, none⟩) (hT : Tab w) (hA0 : Bs w A0 l) :
    Calls Tryd.prog 19 #[.slice A0 l.length c] w (GivesRp l w) := by
  have hn9 : l.length ≤ 9223372036854775807 := by omega
  have RX := Lib.hid (Blk.new w #[.int .i64 0, .int .i64 0, .int .i64 0, .slice none 0 0] 27)
  have HAL := Lib.hid ((Below.refl w.heap.size w).alloc (Nat.le_refl _) (.cells #[.int .i64 0, .int .i64 0, .int .i64 0, .slice none 0 0] 27))
  by_cases hs : l.length < 7
  · have HG := Lib.hid (rpGood_short hs)
    have hs' : (l.length : Int) < 7 := by omega
    clear hs
    go_enter Tryd.func19, Tryd.ntmps19
    have r0 := RX.out.cell 0
    have fr0 := RX.out.frozen 0
    have r1 := RX.out.cell 1
    have fr1 := RX.out.frozen 1
    have r2 := RX.out.cell 2
    have fr2 := RX.out.frozen 2
    have r3 := RX.out.cell 3
    have fr3 := RX.out.frozen 3
    have hzz := RX.out.lt
    go_wp2
    refine bodyPost_ret (v := .tuple #[.agg #[.int .i64 0, .int .i64 0, .int .i64 0, .slice none 0 0], .bool false]) (by simp [results, Tryd.results19, go_sem, r0, r1, r2, r3]) rfl ?_
    refine ⟨.slice none 0 0, by unfold rpFd; rw [HG.out]; rfl, by unfold rpT; rw [HG.out]; exact Own.nil _ _, ?_⟩
    repeat (refine Below.setCell ?_ (by simp) _)
    exact HAL.out
  have hs' : ¬ (l.length : Int) < 7 := by omega
  obtain ⟨b, off, rfl, hbl0, _⟩ := hA0 0 (by omega)
  obtain ⟨x, hdx⟩ : ∃ x, gb l 0 = x := ⟨_, rfl⟩
  have hLx : w.cell? ⟨b, off, none⟩ = some (.int .u8 x) := by
    obtain ⟨b2, o2, e2, _, hc2⟩ := hA0 0 (by omega)
    cases e2
    rw [← hdx, gb_get l 0 (by omega)]; exact hc2
  have hwrx : IntKind.i64.wrap x = x := IntWalk.i64_in _ (by have := gb_bd l 0; rw [hdx] at this; omega)
  have HWx := Lib.hid hdx
  clear hdx
  obtain ⟨p, hdp⟩ : ∃ x, wd l 1 = x := ⟨_, rfl⟩
  have HWp := Lib.hid hdp
  clear hdp
  obtain ⟨q, hdq⟩ : ∃ x, wd l 3 = x := ⟨_, rfl⟩
  have HWq := Lib.hid hdq
  clear hdq
  obtain ⟨D, hsl, hBD, _, _⟩ := slc_tail (some ⟨b, off, none⟩) l.length c 7 w l hPl hpp rfl (by omega) hlc hc9 hA0
  obtain ⟨T, hT0⟩ : ∃ T, l.drop 7 = T := ⟨_, rfl⟩
  rw [hT0] at hBD
  have HTT := Lib.hid hT0
  have hTl : l.length - 7 = T.length := by rw [← hT0, List.length_drop]
  obtain ⟨N, hN⟩ : ∃ N, l.length - 7 = N := ⟨_, rfl⟩
  obtain ⟨rc, hrc⟩ : ∃ r, c - 7 = r := ⟨_, rfl⟩
  have hsl' : ∀ W, (Instr.slice 22 (.slice (some ⟨b, off, none⟩) l.length c) (some (.int .i64 7)) none none).run Tryd.prog W = .ok (.slice D N rc) W := fun W => by
    have h := hsl W
    rw [hN, hrc] at h
    exact h
  have HN : Hid (N = T.length) := Lib.hid (by rw [← hN]; exact hTl)
  have hlN : l.length = N + 7 := by omega
  have HLN := Lib.hid hlN
  have HBD := Lib.hid hBD
  clear hsl hBD hT0 hTl hrc hN hlN
  have HA0 := Lib.hid hA0
  clear hA0
  obtain ⟨n8, hd8⟩ : ∃ x, wd l 5 = x := ⟨_, rfl⟩
  have hwl : IntKind.i64.wrap ((l.length : Int) - 7) = (l.length : Int) - 7 := IntWalk.i64_in _ ⟨by omega, by omega⟩
  have HD8 := Lib.hid hd8
  clear hd8
  by_cases hm : (l.length : Int) - 7 = n8
  case neg =>
    have HG := Lib.hid (rpGood_wrong (d := l) (by rw [HD8.out]; exact hm))
    have hne : ((l.length : Int) - 7 != n8) = true := by simpa using hm
    clear hm
    go_enter Tryd.func19, Tryd.ntmps19
    go_wp2_with fail
    refine (wordAt_any (some ⟨b, off, none⟩) l c 5 _ hn9 (by omega) (by exact HA0.out.below HAL.out)).mono ?_
    rintro e W1 ⟨rfl, hE⟩
    have hb1 : Below (w.alloc (.cells #[.int .i64 0, .int .i64 0, .int .i64 0, .slice none 0 0] 27)).heap.size (w.alloc (.cells #[.int .i64 0, .int .i64 0, .int .i64 0, .slice none 0 0] 27)) W1 := by obtain ⟨n, rfl⟩ := hE; exact below_of_drewN _ n
    rw [HD8.out]
    have RX := Lib.hid (RX.out.below hb1)
    have HAL := Lib.hid (below_then HAL.out hb1)
    clear hE hb1
    have r0 := RX.out.cell 0
    have fr0 := RX.out.frozen 0
    have r1 := RX.out.cell 1
    have fr1 := RX.out.frozen 1
    have r2 := RX.out.cell 2
    have fr2 := RX.out.frozen 2
    have r3 := RX.out.cell 3
    have fr3 := RX.out.frozen 3
    have hzz := RX.out.lt
    go_wp2
    refine bodyPost_ret (v := .tuple #[.agg #[.int .i64 0, .int .i64 0, .int .i64 0, .slice none 0 0], .bool false]) (by simp [results, Tryd.results19, go_sem, r0, r1, r2, r3]) rfl ?_
    refine ⟨.slice none 0 0, by unfold rpFd; rw [HG.out]; rfl, by unfold rpT; rw [HG.out]; exact Own.nil _ _, ?_⟩
    repeat (refine Below.setCell ?_ (by simp) _)
    exact HAL.out
  have hne : ((l.length : Int) - 7 != n8) = false := by simpa using hm
  have HGR := Lib.hid (rpGood_right (d := l) (by omega) (by rw [HD8.out]; exact hm))
  have hn255 : N ≤ 1000000 := by have h1 := HLN.out; have h2 := HD8.out; have h3 := wd_bd l 5; omega
  clear hm
  go_enter Tryd.func19, Tryd.ntmps19
  go_wp2_with fail
  refine (wordAt_any (some ⟨b, off, none⟩) l c 5 _ hn9 (by omega) (by exact HA0.out.below HAL.out)).mono ?_
  rintro e W1 ⟨rfl, hE⟩
  have hb1 : Below (w.alloc (.cells #[.int .i64 0, .int .i64 0, .int .i64 0, .slice none 0 0] 27)).heap.size (w.alloc (.cells #[.int .i64 0, .int .i64 0, .int .i64 0, .slice none 0 0] 27)) W1 := by obtain ⟨n, rfl⟩ := hE; exact below_of_drewN _ n
  rw [HD8.out]
  have RX := Lib.hid (RX.out.below hb1)
  have HAL := Lib.hid (below_then HAL.out hb1)
  clear hE hb1
  go_upto_region 3 with fail
  obtain ⟨w1, hw1⟩ : ∃ w1, w1 = W1 := ⟨_, rfl⟩
  subst hw1
  have hT5 : T.length ≤ 1000000 := by have := HN.out; omega
  have hA := (HA0.out.below HAL.out)
  have HS := Lib.hid (HBD.out.below HAL.out)
  have hbl : b < w1.heap.size := by have := HAL.out.size; omega
  have HLx := Lib.hid ((HAL.out.cell (p := ⟨b, off, none⟩) hbl0).trans hLx)
  clear hLx
  have hb0 : 0 < l.length := by omega
  have hbi0 : (0 : Int) < (l.length : Int) := by omega
  have hzw : w.heap.size < w1.heap.size := RX.out.lt
  go_cut [4] (fun pv wx => ∃ (bb : Nat) (AV : Option Addr) (cV : Nat), pv = .pointer (some ⟨bb, 0, none⟩) ∧ Blk wx bb #[.int .i64 x, .int .i64 p, .int .i64 q, .slice AV T.length cV] 27 ∧ Own wx w1.heap.size (.slice AV T.length cV) T ∧ w1.heap.size ≤ bb ∧ Below w1.heap.size w1 wx)
  case first =>
    have HB := Lib.hid (show Below w1.heap.size w1 w1.drew from (Below.refl w1.heap.size w1).drew)
    refine wp_region_noPanic ?_
    refine wp_region_held_drew (S := (fun V => V.cell? ⟨b, off, none⟩ = some (.int .u8 x))) (by kernel_rfl) (by exact ((HB.out.cell (p := ⟨b, off, none⟩) hbl).trans HLx.out)) (fun hHeld => ?_)
    refine wpAnyH_take (i := 0) (oi := ?_) (v := ?_) ?_ ?_ ?_ ?_ ?_ ?_ (by exact hHeld) ?_
    rotate_left 2
    · (simp only [List.getElem?_toArray, List.getElem?_cons_zero]; try rfl)
    · kernel_rfl
    · kernel_rfl
    · kernel_rfl
    · exact fun _ _ _ h => h
    · refine Or.inl ⟨by rfl, ?_⟩
      (intro V hSV; (try dsimp only at hSV); have q0 := hSV; go_simp; try with_reducible rfl)
    (try simp only [Act.put, List.setIfInBounds_toArray, List.set_cons_zero, List.set_cons_succ])
    refine wpAnyH_take (i := 1) (oi := ?_) (v := ?_) ?_ ?_ ?_ ?_ ?_ ?_ (by exact hHeld) ?_
    rotate_left 2
    · (simp only [List.getElem?_toArray, List.getElem?_cons_zero, List.getElem?_cons_succ]; try rfl)
    · kernel_rfl
    · kernel_rfl
    · kernel_rfl
    · exact fun _ _ _ h => h
    · refine Or.inl ⟨by rfl, ?_⟩
      (intro V hSV; (try dsimp only at hSV); have q0 := hSV; go_simp; try with_reducible rfl)
    (try simp only [Act.put, List.setIfInBounds_toArray, List.set_cons_zero, List.set_cons_succ])
    refine wpAnyH_take (i := 2) (oi := ?_) (v := ?_) ?_ ?_ ?_ ?_ ?_ ?_ (by exact hHeld) ?_
    rotate_left 2
    · (simp only [List.getElem?_toArray, List.getElem?_cons_zero, List.getElem?_cons_succ]; try rfl)
    · kernel_rfl
    · kernel_rfl
    · kernel_rfl
    · exact fun _ _ _ h => h
    · refine Or.inl ⟨by rfl, ?_⟩
      (intro V hSV; (try dsimp only at hSV); have q0 := hSV; go_simp; try with_reducible rfl)
    (try simp only [Act.put, List.setIfInBounds_toArray, List.set_cons_zero, List.set_cons_succ])
    refine wpAnyH_take (i := 3) (oi := ?_) (v := ?_) ?_ ?_ ?_ ?_ ?_ ?_ (by exact hHeld) ?_
    rotate_left 2
    · (simp only [List.getElem?_toArray, List.getElem?_cons_zero, List.getElem?_cons_succ]; try rfl)
    · kernel_rfl
    · kernel_rfl
    · kernel_rfl
    · exact fun _ _ _ h => h
    · refine Or.inl ⟨by rfl, ?_⟩
      (intro V hSV; (try dsimp only at hSV); have q0 := hSV; go_simp; try with_reducible rfl)
    (try simp only [Act.put, List.setIfInBounds_toArray, List.set_cons_zero, List.set_cons_succ])
    refine wpAnyH_take (i := 4) (oi := ?_) (v := ?_) ?_ ?_ ?_ ?_ ?_ ?_ (by exact hHeld) ?_
    rotate_left 2
    · (simp only [List.getElem?_toArray, List.getElem?_cons_zero, List.getElem?_cons_succ]; try rfl)
    · kernel_rfl
    · kernel_rfl
    · kernel_rfl
    · exact fun _ _ _ h => h
    · refine Or.inl ⟨by rfl, ?_⟩
      (intro V hSV; (try dsimp only at hSV); have q0 := hSV; go_simp; try with_reducible rfl)
    (try simp only [Act.put, List.setIfInBounds_toArray, List.set_cons_zero, List.set_cons_succ])
    refine wpAnyH_take (i := 6) (oi := ?_) (v := ?_) ?_ ?_ ?_ ?_ ?_ ?_ (by exact hHeld) ?_
    rotate_left 2
    · (simp only [List.getElem?_toArray, List.getElem?_cons_zero, List.getElem?_cons_succ]; try rfl)
    · kernel_rfl
    · kernel_rfl
    · kernel_rfl
    · exact fun _ _ _ h => h
    · refine Or.inl ⟨by rfl, ?_⟩
      (intro V hSV; (try dsimp only at hSV); have q0 := hSV; go_simp; try with_reducible rfl)
    (try simp only [Act.put, List.setIfInBounds_toArray, List.set_cons_zero, List.set_cons_succ])
    refine wpAnyH_take (i := 8) (oi := ?_) (v := ?_) ?_ ?_ ?_ ?_ ?_ ?_ (by exact hHeld) ?_
    rotate_left 2
    · (simp only [List.getElem?_toArray, List.getElem?_cons_zero, List.getElem?_cons_succ]; try rfl)
    · kernel_rfl
    · kernel_rfl
    · kernel_rfl
    · exact fun _ _ _ h => h
    · refine Or.inl ⟨by rfl, ?_⟩
      (intro V hSV; (try dsimp only at hSV); have q0 := hSV; go_simp; try with_reducible rfl)
    (try simp only [Act.put, List.setIfInBounds_toArray, List.set_cons_zero, List.set_cons_succ])
    refine wpAnyH_take (i := 9) (oi := ?_) (v := ?_) ?_ ?_ ?_ ?_ ?_ ?_ (by exact hHeld) ?_
    rotate_left 2
    · (simp only [List.getElem?_toArray, List.getElem?_cons_zero, List.getElem?_cons_succ]; try rfl)
    · kernel_rfl
    · kernel_rfl
    · kernel_rfl
    · exact fun _ _ _ h => h
    · refine Or.inl ⟨by rfl, ?_⟩
      (intro V hSV; (try dsimp only at hSV); have q0 := hSV; go_simp; try with_reducible rfl)
    (try simp only [Act.put, List.setIfInBounds_toArray, List.set_cons_zero, List.set_cons_succ])
    refine wpAnyH_ready (rs := [5, 12]) (by kernel_rfl) (by simp) ?_
    refine AllReadyH.cons (o := ?_) ?_ (fun K hK => ?_) ?_
    rotate_left 1
    · (simp only [List.getElem?_toArray, List.getElem?_cons_zero, List.getElem?_cons_succ]; try rfl)
    · go_simp
      refine (wordAt_any (some ⟨b, off, none⟩) l c 1 _ hn9 (by omega) (by exact hA.below HB.out)).mono ?_
      rintro e y1 ⟨rfl, hE⟩
      have hb : Below (w1.drew).heap.size (w1.drew) y1 := by obtain ⟨n, rfl⟩ := hE; exact below_of_drewN _ n
      rw [HWp.out]
      have HB := Lib.hid (HB.out.trans (hb.mono HB.out.size))
      clear hb hE
      go_wp2_with fail
      refine hK.out _ _ (by exact ((HB.out.cell (p := ⟨b, off, none⟩) hbl).trans HLx.out)) (fun hHeld => ?_)
      clear hK K
      (try simp only [Act.put, List.setIfInBounds_toArray, List.set_cons_zero, List.set_cons_succ])
      refine wpAnyH_ready (rs := [7, 12]) (by kernel_rfl) (by simp) ?_
      refine AllReadyH.cons (o := ?_) ?_ (fun K hK => ?_) ?_
      rotate_left 1
      · (simp only [List.getElem?_toArray, List.getElem?_cons_zero, List.getElem?_cons_succ]; try rfl)
      · go_simp
        refine (wordAt_any (some ⟨b, off, none⟩) l c 3 _ hn9 (by omega) (by exact hA.below HB.out)).mono ?_
        rintro e y2 ⟨rfl, hE⟩
        have hb : Below (y1).heap.size (y1) y2 := by obtain ⟨n, rfl⟩ := hE; exact below_of_drewN _ n
        rw [HWq.out]
        have HB := Lib.hid (HB.out.trans (hb.mono HB.out.size))
        clear hb hE
        go_wp2_with fail
        refine hK.out _ _ (by exact ((HB.out.cell (p := ⟨b, off, none⟩) hbl).trans HLx.out)) (fun hHeld => ?_)
        clear hK K
        (try simp only [Act.put, List.setIfInBounds_toArray, List.set_cons_zero, List.set_cons_succ])
        refine wpAnyH_ready (rs := [10, 12]) (by kernel_rfl) (by simp) ?_
        refine AllReadyH.cons (o := ?_) ?_ (fun K hK => ?_) ?_
        rotate_left 1
        · (simp only [List.getElem?_toArray, List.getElem?_cons_zero, List.getElem?_cons_succ]; try rfl)
        · go_simp
          refine (bytesClone_opt D T N rc _ HN.out hT5 (by exact HS.out.below HB.out)).mono ?_
          rintro e y3 ⟨v, rfl, hown, hb⟩
          have hb : Below (y2).heap.size (y2) y3 := ⟨hb.os, hb.tape, hb.output, hb.size, hb.block⟩
          have hown := hown.mono (base' := w1.heap.size) HB.out.size
          obtain ⟨AV, cV, rfl, lV, kV, _, _, _⟩ := own_plain9 hown
          have VV := Lib.hid hown
          have HB := Lib.hid (HB.out.trans (hb.mono HB.out.size))
          clear hb hown
          go_wp2_with fail
          refine hK.out _ _ (by exact ((HB.out.cell (p := ⟨b, off, none⟩) hbl).trans HLx.out)) (fun hHeld => ?_)
          clear hK K
          (try simp only [Act.put, List.setIfInBounds_toArray, List.set_cons_zero, List.set_cons_succ])
          refine wpAnyH_take (i := 11) (oi := ?_) (v := ?_) ?_ ?_ ?_ ?_ ?_ ?_ (by exact hHeld) ?_
          rotate_left 2
          · (simp only [List.getElem?_toArray, List.getElem?_cons_zero, List.getElem?_cons_succ]; try rfl)
          · kernel_rfl
          · kernel_rfl
          · kernel_rfl
          · exact fun _ _ _ h => h
          · refine Or.inl ⟨by rfl, ?_⟩
            (intro V hSV; (try dsimp only at hSV); have q0 := hSV; go_simp; try with_reducible rfl)
          (try simp only [Act.put, List.setIfInBounds_toArray, List.set_cons_zero, List.set_cons_succ])
          refine wpAnyH_ready (rs := [12]) (by kernel_rfl) (by simp) ?_
          refine AllReadyH.cons (o := ?_) ?_ (fun K hK => ?_) AllReadyH.nil
          rotate_left 1
          · (simp only [List.getElem?_toArray, List.getElem?_cons_zero, List.getElem?_cons_succ]; try rfl)
          have HB0 := HB
          have VV0 := VV
          have hbA := (Below.refl (y3).heap.size (y3)).alloc (Nat.le_refl _) (.cells #[.int .i64 0, .int .i64 0, .int .i64 0, .slice none 0 0] 27)
          have hBX : Blk ((y3).alloc (.cells #[.int .i64 0, .int .i64 0, .int .i64 0, .slice none 0 0] 27)) (y3.heap.size) #[.int .i64 0, .int .i64 0, .int .i64 0, .slice none 0 0] 27 := by
            have h := Blk.new (y3) #[.int .i64 0, .int .i64 0, .int .i64 0, .slice none 0 0] 27
            first | exact h | simpa using h
          have BX := Lib.hid hBX
          have HLO : Hid (w1.heap.size ≤ y3.heap.size) := Lib.hid (by have h := HB.out.size; first | exact h | (simp; done) | (simp at h ⊢; omega))
          clear hBX
          have HVB : Hid (∀ k ∈ (Value.slice AV T.length cV).ownBlock.toList, k ≠ y3.heap.size) := Lib.hid (fun k hk e => by have h := (VV.out.range k hk).2; (try simp at h); omega)
          have HB := Lib.hid (HB.out.trans (hbA.mono HB.out.size))
          have VV := Lib.hid (VV.out.below hbA)
          clear hbA
          go_simp
          refine hK.out _ _ (by exact ((HB.out.cell (p := ⟨b, off, none⟩) hbl).trans HLx.out)) (fun hHeld => ?_)
          clear hK K
          (try simp only [Act.put, List.setIfInBounds_toArray, List.set_cons_zero, List.set_cons_succ])
          have hbF := (Below.refl (y3).heap.size (y3)).alloc (Nat.le_refl _) (.cells #[.int .i64 x, .int .i64 p, .int .i64 q, .slice AV T.length cV] 27)
          have hBF : Blk (((y3).alloc (.cells #[.int .i64 x, .int .i64 p, .int .i64 q, .slice AV T.length cV] 27))) (y3.heap.size) #[.int .i64 x, .int .i64 p, .int .i64 q, .slice AV T.length cV] 27 := by
            have h := Blk.new (y3) #[.int .i64 x, .int .i64 p, .int .i64 q, .slice AV T.length cV] 27
            first | exact h | simpa using h
          have BF := Lib.hid hBF
          have VF := Lib.hid (VV0.out.below hbF)
          have HBF := Lib.hid (HB0.out.trans (hbF.mono HB0.out.size))
          have HB := HBF
          clear hbF hBF
          refine wpAnyH_ready (rs := [13]) (by kernel_rfl) (by simp) ?_
          refine AllReadyH.cons (o := ?_) ?_ (fun K hK => ?_) AllReadyH.nil
          rotate_left 1
          · (simp only [List.getElem?_toArray, List.getElem?_cons_zero, List.getElem?_cons_succ]; try rfl)
          go_simp
          refine hK.out _ _ (by exact ((HB.out.cell (p := ⟨b, off, none⟩) hbl).trans HLx.out)) (fun hHeld => ?_)
          clear hK K
          (try simp only [Act.put, List.setIfInBounds_toArray, List.set_cons_zero, List.set_cons_succ])
          refine wpAnyH_done (by kernel_rfl) ?_ _
          refine NoPanic.normal ?_
          go_wp2_with fail
          go_meet
          exact ⟨y3.heap.size, AV, cV, rfl, BF.out, VF.out, HLO.out, HBF.out⟩
        refine AllReadyH.cons (o := ?_) ?_ (fun K hK => ?_) AllReadyH.nil
        rotate_left 1
        · (simp only [List.getElem?_toArray, List.getElem?_cons_zero, List.getElem?_cons_succ]; try rfl)
        have hbA := (Below.refl (y2).heap.size (y2)).alloc (Nat.le_refl _) (.cells #[.int .i64 0, .int .i64 0, .int .i64 0, .slice none 0 0] 27)
        have hBX : Blk ((y2).alloc (.cells #[.int .i64 0, .int .i64 0, .int .i64 0, .slice none 0 0] 27)) (y2.heap.size) #[.int .i64 0, .int .i64 0, .int .i64 0, .slice none 0 0] 27 := by
          have h := Blk.new (y2) #[.int .i64 0, .int .i64 0, .int .i64 0, .slice none 0 0] 27
          first | exact h | simpa using h
        have BX := Lib.hid hBX
        have HLO : Hid (w1.heap.size ≤ y2.heap.size) := Lib.hid (by have h := HB.out.size; first | exact h | (simp; done) | (simp at h ⊢; omega))
        clear hBX
        have HB := Lib.hid (HB.out.trans (hbA.mono HB.out.size))
        clear hbA
        go_simp
        refine hK.out _ _ (by exact ((HB.out.cell (p := ⟨b, off, none⟩) hbl).trans HLx.out)) (fun hHeld => ?_)
        clear hK K
        (try simp only [Act.put, List.setIfInBounds_toArray, List.set_cons_zero, List.set_cons_succ])
        refine wpAnyH_ready (rs := [10]) (by kernel_rfl) (by simp) ?_
        refine AllReadyH.cons (o := ?_) ?_ (fun K hK => ?_) AllReadyH.nil
        rotate_left 1
        · (simp only [List.getElem?_toArray, List.getElem?_cons_zero, List.getElem?_cons_succ]; try rfl)
        go_simp
        refine (bytesClone_opt D T N rc _ HN.out hT5 (by exact HS.out.below HB.out)).mono ?_
        rintro e y4 ⟨v, rfl, hown, hb⟩
        have hb : Below (((y2).alloc (.cells #[.int .i64 0, .int .i64 0, .int .i64 0, .slice none 0 0] 27))).heap.size (((y2).alloc (.cells #[.int .i64 0, .int .i64 0, .int .i64 0, .slice none 0 0] 27))) y4 := ⟨hb.os, hb.tape, hb.output, hb.size, hb.block⟩
        have hrv := hown.range
        have hbbl := BX.out.lt
        have hown := hown.mono (base' := w1.heap.size) HB.out.size
        obtain ⟨AV, cV, rfl, lV, kV, _, _, _⟩ := own_plain9 hown
        have VV := Lib.hid hown
        have HVB : Hid (∀ k ∈ (Value.slice AV T.length cV).ownBlock.toList, k ≠ y2.heap.size) := Lib.hid (fun k hk e => by have h1 := (hrv k hk).1; have h2 : y2.heap.size < (((y2).alloc (.cells #[.int .i64 0, .int .i64 0, .int .i64 0, .slice none 0 0] 27))).heap.size := hbbl; omega)
        clear hrv hbbl
        have HB := Lib.hid (HB.out.trans (hb.mono HB.out.size))
        have BX := Lib.hid (BX.out.below hb)
        clear hb hown
        go_wp2_with fail
        refine hK.out _ _ (by exact ((HB.out.cell (p := ⟨b, off, none⟩) hbl).trans HLx.out)) (fun hHeld => ?_)
        clear hK K
        (try simp only [Act.put, List.setIfInBounds_toArray, List.set_cons_zero, List.set_cons_succ])
        refine wpAnyH_take (i := 11) (oi := ?_) (v := ?_) ?_ ?_ ?_ ?_ ?_ ?_ (by exact hHeld) ?_
        rotate_left 2
        · (simp only [List.getElem?_toArray, List.getElem?_cons_zero, List.getElem?_cons_succ]; try rfl)
        · kernel_rfl
        · kernel_rfl
        · kernel_rfl
        · exact fun _ _ _ h => h
        · refine Or.inl ⟨by rfl, ?_⟩
          (intro V hSV; (try dsimp only at hSV); have q0 := hSV; go_simp; try with_reducible rfl)
        (try simp only [Act.put, List.setIfInBounds_toArray, List.set_cons_zero, List.set_cons_succ])
        have g0 := BX.out.cell 0
        have f0 := BX.out.frozen 0
        have g1 := BX.out.cell 1
        have f1 := BX.out.frozen 1
        have g2 := BX.out.cell 2
        have f2 := BX.out.frozen 2
        have g3 := BX.out.cell 3
        have f3 := BX.out.frozen 3
        have BF : Hid (Blk (((((((((y4).setCell ⟨y2.heap.size, 0, none⟩ (.int .i64 x))).setCell ⟨y2.heap.size, 1, none⟩ (.int .i64 p))).setCell ⟨y2.heap.size, 2, none⟩ (.int .i64 q))).setCell ⟨y2.heap.size, 3, none⟩ (.slice AV T.length cV))) (y2.heap.size) #[.int .i64 x, .int .i64 p, .int .i64 q, .slice AV T.length cV] 27) := Lib.hid (by simpa using ((((BX.out.set 0 (.int .i64 x)).set 1 (.int .i64 p)).set 2 (.int .i64 q)).set 3 (.slice AV T.length cV)))
        have HBF : Hid (Below w1.heap.size w1 (((((((((y4).setCell ⟨y2.heap.size, 0, none⟩ (.int .i64 x))).setCell ⟨y2.heap.size, 1, none⟩ (.int .i64 p))).setCell ⟨y2.heap.size, 2, none⟩ (.int .i64 q))).setCell ⟨y2.heap.size, 3, none⟩ (.slice AV T.length cV)))) := Lib.hid ((((HB.out.setCell (p := ⟨y2.heap.size, 0, none⟩) HLO.out (.int .i64 x)).setCell (p := ⟨y2.heap.size, 1, none⟩) HLO.out (.int .i64 p)).setCell (p := ⟨y2.heap.size, 2, none⟩) HLO.out (.int .i64 q)).setCell (p := ⟨y2.heap.size, 3, none⟩) HLO.out (.slice AV T.length cV))
        have VF : Hid (Own (((((((((y4).setCell ⟨y2.heap.size, 0, none⟩ (.int .i64 x))).setCell ⟨y2.heap.size, 1, none⟩ (.int .i64 p))).setCell ⟨y2.heap.size, 2, none⟩ (.int .i64 q))).setCell ⟨y2.heap.size, 3, none⟩ (.slice AV T.length cV))) w1.heap.size (.slice AV T.length cV) T) := Lib.hid ((((VV.out.heap (fun k hk => Below.heap_setCell _ ⟨y2.heap.size, 0, none⟩ (.int .i64 x) k (fun e => HVB.out k hk e))).heap (fun k hk => Below.heap_setCell _ ⟨y2.heap.size, 1, none⟩ (.int .i64 p) k (fun e => HVB.out k hk e))).heap (fun k hk => Below.heap_setCell _ ⟨y2.heap.size, 2, none⟩ (.int .i64 q) k (fun e => HVB.out k hk e))).heap (fun k hk => Below.heap_setCell _ ⟨y2.heap.size, 3, none⟩ (.slice AV T.length cV) k (fun e => HVB.out k hk e)))
        have HB := HBF
        refine wpAnyH_ready (rs := [13]) (by kernel_rfl) (by simp) ?_
        refine AllReadyH.cons (o := ?_) ?_ (fun K hK => ?_) AllReadyH.nil
        rotate_left 1
        · (simp only [List.getElem?_toArray, List.getElem?_cons_zero, List.getElem?_cons_succ]; try rfl)
        go_simp
        refine hK.out _ _ (by exact ((HB.out.cell (p := ⟨b, off, none⟩) hbl).trans HLx.out)) (fun hHeld => ?_)
        clear hK K
        (try simp only [Act.put, List.setIfInBounds_toArray, List.set_cons_zero, List.set_cons_succ])
        refine wpAnyH_done (by kernel_rfl) ?_ _
        refine NoPanic.normal ?_
        go_wp2_with fail
        go_meet
        exact ⟨y2.heap.size, AV, cV, rfl, BF.out, VF.out, HLO.out, HBF.out⟩
      refine AllReadyH.cons (o := ?_) ?_ (fun K hK => ?_) AllReadyH.nil
      rotate_left 1
      · (simp only [List.getElem?_toArray, List.getElem?_cons_zero, List.getElem?_cons_succ]; try rfl)
      have hbA := (Below.refl (y1).heap.size (y1)).alloc (Nat.le_refl _) (.cells #[.int .i64 0, .int .i64 0, .int .i64 0, .slice none 0 0] 27)
      have hBX : Blk ((y1).alloc (.cells #[.int .i64 0, .int .i64 0, .int .i64 0, .slice none 0 0] 27)) (y1.heap.size) #[.int .i64 0, .int .i64 0, .int .i64 0, .slice none 0 0] 27 := by
        have h := Blk.new (y1) #[.int .i64 0, .int .i64 0, .int .i64 0, .slice none 0 0] 27
        first | exact h | simpa using h
      have BX := Lib.hid hBX
      have HLO : Hid (w1.heap.size ≤ y1.heap.size) := Lib.hid (by have h := HB.out.size; first | exact h | (simp; done) | (simp at h ⊢; omega))
      clear hBX
      have HB := Lib.hid (HB.out.trans (hbA.mono HB.out.size))
      clear hbA
      go_simp
      refine hK.out _ _ (by exact ((HB.out.cell (p := ⟨b, off, none⟩) hbl).trans HLx.out)) (fun hHeld => ?_)
      clear hK K
      (try simp only [Act.put, List.setIfInBounds_toArray, List.set_cons_zero, List.set_cons_succ])
      refine wpAnyH_ready (rs := [7]) (by kernel_rfl) (by simp) ?_
      refine AllReadyH.cons (o := ?_) ?_ (fun K hK => ?_) AllReadyH.nil
      rotate_left 1
      · (simp only [List.getElem?_toArray, List.getElem?_cons_zero, List.getElem?_cons_succ]; try rfl)
      go_simp
      refine (wordAt_any (some ⟨b, off, none⟩) l c 3 _ hn9 (by omega) (by exact hA.below HB.out)).mono ?_
      rintro e y5 ⟨rfl, hE⟩
      have hb : Below (((y1).alloc (.cells #[.int .i64 0, .int .i64 0, .int .i64 0, .slice none 0 0] 27))).heap.size (((y1).alloc (.cells #[.int .i64 0, .int .i64 0, .int .i64 0, .slice none 0 0] 27))) y5 := by obtain ⟨n, rfl⟩ := hE; exact below_of_drewN _ n
      rw [HWq.out]
      have HB := Lib.hid (HB.out.trans (hb.mono HB.out.size))
      have BX := Lib.hid (BX.out.below hb)
      clear hb hE
      go_wp2_with fail
      refine hK.out _ _ (by exact ((HB.out.cell (p := ⟨b, off, none⟩) hbl).trans HLx.out)) (fun hHeld => ?_)
      clear hK K
      (try simp only [Act.put, List.setIfInBounds_toArray, List.set_cons_zero, List.set_cons_succ])
      refine wpAnyH_ready (rs := [10]) (by kernel_rfl) (by simp) ?_
      refine AllReadyH.cons (o := ?_) ?_ (fun K hK => ?_) AllReadyH.nil
      rotate_left 1
      · (simp only [List.getElem?_toArray, List.getElem?_cons_zero, List.getElem?_cons_succ]; try rfl)
      go_simp
      refine (bytesClone_opt D T N rc _ HN.out hT5 (by exact HS.out.below HB.out)).mono ?_
      rintro e y6 ⟨v, rfl, hown, hb⟩
      have hb : Below (y5).heap.size (y5) y6 := ⟨hb.os, hb.tape, hb.output, hb.size, hb.block⟩
      have hrv := hown.range
      have hbbl := BX.out.lt
      have hown := hown.mono (base' := w1.heap.size) HB.out.size
      obtain ⟨AV, cV, rfl, lV, kV, _, _, _⟩ := own_plain9 hown
      have VV := Lib.hid hown
      have HVB : Hid (∀ k ∈ (Value.slice AV T.length cV).ownBlock.toList, k ≠ y1.heap.size) := Lib.hid (fun k hk e => by have h1 := (hrv k hk).1; have h2 : y1.heap.size < (y5).heap.size := hbbl; omega)
      clear hrv hbbl
      have HB := Lib.hid (HB.out.trans (hb.mono HB.out.size))
      have BX := Lib.hid (BX.out.below hb)
      clear hb hown
      go_wp2_with fail
      refine hK.out _ _ (by exact ((HB.out.cell (p := ⟨b, off, none⟩) hbl).trans HLx.out)) (fun hHeld => ?_)
      clear hK K
      (try simp only [Act.put, List.setIfInBounds_toArray, List.set_cons_zero, List.set_cons_succ])
      refine wpAnyH_take (i := 11) (oi := ?_) (v := ?_) ?_ ?_ ?_ ?_ ?_ ?_ (by exact hHeld) ?_
      rotate_left 2
      · (simp only [List.getElem?_toArray, List.getElem?_cons_zero, List.getElem?_cons_succ]; try rfl)
      · kernel_rfl
      · kernel_rfl
      · kernel_rfl
      · exact fun _ _ _ h => h
      · refine Or.inl ⟨by rfl, ?_⟩
        (intro V hSV; (try dsimp only at hSV); have q0 := hSV; go_simp; try with_reducible rfl)
      (try simp only [Act.put, List.setIfInBounds_toArray, List.set_cons_zero, List.set_cons_succ])
      have g0 := BX.out.cell 0
      have f0 := BX.out.frozen 0
      have g1 := BX.out.cell 1
      have f1 := BX.out.frozen 1
      have g2 := BX.out.cell 2
      have f2 := BX.out.frozen 2
      have g3 := BX.out.cell 3
      have f3 := BX.out.frozen 3
      have BF : Hid (Blk (((((((((y6).setCell ⟨y1.heap.size, 0, none⟩ (.int .i64 x))).setCell ⟨y1.heap.size, 1, none⟩ (.int .i64 p))).setCell ⟨y1.heap.size, 2, none⟩ (.int .i64 q))).setCell ⟨y1.heap.size, 3, none⟩ (.slice AV T.length cV))) (y1.heap.size) #[.int .i64 x, .int .i64 p, .int .i64 q, .slice AV T.length cV] 27) := Lib.hid (by simpa using ((((BX.out.set 0 (.int .i64 x)).set 1 (.int .i64 p)).set 2 (.int .i64 q)).set 3 (.slice AV T.length cV)))
      have HBF : Hid (Below w1.heap.size w1 (((((((((y6).setCell ⟨y1.heap.size, 0, none⟩ (.int .i64 x))).setCell ⟨y1.heap.size, 1, none⟩ (.int .i64 p))).setCell ⟨y1.heap.size, 2, none⟩ (.int .i64 q))).setCell ⟨y1.heap.size, 3, none⟩ (.slice AV T.length cV)))) := Lib.hid ((((HB.out.setCell (p := ⟨y1.heap.size, 0, none⟩) HLO.out (.int .i64 x)).setCell (p := ⟨y1.heap.size, 1, none⟩) HLO.out (.int .i64 p)).setCell (p := ⟨y1.heap.size, 2, none⟩) HLO.out (.int .i64 q)).setCell (p := ⟨y1.heap.size, 3, none⟩) HLO.out (.slice AV T.length cV))
      have VF : Hid (Own (((((((((y6).setCell ⟨y1.heap.size, 0, none⟩ (.int .i64 x))).setCell ⟨y1.heap.size, 1, none⟩ (.int .i64 p))).setCell ⟨y1.heap.size, 2, none⟩ (.int .i64 q))).setCell ⟨y1.heap.size, 3, none⟩ (.slice AV T.length cV))) w1.heap.size (.slice AV T.length cV) T) := Lib.hid ((((VV.out.heap (fun k hk => Below.heap_setCell _ ⟨y1.heap.size, 0, none⟩ (.int .i64 x) k (fun e => HVB.out k hk e))).heap (fun k hk => Below.heap_setCell _ ⟨y1.heap.size, 1, none⟩ (.int .i64 p) k (fun e => HVB.out k hk e))).heap (fun k hk => Below.heap_setCell _ ⟨y1.heap.size, 2, none⟩ (.int .i64 q) k (fun e => HVB.out k hk e))).heap (fun k hk => Below.heap_setCell _ ⟨y1.heap.size, 3, none⟩ (.slice AV T.length cV) k (fun e => HVB.out k hk e)))
      have HB := HBF
      refine wpAnyH_ready (rs := [13]) (by kernel_rfl) (by simp) ?_
      refine AllReadyH.cons (o := ?_) ?_ (fun K hK => ?_) AllReadyH.nil
      rotate_left 1
      · (simp only [List.getElem?_toArray, List.getElem?_cons_zero, List.getElem?_cons_succ]; try rfl)
      go_simp
      refine hK.out _ _ (by exact ((HB.out.cell (p := ⟨b, off, none⟩) hbl).trans HLx.out)) (fun hHeld => ?_)
      clear hK K
      (try simp only [Act.put, List.setIfInBounds_toArray, List.set_cons_zero, List.set_cons_succ])
      refine wpAnyH_done (by kernel_rfl) ?_ _
      refine NoPanic.normal ?_
      go_wp2_with fail
      go_meet
      exact ⟨y1.heap.size, AV, cV, rfl, BF.out, VF.out, HLO.out, HBF.out⟩
    refine AllReadyH.cons (o := ?_) ?_ (fun K hK => ?_) AllReadyH.nil
    rotate_left 1
    · (simp only [List.getElem?_toArray, List.getElem?_cons_zero, List.getElem?_cons_succ]; try rfl)
    have hbA := (Below.refl (w1.drew).heap.size (w1.drew)).alloc (Nat.le_refl _) (.cells #[.int .i64 0, .int .i64 0, .int .i64 0, .slice none 0 0] 27)
    have hBX : Blk ((w1.drew).alloc (.cells #[.int .i64 0, .int .i64 0, .int .i64 0, .slice none 0 0] 27)) (w1.heap.size) #[.int .i64 0, .int .i64 0, .int .i64 0, .slice none 0 0] 27 := by
      have h := Blk.new (w1.drew) #[.int .i64 0, .int .i64 0, .int .i64 0, .slice none 0 0] 27
      first | exact h | simpa using h
    have BX := Lib.hid hBX
    have HLO : Hid (w1.heap.size ≤ w1.heap.size) := Lib.hid (by have h := HB.out.size; first | exact h | (simp; done) | (simp at h ⊢; omega))
    clear hBX
    have HB := Lib.hid (HB.out.trans (hbA.mono HB.out.size))
    clear hbA
    go_simp
    refine hK.out _ _ (by exact ((HB.out.cell (p := ⟨b, off, none⟩) hbl).trans HLx.out)) (fun hHeld => ?_)
    clear hK K
    (try simp only [Act.put, List.setIfInBounds_toArray, List.set_cons_zero, List.set_cons_succ])
    refine wpAnyH_ready (rs := [5]) (by kernel_rfl) (by simp) ?_
    refine AllReadyH.cons (o := ?_) ?_ (fun K hK => ?_) AllReadyH.nil
    rotate_left 1
    · (simp only [List.getElem?_toArray, List.getElem?_cons_zero, List.getElem?_cons_succ]; try rfl)
    go_simp
    refine (wordAt_any (some ⟨b, off, none⟩) l c 1 _ hn9 (by omega) (by exact hA.below HB.out)).mono ?_
    rintro e y7 ⟨rfl, hE⟩
    have hb : Below (((w1.drew).alloc (.cells #[.int .i64 0, .int .i64 0, .int .i64 0, .slice none 0 0] 27))).heap.size (((w1.drew).alloc (.cells #[.int .i64 0, .int .i64 0, .int .i64 0, .slice none 0 0] 27))) y7 := by obtain ⟨n, rfl⟩ := hE; exact below_of_drewN _ n
    rw [HWp.out]
    have HB := Lib.hid (HB.out.trans (hb.mono HB.out.size))
    have BX := Lib.hid (BX.out.below hb)
    clear hb hE
    go_wp2_with fail
    refine hK.out _ _ (by exact ((HB.out.cell (p := ⟨b, off, none⟩) hbl).trans HLx.out)) (fun hHeld => ?_)
    clear hK K
    (try simp only [Act.put, List.setIfInBounds_toArray, List.set_cons_zero, List.set_cons_succ])
    refine wpAnyH_ready (rs := [7]) (by kernel_rfl) (by simp) ?_
    refine AllReadyH.cons (o := ?_) ?_ (fun K hK => ?_) AllReadyH.nil
    rotate_left 1
    · (simp only [List.getElem?_toArray, List.getElem?_cons_zero, List.getElem?_cons_succ]; try rfl)
    go_simp
    refine (wordAt_any (some ⟨b, off, none⟩) l c 3 _ hn9 (by omega) (by exact hA.below HB.out)).mono ?_
    rintro e y8 ⟨rfl, hE⟩
    have hb : Below (y7).heap.size (y7) y8 := by obtain ⟨n, rfl⟩ := hE; exact below_of_drewN _ n
    rw [HWq.out]
    have HB := Lib.hid (HB.out.trans (hb.mono HB.out.size))
    have BX := Lib.hid (BX.out.below hb)
    clear hb hE
    go_wp2_with fail
    refine hK.out _ _ (by exact ((HB.out.cell (p := ⟨b, off, none⟩) hbl).trans HLx.out)) (fun hHeld => ?_)
    clear hK K
    (try simp only [Act.put, List.setIfInBounds_toArray, List.set_cons_zero, List.set_cons_succ])
    refine wpAnyH_ready (rs := [10]) (by kernel_rfl) (by simp) ?_
    refine AllReadyH.cons (o := ?_) ?_ (fun K hK => ?_) AllReadyH.nil
    rotate_left 1
    · (simp only [List.getElem?_toArray, List.getElem?_cons_zero, List.getElem?_cons_succ]; try rfl)
    go_simp
    refine (bytesClone_opt D T N rc _ HN.out hT5 (by exact HS.out.below HB.out)).mono ?_
    rintro e y9 ⟨v, rfl, hown, hb⟩
    have hb : Below (y8).heap.size (y8) y9 := ⟨hb.os, hb.tape, hb.output, hb.size, hb.block⟩
    have hrv := hown.range
    have hbbl := BX.out.lt
    have hown := hown.mono (base' := w1.heap.size) HB.out.size
    obtain ⟨AV, cV, rfl, lV, kV, _, _, _⟩ := own_plain9 hown
    have VV := Lib.hid hown
    have HVB : Hid (∀ k ∈ (Value.slice AV T.length cV).ownBlock.toList, k ≠ w1.heap.size) := Lib.hid (fun k hk e => by have h1 := (hrv k hk).1; have h2 : w1.heap.size < (y8).heap.size := hbbl; omega)
    clear hrv hbbl
    have HB := Lib.hid (HB.out.trans (hb.mono HB.out.size))
    have BX := Lib.hid (BX.out.below hb)
    clear hb hown
    go_wp2_with fail
    refine hK.out _ _ (by exact ((HB.out.cell (p := ⟨b, off, none⟩) hbl).trans HLx.out)) (fun hHeld => ?_)
    clear hK K
    (try simp only [Act.put, List.setIfInBounds_toArray, List.set_cons_zero, List.set_cons_succ])
    refine wpAnyH_take (i := 11) (oi := ?_) (v := ?_) ?_ ?_ ?_ ?_ ?_ ?_ (by exact hHeld) ?_
    rotate_left 2
    · (simp only [List.getElem?_toArray, List.getElem?_cons_zero, List.getElem?_cons_succ]; try rfl)
    · kernel_rfl
    · kernel_rfl
    · kernel_rfl
    · exact fun _ _ _ h => h
    · refine Or.inl ⟨by rfl, ?_⟩
      (intro V hSV; (try dsimp only at hSV); have q0 := hSV; go_simp; try with_reducible rfl)
    (try simp only [Act.put, List.setIfInBounds_toArray, List.set_cons_zero, List.set_cons_succ])
    have g0 := BX.out.cell 0
    have f0 := BX.out.frozen 0
    have g1 := BX.out.cell 1
    have f1 := BX.out.frozen 1
    have g2 := BX.out.cell 2
    have f2 := BX.out.frozen 2
    have g3 := BX.out.cell 3
    have f3 := BX.out.frozen 3
    have BF : Hid (Blk (((((((((y9).setCell ⟨w1.heap.size, 0, none⟩ (.int .i64 x))).setCell ⟨w1.heap.size, 1, none⟩ (.int .i64 p))).setCell ⟨w1.heap.size, 2, none⟩ (.int .i64 q))).setCell ⟨w1.heap.size, 3, none⟩ (.slice AV T.length cV))) (w1.heap.size) #[.int .i64 x, .int .i64 p, .int .i64 q, .slice AV T.length cV] 27) := Lib.hid (by simpa using ((((BX.out.set 0 (.int .i64 x)).set 1 (.int .i64 p)).set 2 (.int .i64 q)).set 3 (.slice AV T.length cV)))
    have HBF : Hid (Below w1.heap.size w1 (((((((((y9).setCell ⟨w1.heap.size, 0, none⟩ (.int .i64 x))).setCell ⟨w1.heap.size, 1, none⟩ (.int .i64 p))).setCell ⟨w1.heap.size, 2, none⟩ (.int .i64 q))).setCell ⟨w1.heap.size, 3, none⟩ (.slice AV T.length cV)))) := Lib.hid ((((HB.out.setCell (p := ⟨w1.heap.size, 0, none⟩) HLO.out (.int .i64 x)).setCell (p := ⟨w1.heap.size, 1, none⟩) HLO.out (.int .i64 p)).setCell (p := ⟨w1.heap.size, 2, none⟩) HLO.out (.int .i64 q)).setCell (p := ⟨w1.heap.size, 3, none⟩) HLO.out (.slice AV T.length cV))
    have VF : Hid (Own (((((((((y9).setCell ⟨w1.heap.size, 0, none⟩ (.int .i64 x))).setCell ⟨w1.heap.size, 1, none⟩ (.int .i64 p))).setCell ⟨w1.heap.size, 2, none⟩ (.int .i64 q))).setCell ⟨w1.heap.size, 3, none⟩ (.slice AV T.length cV))) w1.heap.size (.slice AV T.length cV) T) := Lib.hid ((((VV.out.heap (fun k hk => Below.heap_setCell _ ⟨w1.heap.size, 0, none⟩ (.int .i64 x) k (fun e => HVB.out k hk e))).heap (fun k hk => Below.heap_setCell _ ⟨w1.heap.size, 1, none⟩ (.int .i64 p) k (fun e => HVB.out k hk e))).heap (fun k hk => Below.heap_setCell _ ⟨w1.heap.size, 2, none⟩ (.int .i64 q) k (fun e => HVB.out k hk e))).heap (fun k hk => Below.heap_setCell _ ⟨w1.heap.size, 3, none⟩ (.slice AV T.length cV) k (fun e => HVB.out k hk e)))
    have HB := HBF
    refine wpAnyH_ready (rs := [13]) (by kernel_rfl) (by simp) ?_
    refine AllReadyH.cons (o := ?_) ?_ (fun K hK => ?_) AllReadyH.nil
    rotate_left 1
    · (simp only [List.getElem?_toArray, List.getElem?_cons_zero, List.getElem?_cons_succ]; try rfl)
    go_simp
    refine hK.out _ _ (by exact ((HB.out.cell (p := ⟨b, off, none⟩) hbl).trans HLx.out)) (fun hHeld => ?_)
    clear hK K
    (try simp only [Act.put, List.setIfInBounds_toArray, List.set_cons_zero, List.set_cons_succ])
    refine wpAnyH_done (by kernel_rfl) ?_ _
    refine NoPanic.normal ?_
    go_wp2_with fail
    go_meet
    exact ⟨w1.heap.size, AV, cV, rfl, BF.out, VF.out, HLO.out, HBF.out⟩
  case rest =>
  obtain ⟨bb, AV, cV, rfl, hBB, hV, hbb, hbW⟩ := hcut
  have HBB := Lib.hid hBB
  have HV := Lib.hid hV
  have HW2 := Lib.hid (below_then HAL.out hbW)
  have RX := Lib.hid (RX.out.below hbW)
  obtain ⟨_, _, ev, lV, kV, hBV, _, _⟩ := own_plain9 hV
  cases ev
  have HBV := Lib.hid hBV
  clear hBB hV hbW hBV hA
  have b0 := HBB.out.cell 0
  have b1 := HBB.out.cell 1
  have b2 := HBB.out.cell 2
  have b3 := HBB.out.cell 3
  obtain ⟨z, hz⟩ : ∃ z, rpOk x p q T = z := ⟨_, rfl⟩
  have HZ := Lib.hid hz
  clear hz
  have HG : Hid (rpGood l = z) := Lib.hid (by rw [HGR.out, HWx.out, HWp.out, HWq.out, HTT.out]; exact HZ.out)
  go_wp2_with fail
  refine (implReplyOk_any x p q AV T cV _ lV kV (by exact hT.below HW2.out) (by exact HBV.out)).mono ?_
  rintro e w2 ⟨rfl, hb2⟩
  rw [HZ.out]
  have RX := Lib.hid (RX.out.below hb2)
  have HBB := Lib.hid (HBB.out.below hb2)
  have HV := Lib.hid (HV.out.below hb2)
  have HB2 := Lib.hid (below_then HW2.out hb2)
  clear hb2 b0 b1 b2 b3
  have b0 := HBB.out.cell 0
  have b1 := HBB.out.cell 1
  have b2 := HBB.out.cell 2
  have b3 := HBB.out.cell 3
  cases z
  case false =>
    have r0 := RX.out.cell 0
    have fr0 := RX.out.frozen 0
    have r1 := RX.out.cell 1
    have fr1 := RX.out.frozen 1
    have r2 := RX.out.cell 2
    have fr2 := RX.out.frozen 2
    have r3 := RX.out.cell 3
    have fr3 := RX.out.frozen 3
    have hzz := RX.out.lt
    go_wp2
    refine bodyPost_ret (v := .tuple #[.agg #[.int .i64 0, .int .i64 0, .int .i64 0, .slice none 0 0], .bool false]) (by simp [results, Tryd.results19, go_sem, r0, r1, r2, r3]) rfl ?_
    refine ⟨.slice none 0 0, by unfold rpFd; rw [HG.out]; rfl, by unfold rpT; rw [HG.out]; exact Own.nil _ _, ?_⟩
    repeat (refine Below.setCell ?_ (by simp) _)
    exact HB2.out
  have r0 := RX.out.cell 0
  have fr0 := RX.out.frozen 0
  have r1 := RX.out.cell 1
  have fr1 := RX.out.frozen 1
  have r2 := RX.out.cell 2
  have fr2 := RX.out.frozen 2
  have r3 := RX.out.cell 3
  have fr3 := RX.out.frozen 3
  have hzz := RX.out.lt
  go_wp2
  refine bodyPost_ret (v := .tuple #[.agg #[.int .i64 x, .int .i64 p, .int .i64 q, .slice AV T.length cV], .bool true]) (by simp [results, Tryd.results19, go_sem, r0, r1, r2, r3]) rfl ?_
  refine ⟨.slice AV T.length cV, by unfold rpFd; rw [HG.out, HWx.out, HWp.out, HWq.out]; rfl, ?_, ?_⟩
  · have e : rpT l = T := by unfold rpT; rw [HG.out]; exact HTT.out
    rw [e]
    have h9 : ∀ (W : World) (i : Nat) (u : Value), Own W w1.heap.size (.slice AV T.length cV) T → Own (W.setCell ⟨w.heap.size, i, none⟩ u) w1.heap.size (.slice AV T.length cV) T := fun W i u h => h.setBelow (by simpa using hzw) u
    refine Own.mono (base := w1.heap.size) ?_ (by omega)
    iterate 4 (refine h9 _ _ _ ?_)
    exact HV.out
  · repeat (refine Below.setCell ?_ (by simp) _)
    exact HB2.out
end Go.Proofs.YtdmmdbapkogdhabDoor
