/-
  Chapter 9, ReqParse in the program: contract. Own work.
-/
import Derived.Test.YtgpjjolgpppeeaaDoorN03
import Derived.Test.YtgpjjolgpppeeaaDoorEB
import Derived.Test.YtgpjjolgpppeeaaDoorC05
import Derived.Test.YtgpjjolgpppeeaaDoorCl
import Derived.Deep.RegionHeld3
import Derived.Deep.DeepCutAuto
namespace Go.Proofs.YtgpjjolgpppeeaaDoor
open Go.RowKit P
set_option linter.unusedVariables false
set_option linter.unusedSimpArgs false
set_option maxRecDepth 100000

/-- What is read out of d, a field at a time. -/
def rqFd (d : List UInt8) (x : Int) : Int := if rqGood d = true then x else 0
def rqT (d : List UInt8) : List UInt8 := if rqGood d = true then d.drop 9 else []
def GivesRq (d : List UInt8) (w : World) (e : Ending) (w' : World) : Prop := ∃ v, e = .returned (.tuple #[.agg #[.int .i64 (rqFd d (gb d 0)), .int .i64 (rqFd d (gb d 1)), .int .i64 (rqFd d (wd d 2)), .int .i64 (rqFd d (wd d 4)), .int .i64 (rqFd d (wd d 6)), v], .bool (rqGood d)]) ∧ Own w' w.heap.size v (rqT d) ∧ Below w.heap.size w w'

set_option maxHeartbeats 32000000 in
theorem implReqParse_any (A0 : Option Addr) (l : List UInt8) (c : Nat) (w : World) (hlc : l.length ≤ c) (hc9 : c ≤ 9223372036854775807) (hPl : A0 = none → c = 0) (hpp : ∀ a, A0 = some a → ∃ g o, a = ⟨g, o, none⟩) (hT : Tab w) (hA0 : Bs w A0 l) :
    Calls Tryd.prog 37 #[.slice A0 l.length c] w (GivesRq l w) := by
  have hn9 : l.length ≤ 9223372036854775807 := by omega
  have RX := Lib.hid (Blk.new w #[.int .i64 0, .int .i64 0, .int .i64 0, .int .i64 0, .int .i64 0, .slice none 0 0] 29)
  have HAL := Lib.hid ((Below.refl w.heap.size w).alloc (Nat.le_refl _) (.cells #[.int .i64 0, .int .i64 0, .int .i64 0, .int .i64 0, .int .i64 0, .slice none 0 0] 29))
  by_cases hs : l.length < 9
  · have HG := Lib.hid (rqGood_short hs)
    have hs' : (l.length : Int) < 9 := by omega
    clear hs
    go_enter Tryd.func37, Tryd.ntmps37
    have r0 := RX.out.cell 0
    have fr0 := RX.out.frozen 0
    have r1 := RX.out.cell 1
    have fr1 := RX.out.frozen 1
    have r2 := RX.out.cell 2
    have fr2 := RX.out.frozen 2
    have r3 := RX.out.cell 3
    have fr3 := RX.out.frozen 3
    have r4 := RX.out.cell 4
    have fr4 := RX.out.frozen 4
    have r5 := RX.out.cell 5
    have fr5 := RX.out.frozen 5
    have hzz := RX.out.lt
    go_wp2
    refine bodyPost_ret (v := .tuple #[.agg #[.int .i64 0, .int .i64 0, .int .i64 0, .int .i64 0, .int .i64 0, .slice none 0 0], .bool false]) (by simp [results, Tryd.results37, go_sem, r0, r1, r2, r3, r4, r5]) rfl ?_
    refine ⟨.slice none 0 0, by unfold rqFd; rw [HG.out]; rfl, by unfold rqT; rw [HG.out]; exact Own.nil _ _, ?_⟩
    repeat (refine Below.setCell ?_ (by simp) _)
    exact HAL.out
  have hs' : ¬ (l.length : Int) < 9 := by omega
  obtain ⟨b, off, rfl, hbl0, _⟩ := hA0 0 (by omega)
  obtain ⟨x, hdx⟩ : ∃ x, gb l 0 = x := ⟨_, rfl⟩
  have hLx : w.cell? ⟨b, off, none⟩ = some (.int .u8 x) := by
    obtain ⟨b2, o2, e2, _, hc2⟩ := hA0 0 (by omega)
    cases e2
    rw [← hdx, gb_get l 0 (by omega)]; exact hc2
  have hwrx : IntKind.i64.wrap x = x := IntWalk.i64_in _ (by have := gb_bd l 0; rw [hdx] at this; omega)
  have HWx := Lib.hid hdx
  clear hdx
  obtain ⟨s, hds⟩ : ∃ x, gb l 1 = x := ⟨_, rfl⟩
  have hLs : w.cell? ⟨b, off + 1, none⟩ = some (.int .u8 s) := by
    obtain ⟨b2, o2, e2, _, hc2⟩ := hA0 1 (by omega)
    cases e2
    rw [← hds, gb_get l 1 (by omega)]; exact hc2
  have hwrs : IntKind.i64.wrap s = s := IntWalk.i64_in _ (by have := gb_bd l 1; rw [hds] at this; omega)
  have HWs := Lib.hid hds
  clear hds
  obtain ⟨p, hdp⟩ : ∃ x, wd l 2 = x := ⟨_, rfl⟩
  have HWp := Lib.hid hdp
  clear hdp
  obtain ⟨q, hdq⟩ : ∃ x, wd l 4 = x := ⟨_, rfl⟩
  have HWq := Lib.hid hdq
  clear hdq
  obtain ⟨r, hdr⟩ : ∃ x, wd l 6 = x := ⟨_, rfl⟩
  have HWr := Lib.hid hdr
  clear hdr
  obtain ⟨D, hsl, hBD, _, _⟩ := slc_tail (some ⟨b, off, none⟩) l.length c 9 w l hPl hpp rfl (by omega) hlc hc9 hA0
  obtain ⟨T, hT0⟩ : ∃ T, l.drop 9 = T := ⟨_, rfl⟩
  rw [hT0] at hBD
  have HTT := Lib.hid hT0
  have hTl : l.length - 9 = T.length := by rw [← hT0, List.length_drop]
  obtain ⟨N, hN⟩ : ∃ N, l.length - 9 = N := ⟨_, rfl⟩
  obtain ⟨rc, hrc⟩ : ∃ r, c - 9 = r := ⟨_, rfl⟩
  have hsl' : ∀ W, (Instr.slice 22 (.slice (some ⟨b, off, none⟩) l.length c) (some (.int .i64 9)) none none).run Tryd.prog W = .ok (.slice D N rc) W := fun W => by
    have h := hsl W
    rw [hN, hrc] at h
    exact h
  have HN : Hid (N = T.length) := Lib.hid (by rw [← hN]; exact hTl)
  have hlN : l.length = N + 9 := by omega
  have HLN := Lib.hid hlN
  have HBD := Lib.hid hBD
  clear hsl hBD hT0 hTl hrc hN hlN
  have HA0 := Lib.hid hA0
  clear hA0
  obtain ⟨n8, hd8⟩ : ∃ x, gb l 8 = x := ⟨_, rfl⟩
  have hL8 : w.cell? ⟨b, off + 8, none⟩ = some (.int .u8 n8) := by
    obtain ⟨b2, o2, e2, _, hc2⟩ := HA0.out 8 (by omega)
    cases e2
    rw [← hd8, gb_get l 8 (by omega)]; exact hc2
  have hwr8 : IntKind.i64.wrap n8 = n8 := IntWalk.i64_in _ (by have := gb_bd l 8; rw [hd8] at this; omega)
  have h8l : (8 : Int) < (l.length : Int) := by omega
  have hwl : IntKind.i64.wrap ((l.length : Int) - 9) = (l.length : Int) - 9 := IntWalk.i64_in _ ⟨by omega, by omega⟩
  have HD8 := Lib.hid hd8
  clear hd8
  by_cases hm : (l.length : Int) - 9 = n8
  case neg =>
    have HG := Lib.hid (rqGood_wrong (d := l) (by rw [HD8.out]; exact hm))
    have hne : ((l.length : Int) - 9 != n8) = true := by simpa using hm
    clear hm
    go_enter Tryd.func37, Tryd.ntmps37
    have r0 := RX.out.cell 0
    have fr0 := RX.out.frozen 0
    have r1 := RX.out.cell 1
    have fr1 := RX.out.frozen 1
    have r2 := RX.out.cell 2
    have fr2 := RX.out.frozen 2
    have r3 := RX.out.cell 3
    have fr3 := RX.out.frozen 3
    have r4 := RX.out.cell 4
    have fr4 := RX.out.frozen 4
    have r5 := RX.out.cell 5
    have fr5 := RX.out.frozen 5
    have hzz := RX.out.lt
    go_wp2
    refine bodyPost_ret (v := .tuple #[.agg #[.int .i64 0, .int .i64 0, .int .i64 0, .int .i64 0, .int .i64 0, .slice none 0 0], .bool false]) (by simp [results, Tryd.results37, go_sem, r0, r1, r2, r3, r4, r5]) rfl ?_
    refine ⟨.slice none 0 0, by unfold rqFd; rw [HG.out]; rfl, by unfold rqT; rw [HG.out]; exact Own.nil _ _, ?_⟩
    repeat (refine Below.setCell ?_ (by simp) _)
    exact HAL.out
  have hne : ((l.length : Int) - 9 != n8) = false := by simpa using hm
  have HGR := Lib.hid (rqGood_right (d := l) (by omega) (by rw [HD8.out]; exact hm))
  have hn255 : N ≤ 1000000 := by have h1 := HLN.out; have h2 := HD8.out; have h3 := gb_bd l 8; omega
  clear hm
  go_enter Tryd.func37, Tryd.ntmps37
  go_upto_region 3 with fail
  generalize w.alloc (.cells #[.int .i64 0, .int .i64 0, .int .i64 0, .int .i64 0, .int .i64 0, .slice none 0 0] 29) = w1 at *
  have hT5 : T.length ≤ 1000000 := by have := HN.out; omega
  have hA := (HA0.out.below HAL.out)
  have HS := Lib.hid (HBD.out.below HAL.out)
  have hbl : b < w1.heap.size := by have := HAL.out.size; omega
  have HLx := Lib.hid ((HAL.out.cell (p := ⟨b, off, none⟩) hbl0).trans hLx)
  clear hLx
  have HLs := Lib.hid ((HAL.out.cell (p := ⟨b, off + 1, none⟩) hbl0).trans hLs)
  clear hLs
  have hb0 : 0 < l.length := by omega
  have hbi0 : (0 : Int) < (l.length : Int) := by omega
  have hb1 : 1 < l.length := by omega
  have hbi1 : (1 : Int) < (l.length : Int) := by omega
  have hzw : w.heap.size < w1.heap.size := RX.out.lt
  go_cut [4] (fun pv wx => ∃ (bb : Nat) (AV : Option Addr) (cV : Nat), pv = .pointer (some ⟨bb, 0, none⟩) ∧ Blk wx bb #[.int .i64 x, .int .i64 s, .int .i64 p, .int .i64 q, .int .i64 r, .slice AV T.length cV] 29 ∧ Own wx w1.heap.size (.slice AV T.length cV) T ∧ w1.heap.size ≤ bb ∧ Below w1.heap.size w1 wx)
  case first =>
    have HB := Lib.hid (show Below w1.heap.size w1 w1.drew from (Below.refl w1.heap.size w1).drew)
    refine wp_region_noPanic ?_
    refine wp_region_held_drew (S := (fun V => V.cell? ⟨b, off, none⟩ = some (.int .u8 x) ∧ V.cell? ⟨b, off + 1, none⟩ = some (.int .u8 s))) (by kernel_rfl) (by exact (⟨(HB.out.cell (p := ⟨b, off, none⟩) hbl).trans HLx.out, (HB.out.cell (p := ⟨b, off + 1, none⟩) hbl).trans HLs.out⟩)) (fun hHeld => ?_)
    refine wpAnyH_take (i := 0) (oi := ?_) (v := ?_) ?_ ?_ ?_ ?_ ?_ ?_ (by exact hHeld) ?_
    rotate_left 2
    · (simp only [List.getElem?_toArray, List.getElem?_cons_zero]; try rfl)
    · kernel_rfl
    · kernel_rfl
    · kernel_rfl
    · exact fun _ _ _ h => h
    · refine Or.inl ⟨by rfl, ?_⟩
      (intro V hSV; (try dsimp only at hSV); obtain ⟨q0, q1⟩ := hSV; go_simp; try with_reducible rfl)
    (try simp only [Act.put, List.setIfInBounds_toArray, List.set_cons_zero, List.set_cons_succ])
    refine wpAnyH_take (i := 1) (oi := ?_) (v := ?_) ?_ ?_ ?_ ?_ ?_ ?_ (by exact hHeld) ?_
    rotate_left 2
    · (simp only [List.getElem?_toArray, List.getElem?_cons_zero, List.getElem?_cons_succ]; try rfl)
    · kernel_rfl
    · kernel_rfl
    · kernel_rfl
    · exact fun _ _ _ h => h
    · refine Or.inl ⟨by rfl, ?_⟩
      (intro V hSV; (try dsimp only at hSV); obtain ⟨q0, q1⟩ := hSV; go_simp; try with_reducible rfl)
    (try simp only [Act.put, List.setIfInBounds_toArray, List.set_cons_zero, List.set_cons_succ])
    refine wpAnyH_take (i := 2) (oi := ?_) (v := ?_) ?_ ?_ ?_ ?_ ?_ ?_ (by exact hHeld) ?_
    rotate_left 2
    · (simp only [List.getElem?_toArray, List.getElem?_cons_zero, List.getElem?_cons_succ]; try rfl)
    · kernel_rfl
    · kernel_rfl
    · kernel_rfl
    · exact fun _ _ _ h => h
    · refine Or.inl ⟨by rfl, ?_⟩
      (intro V hSV; (try dsimp only at hSV); obtain ⟨q0, q1⟩ := hSV; go_simp; try with_reducible rfl)
    (try simp only [Act.put, List.setIfInBounds_toArray, List.set_cons_zero, List.set_cons_succ])
    refine wpAnyH_take (i := 3) (oi := ?_) (v := ?_) ?_ ?_ ?_ ?_ ?_ ?_ (by exact hHeld) ?_
    rotate_left 2
    · (simp only [List.getElem?_toArray, List.getElem?_cons_zero, List.getElem?_cons_succ]; try rfl)
    · kernel_rfl
    · kernel_rfl
    · kernel_rfl
    · exact fun _ _ _ h => h
    · refine Or.inl ⟨by rfl, ?_⟩
      (intro V hSV; (try dsimp only at hSV); obtain ⟨q0, q1⟩ := hSV; go_simp; try with_reducible rfl)
    (try simp only [Act.put, List.setIfInBounds_toArray, List.set_cons_zero, List.set_cons_succ])
    refine wpAnyH_take (i := 4) (oi := ?_) (v := ?_) ?_ ?_ ?_ ?_ ?_ ?_ (by exact hHeld) ?_
    rotate_left 2
    · (simp only [List.getElem?_toArray, List.getElem?_cons_zero, List.getElem?_cons_succ]; try rfl)
    · kernel_rfl
    · kernel_rfl
    · kernel_rfl
    · exact fun _ _ _ h => h
    · refine Or.inl ⟨by rfl, ?_⟩
      (intro V hSV; (try dsimp only at hSV); obtain ⟨q0, q1⟩ := hSV; go_simp; try with_reducible rfl)
    (try simp only [Act.put, List.setIfInBounds_toArray, List.set_cons_zero, List.set_cons_succ])
    refine wpAnyH_take (i := 5) (oi := ?_) (v := ?_) ?_ ?_ ?_ ?_ ?_ ?_ (by exact hHeld) ?_
    rotate_left 2
    · (simp only [List.getElem?_toArray, List.getElem?_cons_zero, List.getElem?_cons_succ]; try rfl)
    · kernel_rfl
    · kernel_rfl
    · kernel_rfl
    · exact fun _ _ _ h => h
    · refine Or.inl ⟨by rfl, ?_⟩
      (intro V hSV; (try dsimp only at hSV); obtain ⟨q0, q1⟩ := hSV; go_simp; try with_reducible rfl)
    (try simp only [Act.put, List.setIfInBounds_toArray, List.set_cons_zero, List.set_cons_succ])
    refine wpAnyH_take (i := 6) (oi := ?_) (v := ?_) ?_ ?_ ?_ ?_ ?_ ?_ (by exact hHeld) ?_
    rotate_left 2
    · (simp only [List.getElem?_toArray, List.getElem?_cons_zero, List.getElem?_cons_succ]; try rfl)
    · kernel_rfl
    · kernel_rfl
    · kernel_rfl
    · exact fun _ _ _ h => h
    · refine Or.inl ⟨by rfl, ?_⟩
      (intro V hSV; (try dsimp only at hSV); obtain ⟨q0, q1⟩ := hSV; go_simp; try with_reducible rfl)
    (try simp only [Act.put, List.setIfInBounds_toArray, List.set_cons_zero, List.set_cons_succ])
    refine wpAnyH_take (i := 7) (oi := ?_) (v := ?_) ?_ ?_ ?_ ?_ ?_ ?_ (by exact hHeld) ?_
    rotate_left 2
    · (simp only [List.getElem?_toArray, List.getElem?_cons_zero, List.getElem?_cons_succ]; try rfl)
    · kernel_rfl
    · kernel_rfl
    · kernel_rfl
    · exact fun _ _ _ h => h
    · refine Or.inl ⟨by rfl, ?_⟩
      (intro V hSV; (try dsimp only at hSV); obtain ⟨q0, q1⟩ := hSV; go_simp; try with_reducible rfl)
    (try simp only [Act.put, List.setIfInBounds_toArray, List.set_cons_zero, List.set_cons_succ])
    refine wpAnyH_take (i := 8) (oi := ?_) (v := ?_) ?_ ?_ ?_ ?_ ?_ ?_ (by exact hHeld) ?_
    rotate_left 2
    · (simp only [List.getElem?_toArray, List.getElem?_cons_zero, List.getElem?_cons_succ]; try rfl)
    · kernel_rfl
    · kernel_rfl
    · kernel_rfl
    · exact fun _ _ _ h => h
    · refine Or.inl ⟨by rfl, ?_⟩
      (intro V hSV; (try dsimp only at hSV); obtain ⟨q0, q1⟩ := hSV; go_simp; try with_reducible rfl)
    (try simp only [Act.put, List.setIfInBounds_toArray, List.set_cons_zero, List.set_cons_succ])
    refine wpAnyH_take (i := 10) (oi := ?_) (v := ?_) ?_ ?_ ?_ ?_ ?_ ?_ (by exact hHeld) ?_
    rotate_left 2
    · (simp only [List.getElem?_toArray, List.getElem?_cons_zero, List.getElem?_cons_succ]; try rfl)
    · kernel_rfl
    · kernel_rfl
    · kernel_rfl
    · exact fun _ _ _ h => h
    · refine Or.inl ⟨by rfl, ?_⟩
      (intro V hSV; (try dsimp only at hSV); obtain ⟨q0, q1⟩ := hSV; go_simp; try with_reducible rfl)
    (try simp only [Act.put, List.setIfInBounds_toArray, List.set_cons_zero, List.set_cons_succ])
    refine wpAnyH_take (i := 12) (oi := ?_) (v := ?_) ?_ ?_ ?_ ?_ ?_ ?_ (by exact hHeld) ?_
    rotate_left 2
    · (simp only [List.getElem?_toArray, List.getElem?_cons_zero, List.getElem?_cons_succ]; try rfl)
    · kernel_rfl
    · kernel_rfl
    · kernel_rfl
    · exact fun _ _ _ h => h
    · refine Or.inl ⟨by rfl, ?_⟩
      (intro V hSV; (try dsimp only at hSV); obtain ⟨q0, q1⟩ := hSV; go_simp; try with_reducible rfl)
    (try simp only [Act.put, List.setIfInBounds_toArray, List.set_cons_zero, List.set_cons_succ])
    refine wpAnyH_take (i := 14) (oi := ?_) (v := ?_) ?_ ?_ ?_ ?_ ?_ ?_ (by exact hHeld) ?_
    rotate_left 2
    · (simp only [List.getElem?_toArray, List.getElem?_cons_zero, List.getElem?_cons_succ]; try rfl)
    · kernel_rfl
    · kernel_rfl
    · kernel_rfl
    · exact fun _ _ _ h => h
    · refine Or.inl ⟨by rfl, ?_⟩
      (intro V hSV; (try dsimp only at hSV); obtain ⟨q0, q1⟩ := hSV; go_simp; try with_reducible rfl)
    (try simp only [Act.put, List.setIfInBounds_toArray, List.set_cons_zero, List.set_cons_succ])
    refine wpAnyH_take (i := 15) (oi := ?_) (v := ?_) ?_ ?_ ?_ ?_ ?_ ?_ (by exact hHeld) ?_
    rotate_left 2
    · (simp only [List.getElem?_toArray, List.getElem?_cons_zero, List.getElem?_cons_succ]; try rfl)
    · kernel_rfl
    · kernel_rfl
    · kernel_rfl
    · exact fun _ _ _ h => h
    · refine Or.inl ⟨by rfl, ?_⟩
      (intro V hSV; (try dsimp only at hSV); obtain ⟨q0, q1⟩ := hSV; go_simp; try with_reducible rfl)
    (try simp only [Act.put, List.setIfInBounds_toArray, List.set_cons_zero, List.set_cons_succ])
    refine wpAnyH_ready (rs := [9, 18]) (by kernel_rfl) (by simp) ?_
    refine AllReadyH.cons (o := ?_) ?_ (fun K hK => ?_) ?_
    rotate_left 1
    · (simp only [List.getElem?_toArray, List.getElem?_cons_zero, List.getElem?_cons_succ]; try rfl)
    · go_simp
      refine (wordAt_any (some ⟨b, off, none⟩) l c 2 _ hn9 (by omega) (by exact hA.below HB.out)).mono ?_
      rintro e y1 ⟨rfl, hE⟩
      have hb : Below (w1.drew).heap.size (w1.drew) y1 := by obtain ⟨n, rfl⟩ := hE; exact below_of_drewN _ n
      rw [HWp.out]
      have HB := Lib.hid (HB.out.trans (hb.mono HB.out.size))
      clear hb hE
      go_wp2_with fail
      refine hK.out _ _ (by exact (⟨(HB.out.cell (p := ⟨b, off, none⟩) hbl).trans HLx.out, (HB.out.cell (p := ⟨b, off + 1, none⟩) hbl).trans HLs.out⟩)) (fun hHeld => ?_)
      clear hK K
      (try simp only [Act.put, List.setIfInBounds_toArray, List.set_cons_zero, List.set_cons_succ])
      refine wpAnyH_ready (rs := [11, 18]) (by kernel_rfl) (by simp) ?_
      refine AllReadyH.cons (o := ?_) ?_ (fun K hK => ?_) ?_
      rotate_left 1
      · (simp only [List.getElem?_toArray, List.getElem?_cons_zero, List.getElem?_cons_succ]; try rfl)
      · go_simp
        refine (wordAt_any (some ⟨b, off, none⟩) l c 4 _ hn9 (by omega) (by exact hA.below HB.out)).mono ?_
        rintro e y2 ⟨rfl, hE⟩
        have hb : Below (y1).heap.size (y1) y2 := by obtain ⟨n, rfl⟩ := hE; exact below_of_drewN _ n
        rw [HWq.out]
        have HB := Lib.hid (HB.out.trans (hb.mono HB.out.size))
        clear hb hE
        go_wp2_with fail
        refine hK.out _ _ (by exact (⟨(HB.out.cell (p := ⟨b, off, none⟩) hbl).trans HLx.out, (HB.out.cell (p := ⟨b, off + 1, none⟩) hbl).trans HLs.out⟩)) (fun hHeld => ?_)
        clear hK K
        (try simp only [Act.put, List.setIfInBounds_toArray, List.set_cons_zero, List.set_cons_succ])
        refine wpAnyH_ready (rs := [13, 18]) (by kernel_rfl) (by simp) ?_
        refine AllReadyH.cons (o := ?_) ?_ (fun K hK => ?_) ?_
        rotate_left 1
        · (simp only [List.getElem?_toArray, List.getElem?_cons_zero, List.getElem?_cons_succ]; try rfl)
        · go_simp
          refine (wordAt_any (some ⟨b, off, none⟩) l c 6 _ hn9 (by omega) (by exact hA.below HB.out)).mono ?_
          rintro e y3 ⟨rfl, hE⟩
          have hb : Below (y2).heap.size (y2) y3 := by obtain ⟨n, rfl⟩ := hE; exact below_of_drewN _ n
          rw [HWr.out]
          have HB := Lib.hid (HB.out.trans (hb.mono HB.out.size))
          clear hb hE
          go_wp2_with fail
          refine hK.out _ _ (by exact (⟨(HB.out.cell (p := ⟨b, off, none⟩) hbl).trans HLx.out, (HB.out.cell (p := ⟨b, off + 1, none⟩) hbl).trans HLs.out⟩)) (fun hHeld => ?_)
          clear hK K
          (try simp only [Act.put, List.setIfInBounds_toArray, List.set_cons_zero, List.set_cons_succ])
          refine wpAnyH_ready (rs := [16, 18]) (by kernel_rfl) (by simp) ?_
          refine AllReadyH.cons (o := ?_) ?_ (fun K hK => ?_) ?_
          rotate_left 1
          · (simp only [List.getElem?_toArray, List.getElem?_cons_zero, List.getElem?_cons_succ]; try rfl)
          · go_simp
            refine (bytesClone_opt D T N rc _ HN.out hT5 (by exact HS.out.below HB.out)).mono ?_
            rintro e y4 ⟨v, rfl, hown, hb⟩
            have hb : Below (y3).heap.size (y3) y4 := ⟨hb.os, hb.tape, hb.output, hb.size, hb.block⟩
            have hown := hown.mono (base' := w1.heap.size) HB.out.size
            obtain ⟨AV, cV, rfl, lV, kV, _, _, _⟩ := own_plain9 hown
            have VV := Lib.hid hown
            have HB := Lib.hid (HB.out.trans (hb.mono HB.out.size))
            clear hb hown
            go_wp2_with fail
            refine hK.out _ _ (by exact (⟨(HB.out.cell (p := ⟨b, off, none⟩) hbl).trans HLx.out, (HB.out.cell (p := ⟨b, off + 1, none⟩) hbl).trans HLs.out⟩)) (fun hHeld => ?_)
            clear hK K
            (try simp only [Act.put, List.setIfInBounds_toArray, List.set_cons_zero, List.set_cons_succ])
            refine wpAnyH_take (i := 17) (oi := ?_) (v := ?_) ?_ ?_ ?_ ?_ ?_ ?_ (by exact hHeld) ?_
            rotate_left 2
            · (simp only [List.getElem?_toArray, List.getElem?_cons_zero, List.getElem?_cons_succ]; try rfl)
            · kernel_rfl
            · kernel_rfl
            · kernel_rfl
            · exact fun _ _ _ h => h
            · refine Or.inl ⟨by rfl, ?_⟩
              (intro V hSV; (try dsimp only at hSV); obtain ⟨q0, q1⟩ := hSV; go_simp; try with_reducible rfl)
            (try simp only [Act.put, List.setIfInBounds_toArray, List.set_cons_zero, List.set_cons_succ])
            refine wpAnyH_ready (rs := [18]) (by kernel_rfl) (by simp) ?_
            refine AllReadyH.cons (o := ?_) ?_ (fun K hK => ?_) AllReadyH.nil
            rotate_left 1
            · (simp only [List.getElem?_toArray, List.getElem?_cons_zero, List.getElem?_cons_succ]; try rfl)
            have HB0 := HB
            have VV0 := VV
            have hbA := (Below.refl (y4).heap.size (y4)).alloc (Nat.le_refl _) (.cells #[.int .i64 0, .int .i64 0, .int .i64 0, .int .i64 0, .int .i64 0, .slice none 0 0] 29)
            have hBX : Blk ((y4).alloc (.cells #[.int .i64 0, .int .i64 0, .int .i64 0, .int .i64 0, .int .i64 0, .slice none 0 0] 29)) (y4.heap.size) #[.int .i64 0, .int .i64 0, .int .i64 0, .int .i64 0, .int .i64 0, .slice none 0 0] 29 := by
              have h := Blk.new (y4) #[.int .i64 0, .int .i64 0, .int .i64 0, .int .i64 0, .int .i64 0, .slice none 0 0] 29
              first | exact h | simpa using h
            have BX := Lib.hid hBX
            have HLO : Hid (w1.heap.size ≤ y4.heap.size) := Lib.hid (by have h := HB.out.size; first | exact h | (simp; done) | (simp at h ⊢; omega))
            clear hBX
            have HVB : Hid (∀ k ∈ (Value.slice AV T.length cV).ownBlock.toList, k ≠ y4.heap.size) := Lib.hid (fun k hk e => by have h := (VV.out.range k hk).2; (try simp at h); omega)
            have HB := Lib.hid (HB.out.trans (hbA.mono HB.out.size))
            have VV := Lib.hid (VV.out.below hbA)
            clear hbA
            go_simp
            refine hK.out _ _ (by exact (⟨(HB.out.cell (p := ⟨b, off, none⟩) hbl).trans HLx.out, (HB.out.cell (p := ⟨b, off + 1, none⟩) hbl).trans HLs.out⟩)) (fun hHeld => ?_)
            clear hK K
            (try simp only [Act.put, List.setIfInBounds_toArray, List.set_cons_zero, List.set_cons_succ])
            have hbF := (Below.refl (y4).heap.size (y4)).alloc (Nat.le_refl _) (.cells #[.int .i64 x, .int .i64 s, .int .i64 p, .int .i64 q, .int .i64 r, .slice AV T.length cV] 29)
            have hBF : Blk (((y4).alloc (.cells #[.int .i64 x, .int .i64 s, .int .i64 p, .int .i64 q, .int .i64 r, .slice AV T.length cV] 29))) (y4.heap.size) #[.int .i64 x, .int .i64 s, .int .i64 p, .int .i64 q, .int .i64 r, .slice AV T.length cV] 29 := by
              have h := Blk.new (y4) #[.int .i64 x, .int .i64 s, .int .i64 p, .int .i64 q, .int .i64 r, .slice AV T.length cV] 29
              first | exact h | simpa using h
            have BF := Lib.hid hBF
            have VF := Lib.hid (VV0.out.below hbF)
            have HBF := Lib.hid (HB0.out.trans (hbF.mono HB0.out.size))
            have HB := HBF
            clear hbF hBF
            refine wpAnyH_ready (rs := [19]) (by kernel_rfl) (by simp) ?_
            refine AllReadyH.cons (o := ?_) ?_ (fun K hK => ?_) AllReadyH.nil
            rotate_left 1
            · (simp only [List.getElem?_toArray, List.getElem?_cons_zero, List.getElem?_cons_succ]; try rfl)
            go_simp
            refine hK.out _ _ (by exact (⟨(HB.out.cell (p := ⟨b, off, none⟩) hbl).trans HLx.out, (HB.out.cell (p := ⟨b, off + 1, none⟩) hbl).trans HLs.out⟩)) (fun hHeld => ?_)
            clear hK K
            (try simp only [Act.put, List.setIfInBounds_toArray, List.set_cons_zero, List.set_cons_succ])
            refine wpAnyH_done (by kernel_rfl) ?_ _
            refine NoPanic.normal ?_
            go_wp2_with fail
            go_meet
            exact ⟨y4.heap.size, AV, cV, rfl, BF.out, VF.out, HLO.out, HBF.out⟩
          refine AllReadyH.cons (o := ?_) ?_ (fun K hK => ?_) AllReadyH.nil
          rotate_left 1
          · (simp only [List.getElem?_toArray, List.getElem?_cons_zero, List.getElem?_cons_succ]; try rfl)
          have hbA := (Below.refl (y3).heap.size (y3)).alloc (Nat.le_refl _) (.cells #[.int .i64 0, .int .i64 0, .int .i64 0, .int .i64 0, .int .i64 0, .slice none 0 0] 29)
          have hBX : Blk ((y3).alloc (.cells #[.int .i64 0, .int .i64 0, .int .i64 0, .int .i64 0, .int .i64 0, .slice none 0 0] 29)) (y3.heap.size) #[.int .i64 0, .int .i64 0, .int .i64 0, .int .i64 0, .int .i64 0, .slice none 0 0] 29 := by
            have h := Blk.new (y3) #[.int .i64 0, .int .i64 0, .int .i64 0, .int .i64 0, .int .i64 0, .slice none 0 0] 29
            first | exact h | simpa using h
          have BX := Lib.hid hBX
          have HLO : Hid (w1.heap.size ≤ y3.heap.size) := Lib.hid (by have h := HB.out.size; first | exact h | (simp; done) | (simp at h ⊢; omega))
          clear hBX
          have HB := Lib.hid (HB.out.trans (hbA.mono HB.out.size))
          clear hbA
          go_simp
          refine hK.out _ _ (by exact (⟨(HB.out.cell (p := ⟨b, off, none⟩) hbl).trans HLx.out, (HB.out.cell (p := ⟨b, off + 1, none⟩) hbl).trans HLs.out⟩)) (fun hHeld => ?_)
          clear hK K
          (try simp only [Act.put, List.setIfInBounds_toArray, List.set_cons_zero, List.set_cons_succ])
          refine wpAnyH_ready (rs := [16]) (by kernel_rfl) (by simp) ?_
          refine AllReadyH.cons (o := ?_) ?_ (fun K hK => ?_) AllReadyH.nil
          rotate_left 1
          · (simp only [List.getElem?_toArray, List.getElem?_cons_zero, List.getElem?_cons_succ]; try rfl)
          go_simp
          refine (bytesClone_opt D T N rc _ HN.out hT5 (by exact HS.out.below HB.out)).mono ?_
          rintro e y5 ⟨v, rfl, hown, hb⟩
          have hb : Below (((y3).alloc (.cells #[.int .i64 0, .int .i64 0, .int .i64 0, .int .i64 0, .int .i64 0, .slice none 0 0] 29))).heap.size (((y3).alloc (.cells #[.int .i64 0, .int .i64 0, .int .i64 0, .int .i64 0, .int .i64 0, .slice none 0 0] 29))) y5 := ⟨hb.os, hb.tape, hb.output, hb.size, hb.block⟩
          have hrv := hown.range
          have hbbl := BX.out.lt
          have hown := hown.mono (base' := w1.heap.size) HB.out.size
          obtain ⟨AV, cV, rfl, lV, kV, _, _, _⟩ := own_plain9 hown
          have VV := Lib.hid hown
          have HVB : Hid (∀ k ∈ (Value.slice AV T.length cV).ownBlock.toList, k ≠ y3.heap.size) := Lib.hid (fun k hk e => by have h1 := (hrv k hk).1; have h2 : y3.heap.size < (((y3).alloc (.cells #[.int .i64 0, .int .i64 0, .int .i64 0, .int .i64 0, .int .i64 0, .slice none 0 0] 29))).heap.size := hbbl; omega)
          clear hrv hbbl
          have HB := Lib.hid (HB.out.trans (hb.mono HB.out.size))
          have BX := Lib.hid (BX.out.below hb)
          clear hb hown
          go_wp2_with fail
          refine hK.out _ _ (by exact (⟨(HB.out.cell (p := ⟨b, off, none⟩) hbl).trans HLx.out, (HB.out.cell (p := ⟨b, off + 1, none⟩) hbl).trans HLs.out⟩)) (fun hHeld => ?_)
          clear hK K
          (try simp only [Act.put, List.setIfInBounds_toArray, List.set_cons_zero, List.set_cons_succ])
          refine wpAnyH_take (i := 17) (oi := ?_) (v := ?_) ?_ ?_ ?_ ?_ ?_ ?_ (by exact hHeld) ?_
          rotate_left 2
          · (simp only [List.getElem?_toArray, List.getElem?_cons_zero, List.getElem?_cons_succ]; try rfl)
          · kernel_rfl
          · kernel_rfl
          · kernel_rfl
          · exact fun _ _ _ h => h
          · refine Or.inl ⟨by rfl, ?_⟩
            (intro V hSV; (try dsimp only at hSV); obtain ⟨q0, q1⟩ := hSV; go_simp; try with_reducible rfl)
          (try simp only [Act.put, List.setIfInBounds_toArray, List.set_cons_zero, List.set_cons_succ])
          have g0 := BX.out.cell 0
          have f0 := BX.out.frozen 0
          have g1 := BX.out.cell 1
          have f1 := BX.out.frozen 1
          have g2 := BX.out.cell 2
          have f2 := BX.out.frozen 2
          have g3 := BX.out.cell 3
          have f3 := BX.out.frozen 3
          have g4 := BX.out.cell 4
          have f4 := BX.out.frozen 4
          have g5 := BX.out.cell 5
          have f5 := BX.out.frozen 5
          have BF : Hid (Blk (((((((((((((y5).setCell ⟨y3.heap.size, 0, none⟩ (.int .i64 x))).setCell ⟨y3.heap.size, 1, none⟩ (.int .i64 s))).setCell ⟨y3.heap.size, 2, none⟩ (.int .i64 p))).setCell ⟨y3.heap.size, 3, none⟩ (.int .i64 q))).setCell ⟨y3.heap.size, 4, none⟩ (.int .i64 r))).setCell ⟨y3.heap.size, 5, none⟩ (.slice AV T.length cV))) (y3.heap.size) #[.int .i64 x, .int .i64 s, .int .i64 p, .int .i64 q, .int .i64 r, .slice AV T.length cV] 29) := Lib.hid (by simpa using ((((((BX.out.set 0 (.int .i64 x)).set 1 (.int .i64 s)).set 2 (.int .i64 p)).set 3 (.int .i64 q)).set 4 (.int .i64 r)).set 5 (.slice AV T.length cV)))
          have HBF : Hid (Below w1.heap.size w1 (((((((((((((y5).setCell ⟨y3.heap.size, 0, none⟩ (.int .i64 x))).setCell ⟨y3.heap.size, 1, none⟩ (.int .i64 s))).setCell ⟨y3.heap.size, 2, none⟩ (.int .i64 p))).setCell ⟨y3.heap.size, 3, none⟩ (.int .i64 q))).setCell ⟨y3.heap.size, 4, none⟩ (.int .i64 r))).setCell ⟨y3.heap.size, 5, none⟩ (.slice AV T.length cV)))) := Lib.hid ((((((HB.out.setCell (p := ⟨y3.heap.size, 0, none⟩) HLO.out (.int .i64 x)).setCell (p := ⟨y3.heap.size, 1, none⟩) HLO.out (.int .i64 s)).setCell (p := ⟨y3.heap.size, 2, none⟩) HLO.out (.int .i64 p)).setCell (p := ⟨y3.heap.size, 3, none⟩) HLO.out (.int .i64 q)).setCell (p := ⟨y3.heap.size, 4, none⟩) HLO.out (.int .i64 r)).setCell (p := ⟨y3.heap.size, 5, none⟩) HLO.out (.slice AV T.length cV))
          have VF : Hid (Own (((((((((((((y5).setCell ⟨y3.heap.size, 0, none⟩ (.int .i64 x))).setCell ⟨y3.heap.size, 1, none⟩ (.int .i64 s))).setCell ⟨y3.heap.size, 2, none⟩ (.int .i64 p))).setCell ⟨y3.heap.size, 3, none⟩ (.int .i64 q))).setCell ⟨y3.heap.size, 4, none⟩ (.int .i64 r))).setCell ⟨y3.heap.size, 5, none⟩ (.slice AV T.length cV))) w1.heap.size (.slice AV T.length cV) T) := Lib.hid ((((((VV.out.heap (fun k hk => Below.heap_setCell _ ⟨y3.heap.size, 0, none⟩ (.int .i64 x) k (fun e => HVB.out k hk e))).heap (fun k hk => Below.heap_setCell _ ⟨y3.heap.size, 1, none⟩ (.int .i64 s) k (fun e => HVB.out k hk e))).heap (fun k hk => Below.heap_setCell _ ⟨y3.heap.size, 2, none⟩ (.int .i64 p) k (fun e => HVB.out k hk e))).heap (fun k hk => Below.heap_setCell _ ⟨y3.heap.size, 3, none⟩ (.int .i64 q) k (fun e => HVB.out k hk e))).heap (fun k hk => Below.heap_setCell _ ⟨y3.heap.size, 4, none⟩ (.int .i64 r) k (fun e => HVB.out k hk e))).heap (fun k hk => Below.heap_setCell _ ⟨y3.heap.size, 5, none⟩ (.slice AV T.length cV) k (fun e => HVB.out k hk e)))
          have HB := HBF
          refine wpAnyH_ready (rs := [19]) (by kernel_rfl) (by simp) ?_
          refine AllReadyH.cons (o := ?_) ?_ (fun K hK => ?_) AllReadyH.nil
          rotate_left 1
          · (simp only [List.getElem?_toArray, List.getElem?_cons_zero, List.getElem?_cons_succ]; try rfl)
          go_simp
          refine hK.out _ _ (by exact (⟨(HB.out.cell (p := ⟨b, off, none⟩) hbl).trans HLx.out, (HB.out.cell (p := ⟨b, off + 1, none⟩) hbl).trans HLs.out⟩)) (fun hHeld => ?_)
          clear hK K
          (try simp only [Act.put, List.setIfInBounds_toArray, List.set_cons_zero, List.set_cons_succ])
          refine wpAnyH_done (by kernel_rfl) ?_ _
          refine NoPanic.normal ?_
          go_wp2_with fail
          go_meet
          exact ⟨y3.heap.size, AV, cV, rfl, BF.out, VF.out, HLO.out, HBF.out⟩
        refine AllReadyH.cons (o := ?_) ?_ (fun K hK => ?_) AllReadyH.nil
        rotate_left 1
        · (simp only [List.getElem?_toArray, List.getElem?_cons_zero, List.getElem?_cons_succ]; try rfl)
        have hbA := (Below.refl (y2).heap.size (y2)).alloc (Nat.le_refl _) (.cells #[.int .i64 0, .int .i64 0, .int .i64 0, .int .i64 0, .int .i64 0, .slice none 0 0] 29)
        have hBX : Blk ((y2).alloc (.cells #[.int .i64 0, .int .i64 0, .int .i64 0, .int .i64 0, .int .i64 0, .slice none 0 0] 29)) (y2.heap.size) #[.int .i64 0, .int .i64 0, .int .i64 0, .int .i64 0, .int .i64 0, .slice none 0 0] 29 := by
          have h := Blk.new (y2) #[.int .i64 0, .int .i64 0, .int .i64 0, .int .i64 0, .int .i64 0, .slice none 0 0] 29
          first | exact h | simpa using h
        have BX := Lib.hid hBX
        have HLO : Hid (w1.heap.size ≤ y2.heap.size) := Lib.hid (by have h := HB.out.size; first | exact h | (simp; done) | (simp at h ⊢; omega))
        clear hBX
        have HB := Lib.hid (HB.out.trans (hbA.mono HB.out.size))
        clear hbA
        go_simp
        refine hK.out _ _ (by exact (⟨(HB.out.cell (p := ⟨b, off, none⟩) hbl).trans HLx.out, (HB.out.cell (p := ⟨b, off + 1, none⟩) hbl).trans HLs.out⟩)) (fun hHeld => ?_)
        clear hK K
        (try simp only [Act.put, List.setIfInBounds_toArray, List.set_cons_zero, List.set_cons_succ])
        refine wpAnyH_ready (rs := [13]) (by kernel_rfl) (by simp) ?_
        refine AllReadyH.cons (o := ?_) ?_ (fun K hK => ?_) AllReadyH.nil
        rotate_left 1
        · (simp only [List.getElem?_toArray, List.getElem?_cons_zero, List.getElem?_cons_succ]; try rfl)
        go_simp
        refine (wordAt_any (some ⟨b, off, none⟩) l c 6 _ hn9 (by omega) (by exact hA.below HB.out)).mono ?_
        rintro e y6 ⟨rfl, hE⟩
        have hb : Below (((y2).alloc (.cells #[.int .i64 0, .int .i64 0, .int .i64 0, .int .i64 0, .int .i64 0, .slice none 0 0] 29))).heap.size (((y2).alloc (.cells #[.int .i64 0, .int .i64 0, .int .i64 0, .int .i64 0, .int .i64 0, .slice none 0 0] 29))) y6 := by obtain ⟨n, rfl⟩ := hE; exact below_of_drewN _ n
        rw [HWr.out]
        have HB := Lib.hid (HB.out.trans (hb.mono HB.out.size))
        have BX := Lib.hid (BX.out.below hb)
        clear hb hE
        go_wp2_with fail
        refine hK.out _ _ (by exact (⟨(HB.out.cell (p := ⟨b, off, none⟩) hbl).trans HLx.out, (HB.out.cell (p := ⟨b, off + 1, none⟩) hbl).trans HLs.out⟩)) (fun hHeld => ?_)
        clear hK K
        (try simp only [Act.put, List.setIfInBounds_toArray, List.set_cons_zero, List.set_cons_succ])
        refine wpAnyH_ready (rs := [16]) (by kernel_rfl) (by simp) ?_
        refine AllReadyH.cons (o := ?_) ?_ (fun K hK => ?_) AllReadyH.nil
        rotate_left 1
        · (simp only [List.getElem?_toArray, List.getElem?_cons_zero, List.getElem?_cons_succ]; try rfl)
        go_simp
        refine (bytesClone_opt D T N rc _ HN.out hT5 (by exact HS.out.below HB.out)).mono ?_
        rintro e y7 ⟨v, rfl, hown, hb⟩
        have hb : Below (y6).heap.size (y6) y7 := ⟨hb.os, hb.tape, hb.output, hb.size, hb.block⟩
        have hrv := hown.range
        have hbbl := BX.out.lt
        have hown := hown.mono (base' := w1.heap.size) HB.out.size
        obtain ⟨AV, cV, rfl, lV, kV, _, _, _⟩ := own_plain9 hown
        have VV := Lib.hid hown
        have HVB : Hid (∀ k ∈ (Value.slice AV T.length cV).ownBlock.toList, k ≠ y2.heap.size) := Lib.hid (fun k hk e => by have h1 := (hrv k hk).1; have h2 : y2.heap.size < (y6).heap.size := hbbl; omega)
        clear hrv hbbl
        have HB := Lib.hid (HB.out.trans (hb.mono HB.out.size))
        have BX := Lib.hid (BX.out.below hb)
        clear hb hown
        go_wp2_with fail
        refine hK.out _ _ (by exact (⟨(HB.out.cell (p := ⟨b, off, none⟩) hbl).trans HLx.out, (HB.out.cell (p := ⟨b, off + 1, none⟩) hbl).trans HLs.out⟩)) (fun hHeld => ?_)
        clear hK K
        (try simp only [Act.put, List.setIfInBounds_toArray, List.set_cons_zero, List.set_cons_succ])
        refine wpAnyH_take (i := 17) (oi := ?_) (v := ?_) ?_ ?_ ?_ ?_ ?_ ?_ (by exact hHeld) ?_
        rotate_left 2
        · (simp only [List.getElem?_toArray, List.getElem?_cons_zero, List.getElem?_cons_succ]; try rfl)
        · kernel_rfl
        · kernel_rfl
        · kernel_rfl
        · exact fun _ _ _ h => h
        · refine Or.inl ⟨by rfl, ?_⟩
          (intro V hSV; (try dsimp only at hSV); obtain ⟨q0, q1⟩ := hSV; go_simp; try with_reducible rfl)
        (try simp only [Act.put, List.setIfInBounds_toArray, List.set_cons_zero, List.set_cons_succ])
        have g0 := BX.out.cell 0
        have f0 := BX.out.frozen 0
        have g1 := BX.out.cell 1
        have f1 := BX.out.frozen 1
        have g2 := BX.out.cell 2
        have f2 := BX.out.frozen 2
        have g3 := BX.out.cell 3
        have f3 := BX.out.frozen 3
        have g4 := BX.out.cell 4
        have f4 := BX.out.frozen 4
        have g5 := BX.out.cell 5
        have f5 := BX.out.frozen 5
        have BF : Hid (Blk (((((((((((((y7).setCell ⟨y2.heap.size, 0, none⟩ (.int .i64 x))).setCell ⟨y2.heap.size, 1, none⟩ (.int .i64 s))).setCell ⟨y2.heap.size, 2, none⟩ (.int .i64 p))).setCell ⟨y2.heap.size, 3, none⟩ (.int .i64 q))).setCell ⟨y2.heap.size, 4, none⟩ (.int .i64 r))).setCell ⟨y2.heap.size, 5, none⟩ (.slice AV T.length cV))) (y2.heap.size) #[.int .i64 x, .int .i64 s, .int .i64 p, .int .i64 q, .int .i64 r, .slice AV T.length cV] 29) := Lib.hid (by simpa using ((((((BX.out.set 0 (.int .i64 x)).set 1 (.int .i64 s)).set 2 (.int .i64 p)).set 3 (.int .i64 q)).set 4 (.int .i64 r)).set 5 (.slice AV T.length cV)))
        have HBF : Hid (Below w1.heap.size w1 (((((((((((((y7).setCell ⟨y2.heap.size, 0, none⟩ (.int .i64 x))).setCell ⟨y2.heap.size, 1, none⟩ (.int .i64 s))).setCell ⟨y2.heap.size, 2, none⟩ (.int .i64 p))).setCell ⟨y2.heap.size, 3, none⟩ (.int .i64 q))).setCell ⟨y2.heap.size, 4, none⟩ (.int .i64 r))).setCell ⟨y2.heap.size, 5, none⟩ (.slice AV T.length cV)))) := Lib.hid ((((((HB.out.setCell (p := ⟨y2.heap.size, 0, none⟩) HLO.out (.int .i64 x)).setCell (p := ⟨y2.heap.size, 1, none⟩) HLO.out (.int .i64 s)).setCell (p := ⟨y2.heap.size, 2, none⟩) HLO.out (.int .i64 p)).setCell (p := ⟨y2.heap.size, 3, none⟩) HLO.out (.int .i64 q)).setCell (p := ⟨y2.heap.size, 4, none⟩) HLO.out (.int .i64 r)).setCell (p := ⟨y2.heap.size, 5, none⟩) HLO.out (.slice AV T.length cV))
        have VF : Hid (Own (((((((((((((y7).setCell ⟨y2.heap.size, 0, none⟩ (.int .i64 x))).setCell ⟨y2.heap.size, 1, none⟩ (.int .i64 s))).setCell ⟨y2.heap.size, 2, none⟩ (.int .i64 p))).setCell ⟨y2.heap.size, 3, none⟩ (.int .i64 q))).setCell ⟨y2.heap.size, 4, none⟩ (.int .i64 r))).setCell ⟨y2.heap.size, 5, none⟩ (.slice AV T.length cV))) w1.heap.size (.slice AV T.length cV) T) := Lib.hid ((((((VV.out.heap (fun k hk => Below.heap_setCell _ ⟨y2.heap.size, 0, none⟩ (.int .i64 x) k (fun e => HVB.out k hk e))).heap (fun k hk => Below.heap_setCell _ ⟨y2.heap.size, 1, none⟩ (.int .i64 s) k (fun e => HVB.out k hk e))).heap (fun k hk => Below.heap_setCell _ ⟨y2.heap.size, 2, none⟩ (.int .i64 p) k (fun e => HVB.out k hk e))).heap (fun k hk => Below.heap_setCell _ ⟨y2.heap.size, 3, none⟩ (.int .i64 q) k (fun e => HVB.out k hk e))).heap (fun k hk => Below.heap_setCell _ ⟨y2.heap.size, 4, none⟩ (.int .i64 r) k (fun e => HVB.out k hk e))).heap (fun k hk => Below.heap_setCell _ ⟨y2.heap.size, 5, none⟩ (.slice AV T.length cV) k (fun e => HVB.out k hk e)))
        have HB := HBF
        refine wpAnyH_ready (rs := [19]) (by kernel_rfl) (by simp) ?_
        refine AllReadyH.cons (o := ?_) ?_ (fun K hK => ?_) AllReadyH.nil
        rotate_left 1
        · (simp only [List.getElem?_toArray, List.getElem?_cons_zero, List.getElem?_cons_succ]; try rfl)
        go_simp
        refine hK.out _ _ (by exact (⟨(HB.out.cell (p := ⟨b, off, none⟩) hbl).trans HLx.out, (HB.out.cell (p := ⟨b, off + 1, none⟩) hbl).trans HLs.out⟩)) (fun hHeld => ?_)
        clear hK K
        (try simp only [Act.put, List.setIfInBounds_toArray, List.set_cons_zero, List.set_cons_succ])
        refine wpAnyH_done (by kernel_rfl) ?_ _
        refine NoPanic.normal ?_
        go_wp2_with fail
        go_meet
        exact ⟨y2.heap.size, AV, cV, rfl, BF.out, VF.out, HLO.out, HBF.out⟩
      refine AllReadyH.cons (o := ?_) ?_ (fun K hK => ?_) AllReadyH.nil
      rotate_left 1
      · (simp only [List.getElem?_toArray, List.getElem?_cons_zero, List.getElem?_cons_succ]; try rfl)
      have hbA := (Below.refl (y1).heap.size (y1)).alloc (Nat.le_refl _) (.cells #[.int .i64 0, .int .i64 0, .int .i64 0, .int .i64 0, .int .i64 0, .slice none 0 0] 29)
      have hBX : Blk ((y1).alloc (.cells #[.int .i64 0, .int .i64 0, .int .i64 0, .int .i64 0, .int .i64 0, .slice none 0 0] 29)) (y1.heap.size) #[.int .i64 0, .int .i64 0, .int .i64 0, .int .i64 0, .int .i64 0, .slice none 0 0] 29 := by
        have h := Blk.new (y1) #[.int .i64 0, .int .i64 0, .int .i64 0, .int .i64 0, .int .i64 0, .slice none 0 0] 29
        first | exact h | simpa using h
      have BX := Lib.hid hBX
      have HLO : Hid (w1.heap.size ≤ y1.heap.size) := Lib.hid (by have h := HB.out.size; first | exact h | (simp; done) | (simp at h ⊢; omega))
      clear hBX
      have HB := Lib.hid (HB.out.trans (hbA.mono HB.out.size))
      clear hbA
      go_simp
      refine hK.out _ _ (by exact (⟨(HB.out.cell (p := ⟨b, off, none⟩) hbl).trans HLx.out, (HB.out.cell (p := ⟨b, off + 1, none⟩) hbl).trans HLs.out⟩)) (fun hHeld => ?_)
      clear hK K
      (try simp only [Act.put, List.setIfInBounds_toArray, List.set_cons_zero, List.set_cons_succ])
      refine wpAnyH_ready (rs := [11]) (by kernel_rfl) (by simp) ?_
      refine AllReadyH.cons (o := ?_) ?_ (fun K hK => ?_) AllReadyH.nil
      rotate_left 1
      · (simp only [List.getElem?_toArray, List.getElem?_cons_zero, List.getElem?_cons_succ]; try rfl)
      go_simp
      refine (wordAt_any (some ⟨b, off, none⟩) l c 4 _ hn9 (by omega) (by exact hA.below HB.out)).mono ?_
      rintro e y8 ⟨rfl, hE⟩
      have hb : Below (((y1).alloc (.cells #[.int .i64 0, .int .i64 0, .int .i64 0, .int .i64 0, .int .i64 0, .slice none 0 0] 29))).heap.size (((y1).alloc (.cells #[.int .i64 0, .int .i64 0, .int .i64 0, .int .i64 0, .int .i64 0, .slice none 0 0] 29))) y8 := by obtain ⟨n, rfl⟩ := hE; exact below_of_drewN _ n
      rw [HWq.out]
      have HB := Lib.hid (HB.out.trans (hb.mono HB.out.size))
      have BX := Lib.hid (BX.out.below hb)
      clear hb hE
      go_wp2_with fail
      refine hK.out _ _ (by exact (⟨(HB.out.cell (p := ⟨b, off, none⟩) hbl).trans HLx.out, (HB.out.cell (p := ⟨b, off + 1, none⟩) hbl).trans HLs.out⟩)) (fun hHeld => ?_)
      clear hK K
      (try simp only [Act.put, List.setIfInBounds_toArray, List.set_cons_zero, List.set_cons_succ])
      refine wpAnyH_ready (rs := [13]) (by kernel_rfl) (by simp) ?_
      refine AllReadyH.cons (o := ?_) ?_ (fun K hK => ?_) AllReadyH.nil
      rotate_left 1
      · (simp only [List.getElem?_toArray, List.getElem?_cons_zero, List.getElem?_cons_succ]; try rfl)
      go_simp
      refine (wordAt_any (some ⟨b, off, none⟩) l c 6 _ hn9 (by omega) (by exact hA.below HB.out)).mono ?_
      rintro e y9 ⟨rfl, hE⟩
      have hb : Below (y8).heap.size (y8) y9 := by obtain ⟨n, rfl⟩ := hE; exact below_of_drewN _ n
      rw [HWr.out]
      have HB := Lib.hid (HB.out.trans (hb.mono HB.out.size))
      have BX := Lib.hid (BX.out.below hb)
      clear hb hE
      go_wp2_with fail
      refine hK.out _ _ (by exact (⟨(HB.out.cell (p := ⟨b, off, none⟩) hbl).trans HLx.out, (HB.out.cell (p := ⟨b, off + 1, none⟩) hbl).trans HLs.out⟩)) (fun hHeld => ?_)
      clear hK K
      (try simp only [Act.put, List.setIfInBounds_toArray, List.set_cons_zero, List.set_cons_succ])
      refine wpAnyH_ready (rs := [16]) (by kernel_rfl) (by simp) ?_
      refine AllReadyH.cons (o := ?_) ?_ (fun K hK => ?_) AllReadyH.nil
      rotate_left 1
      · (simp only [List.getElem?_toArray, List.getElem?_cons_zero, List.getElem?_cons_succ]; try rfl)
      go_simp
      refine (bytesClone_opt D T N rc _ HN.out hT5 (by exact HS.out.below HB.out)).mono ?_
      rintro e y10 ⟨v, rfl, hown, hb⟩
      have hb : Below (y9).heap.size (y9) y10 := ⟨hb.os, hb.tape, hb.output, hb.size, hb.block⟩
      have hrv := hown.range
      have hbbl := BX.out.lt
      have hown := hown.mono (base' := w1.heap.size) HB.out.size
      obtain ⟨AV, cV, rfl, lV, kV, _, _, _⟩ := own_plain9 hown
      have VV := Lib.hid hown
      have HVB : Hid (∀ k ∈ (Value.slice AV T.length cV).ownBlock.toList, k ≠ y1.heap.size) := Lib.hid (fun k hk e => by have h1 := (hrv k hk).1; have h2 : y1.heap.size < (y9).heap.size := hbbl; omega)
      clear hrv hbbl
      have HB := Lib.hid (HB.out.trans (hb.mono HB.out.size))
      have BX := Lib.hid (BX.out.below hb)
      clear hb hown
      go_wp2_with fail
      refine hK.out _ _ (by exact (⟨(HB.out.cell (p := ⟨b, off, none⟩) hbl).trans HLx.out, (HB.out.cell (p := ⟨b, off + 1, none⟩) hbl).trans HLs.out⟩)) (fun hHeld => ?_)
      clear hK K
      (try simp only [Act.put, List.setIfInBounds_toArray, List.set_cons_zero, List.set_cons_succ])
      refine wpAnyH_take (i := 17) (oi := ?_) (v := ?_) ?_ ?_ ?_ ?_ ?_ ?_ (by exact hHeld) ?_
      rotate_left 2
      · (simp only [List.getElem?_toArray, List.getElem?_cons_zero, List.getElem?_cons_succ]; try rfl)
      · kernel_rfl
      · kernel_rfl
      · kernel_rfl
      · exact fun _ _ _ h => h
      · refine Or.inl ⟨by rfl, ?_⟩
        (intro V hSV; (try dsimp only at hSV); obtain ⟨q0, q1⟩ := hSV; go_simp; try with_reducible rfl)
      (try simp only [Act.put, List.setIfInBounds_toArray, List.set_cons_zero, List.set_cons_succ])
      have g0 := BX.out.cell 0
      have f0 := BX.out.frozen 0
      have g1 := BX.out.cell 1
      have f1 := BX.out.frozen 1
      have g2 := BX.out.cell 2
      have f2 := BX.out.frozen 2
      have g3 := BX.out.cell 3
      have f3 := BX.out.frozen 3
      have g4 := BX.out.cell 4
      have f4 := BX.out.frozen 4
      have g5 := BX.out.cell 5
      have f5 := BX.out.frozen 5
      have BF : Hid (Blk (((((((((((((y10).setCell ⟨y1.heap.size, 0, none⟩ (.int .i64 x))).setCell ⟨y1.heap.size, 1, none⟩ (.int .i64 s))).setCell ⟨y1.heap.size, 2, none⟩ (.int .i64 p))).setCell ⟨y1.heap.size, 3, none⟩ (.int .i64 q))).setCell ⟨y1.heap.size, 4, none⟩ (.int .i64 r))).setCell ⟨y1.heap.size, 5, none⟩ (.slice AV T.length cV))) (y1.heap.size) #[.int .i64 x, .int .i64 s, .int .i64 p, .int .i64 q, .int .i64 r, .slice AV T.length cV] 29) := Lib.hid (by simpa using ((((((BX.out.set 0 (.int .i64 x)).set 1 (.int .i64 s)).set 2 (.int .i64 p)).set 3 (.int .i64 q)).set 4 (.int .i64 r)).set 5 (.slice AV T.length cV)))
      have HBF : Hid (Below w1.heap.size w1 (((((((((((((y10).setCell ⟨y1.heap.size, 0, none⟩ (.int .i64 x))).setCell ⟨y1.heap.size, 1, none⟩ (.int .i64 s))).setCell ⟨y1.heap.size, 2, none⟩ (.int .i64 p))).setCell ⟨y1.heap.size, 3, none⟩ (.int .i64 q))).setCell ⟨y1.heap.size, 4, none⟩ (.int .i64 r))).setCell ⟨y1.heap.size, 5, none⟩ (.slice AV T.length cV)))) := Lib.hid ((((((HB.out.setCell (p := ⟨y1.heap.size, 0, none⟩) HLO.out (.int .i64 x)).setCell (p := ⟨y1.heap.size, 1, none⟩) HLO.out (.int .i64 s)).setCell (p := ⟨y1.heap.size, 2, none⟩) HLO.out (.int .i64 p)).setCell (p := ⟨y1.heap.size, 3, none⟩) HLO.out (.int .i64 q)).setCell (p := ⟨y1.heap.size, 4, none⟩) HLO.out (.int .i64 r)).setCell (p := ⟨y1.heap.size, 5, none⟩) HLO.out (.slice AV T.length cV))
      have VF : Hid (Own (((((((((((((y10).setCell ⟨y1.heap.size, 0, none⟩ (.int .i64 x))).setCell ⟨y1.heap.size, 1, none⟩ (.int .i64 s))).setCell ⟨y1.heap.size, 2, none⟩ (.int .i64 p))).setCell ⟨y1.heap.size, 3, none⟩ (.int .i64 q))).setCell ⟨y1.heap.size, 4, none⟩ (.int .i64 r))).setCell ⟨y1.heap.size, 5, none⟩ (.slice AV T.length cV))) w1.heap.size (.slice AV T.length cV) T) := Lib.hid ((((((VV.out.heap (fun k hk => Below.heap_setCell _ ⟨y1.heap.size, 0, none⟩ (.int .i64 x) k (fun e => HVB.out k hk e))).heap (fun k hk => Below.heap_setCell _ ⟨y1.heap.size, 1, none⟩ (.int .i64 s) k (fun e => HVB.out k hk e))).heap (fun k hk => Below.heap_setCell _ ⟨y1.heap.size, 2, none⟩ (.int .i64 p) k (fun e => HVB.out k hk e))).heap (fun k hk => Below.heap_setCell _ ⟨y1.heap.size, 3, none⟩ (.int .i64 q) k (fun e => HVB.out k hk e))).heap (fun k hk => Below.heap_setCell _ ⟨y1.heap.size, 4, none⟩ (.int .i64 r) k (fun e => HVB.out k hk e))).heap (fun k hk => Below.heap_setCell _ ⟨y1.heap.size, 5, none⟩ (.slice AV T.length cV) k (fun e => HVB.out k hk e)))
      have HB := HBF
      refine wpAnyH_ready (rs := [19]) (by kernel_rfl) (by simp) ?_
      refine AllReadyH.cons (o := ?_) ?_ (fun K hK => ?_) AllReadyH.nil
      rotate_left 1
      · (simp only [List.getElem?_toArray, List.getElem?_cons_zero, List.getElem?_cons_succ]; try rfl)
      go_simp
      refine hK.out _ _ (by exact (⟨(HB.out.cell (p := ⟨b, off, none⟩) hbl).trans HLx.out, (HB.out.cell (p := ⟨b, off + 1, none⟩) hbl).trans HLs.out⟩)) (fun hHeld => ?_)
      clear hK K
      (try simp only [Act.put, List.setIfInBounds_toArray, List.set_cons_zero, List.set_cons_succ])
      refine wpAnyH_done (by kernel_rfl) ?_ _
      refine NoPanic.normal ?_
      go_wp2_with fail
      go_meet
      exact ⟨y1.heap.size, AV, cV, rfl, BF.out, VF.out, HLO.out, HBF.out⟩
    refine AllReadyH.cons (o := ?_) ?_ (fun K hK => ?_) AllReadyH.nil
    rotate_left 1
    · (simp only [List.getElem?_toArray, List.getElem?_cons_zero, List.getElem?_cons_succ]; try rfl)
    have hbA := (Below.refl (w1.drew).heap.size (w1.drew)).alloc (Nat.le_refl _) (.cells #[.int .i64 0, .int .i64 0, .int .i64 0, .int .i64 0, .int .i64 0, .slice none 0 0] 29)
    have hBX : Blk ((w1.drew).alloc (.cells #[.int .i64 0, .int .i64 0, .int .i64 0, .int .i64 0, .int .i64 0, .slice none 0 0] 29)) (w1.heap.size) #[.int .i64 0, .int .i64 0, .int .i64 0, .int .i64 0, .int .i64 0, .slice none 0 0] 29 := by
      have h := Blk.new (w1.drew) #[.int .i64 0, .int .i64 0, .int .i64 0, .int .i64 0, .int .i64 0, .slice none 0 0] 29
      first | exact h | simpa using h
    have BX := Lib.hid hBX
    have HLO : Hid (w1.heap.size ≤ w1.heap.size) := Lib.hid (by have h := HB.out.size; first | exact h | (simp; done) | (simp at h ⊢; omega))
    clear hBX
    have HB := Lib.hid (HB.out.trans (hbA.mono HB.out.size))
    clear hbA
    go_simp
    refine hK.out _ _ (by exact (⟨(HB.out.cell (p := ⟨b, off, none⟩) hbl).trans HLx.out, (HB.out.cell (p := ⟨b, off + 1, none⟩) hbl).trans HLs.out⟩)) (fun hHeld => ?_)
    clear hK K
    (try simp only [Act.put, List.setIfInBounds_toArray, List.set_cons_zero, List.set_cons_succ])
    refine wpAnyH_ready (rs := [9]) (by kernel_rfl) (by simp) ?_
    refine AllReadyH.cons (o := ?_) ?_ (fun K hK => ?_) AllReadyH.nil
    rotate_left 1
    · (simp only [List.getElem?_toArray, List.getElem?_cons_zero, List.getElem?_cons_succ]; try rfl)
    go_simp
    refine (wordAt_any (some ⟨b, off, none⟩) l c 2 _ hn9 (by omega) (by exact hA.below HB.out)).mono ?_
    rintro e y11 ⟨rfl, hE⟩
    have hb : Below (((w1.drew).alloc (.cells #[.int .i64 0, .int .i64 0, .int .i64 0, .int .i64 0, .int .i64 0, .slice none 0 0] 29))).heap.size (((w1.drew).alloc (.cells #[.int .i64 0, .int .i64 0, .int .i64 0, .int .i64 0, .int .i64 0, .slice none 0 0] 29))) y11 := by obtain ⟨n, rfl⟩ := hE; exact below_of_drewN _ n
    rw [HWp.out]
    have HB := Lib.hid (HB.out.trans (hb.mono HB.out.size))
    have BX := Lib.hid (BX.out.below hb)
    clear hb hE
    go_wp2_with fail
    refine hK.out _ _ (by exact (⟨(HB.out.cell (p := ⟨b, off, none⟩) hbl).trans HLx.out, (HB.out.cell (p := ⟨b, off + 1, none⟩) hbl).trans HLs.out⟩)) (fun hHeld => ?_)
    clear hK K
    (try simp only [Act.put, List.setIfInBounds_toArray, List.set_cons_zero, List.set_cons_succ])
    refine wpAnyH_ready (rs := [11]) (by kernel_rfl) (by simp) ?_
    refine AllReadyH.cons (o := ?_) ?_ (fun K hK => ?_) AllReadyH.nil
    rotate_left 1
    · (simp only [List.getElem?_toArray, List.getElem?_cons_zero, List.getElem?_cons_succ]; try rfl)
    go_simp
    refine (wordAt_any (some ⟨b, off, none⟩) l c 4 _ hn9 (by omega) (by exact hA.below HB.out)).mono ?_
    rintro e y12 ⟨rfl, hE⟩
    have hb : Below (y11).heap.size (y11) y12 := by obtain ⟨n, rfl⟩ := hE; exact below_of_drewN _ n
    rw [HWq.out]
    have HB := Lib.hid (HB.out.trans (hb.mono HB.out.size))
    have BX := Lib.hid (BX.out.below hb)
    clear hb hE
    go_wp2_with fail
    refine hK.out _ _ (by exact (⟨(HB.out.cell (p := ⟨b, off, none⟩) hbl).trans HLx.out, (HB.out.cell (p := ⟨b, off + 1, none⟩) hbl).trans HLs.out⟩)) (fun hHeld => ?_)
    clear hK K
    (try simp only [Act.put, List.setIfInBounds_toArray, List.set_cons_zero, List.set_cons_succ])
    refine wpAnyH_ready (rs := [13]) (by kernel_rfl) (by simp) ?_
    refine AllReadyH.cons (o := ?_) ?_ (fun K hK => ?_) AllReadyH.nil
    rotate_left 1
    · (simp only [List.getElem?_toArray, List.getElem?_cons_zero, List.getElem?_cons_succ]; try rfl)
    go_simp
    refine (wordAt_any (some ⟨b, off, none⟩) l c 6 _ hn9 (by omega) (by exact hA.below HB.out)).mono ?_
    rintro e y13 ⟨rfl, hE⟩
    have hb : Below (y12).heap.size (y12) y13 := by obtain ⟨n, rfl⟩ := hE; exact below_of_drewN _ n
    rw [HWr.out]
    have HB := Lib.hid (HB.out.trans (hb.mono HB.out.size))
    have BX := Lib.hid (BX.out.below hb)
    clear hb hE
    go_wp2_with fail
    refine hK.out _ _ (by exact (⟨(HB.out.cell (p := ⟨b, off, none⟩) hbl).trans HLx.out, (HB.out.cell (p := ⟨b, off + 1, none⟩) hbl).trans HLs.out⟩)) (fun hHeld => ?_)
    clear hK K
    (try simp only [Act.put, List.setIfInBounds_toArray, List.set_cons_zero, List.set_cons_succ])
    refine wpAnyH_ready (rs := [16]) (by kernel_rfl) (by simp) ?_
    refine AllReadyH.cons (o := ?_) ?_ (fun K hK => ?_) AllReadyH.nil
    rotate_left 1
    · (simp only [List.getElem?_toArray, List.getElem?_cons_zero, List.getElem?_cons_succ]; try rfl)
    go_simp
    refine (bytesClone_opt D T N rc _ HN.out hT5 (by exact HS.out.below HB.out)).mono ?_
    rintro e y14 ⟨v, rfl, hown, hb⟩
    have hb : Below (y13).heap.size (y13) y14 := ⟨hb.os, hb.tape, hb.output, hb.size, hb.block⟩
    have hrv := hown.range
    have hbbl := BX.out.lt
    have hown := hown.mono (base' := w1.heap.size) HB.out.size
    obtain ⟨AV, cV, rfl, lV, kV, _, _, _⟩ := own_plain9 hown
    have VV := Lib.hid hown
    have HVB : Hid (∀ k ∈ (Value.slice AV T.length cV).ownBlock.toList, k ≠ w1.heap.size) := Lib.hid (fun k hk e => by have h1 := (hrv k hk).1; have h2 : w1.heap.size < (y13).heap.size := hbbl; omega)
    clear hrv hbbl
    have HB := Lib.hid (HB.out.trans (hb.mono HB.out.size))
    have BX := Lib.hid (BX.out.below hb)
    clear hb hown
    go_wp2_with fail
    refine hK.out _ _ (by exact (⟨(HB.out.cell (p := ⟨b, off, none⟩) hbl).trans HLx.out, (HB.out.cell (p := ⟨b, off + 1, none⟩) hbl).trans HLs.out⟩)) (fun hHeld => ?_)
    clear hK K
    (try simp only [Act.put, List.setIfInBounds_toArray, List.set_cons_zero, List.set_cons_succ])
    refine wpAnyH_take (i := 17) (oi := ?_) (v := ?_) ?_ ?_ ?_ ?_ ?_ ?_ (by exact hHeld) ?_
    rotate_left 2
    · (simp only [List.getElem?_toArray, List.getElem?_cons_zero, List.getElem?_cons_succ]; try rfl)
    · kernel_rfl
    · kernel_rfl
    · kernel_rfl
    · exact fun _ _ _ h => h
    · refine Or.inl ⟨by rfl, ?_⟩
      (intro V hSV; (try dsimp only at hSV); obtain ⟨q0, q1⟩ := hSV; go_simp; try with_reducible rfl)
    (try simp only [Act.put, List.setIfInBounds_toArray, List.set_cons_zero, List.set_cons_succ])
    have g0 := BX.out.cell 0
    have f0 := BX.out.frozen 0
    have g1 := BX.out.cell 1
    have f1 := BX.out.frozen 1
    have g2 := BX.out.cell 2
    have f2 := BX.out.frozen 2
    have g3 := BX.out.cell 3
    have f3 := BX.out.frozen 3
    have g4 := BX.out.cell 4
    have f4 := BX.out.frozen 4
    have g5 := BX.out.cell 5
    have f5 := BX.out.frozen 5
    have BF : Hid (Blk (((((((((((((y14).setCell ⟨w1.heap.size, 0, none⟩ (.int .i64 x))).setCell ⟨w1.heap.size, 1, none⟩ (.int .i64 s))).setCell ⟨w1.heap.size, 2, none⟩ (.int .i64 p))).setCell ⟨w1.heap.size, 3, none⟩ (.int .i64 q))).setCell ⟨w1.heap.size, 4, none⟩ (.int .i64 r))).setCell ⟨w1.heap.size, 5, none⟩ (.slice AV T.length cV))) (w1.heap.size) #[.int .i64 x, .int .i64 s, .int .i64 p, .int .i64 q, .int .i64 r, .slice AV T.length cV] 29) := Lib.hid (by simpa using ((((((BX.out.set 0 (.int .i64 x)).set 1 (.int .i64 s)).set 2 (.int .i64 p)).set 3 (.int .i64 q)).set 4 (.int .i64 r)).set 5 (.slice AV T.length cV)))
    have HBF : Hid (Below w1.heap.size w1 (((((((((((((y14).setCell ⟨w1.heap.size, 0, none⟩ (.int .i64 x))).setCell ⟨w1.heap.size, 1, none⟩ (.int .i64 s))).setCell ⟨w1.heap.size, 2, none⟩ (.int .i64 p))).setCell ⟨w1.heap.size, 3, none⟩ (.int .i64 q))).setCell ⟨w1.heap.size, 4, none⟩ (.int .i64 r))).setCell ⟨w1.heap.size, 5, none⟩ (.slice AV T.length cV)))) := Lib.hid ((((((HB.out.setCell (p := ⟨w1.heap.size, 0, none⟩) HLO.out (.int .i64 x)).setCell (p := ⟨w1.heap.size, 1, none⟩) HLO.out (.int .i64 s)).setCell (p := ⟨w1.heap.size, 2, none⟩) HLO.out (.int .i64 p)).setCell (p := ⟨w1.heap.size, 3, none⟩) HLO.out (.int .i64 q)).setCell (p := ⟨w1.heap.size, 4, none⟩) HLO.out (.int .i64 r)).setCell (p := ⟨w1.heap.size, 5, none⟩) HLO.out (.slice AV T.length cV))
    have VF : Hid (Own (((((((((((((y14).setCell ⟨w1.heap.size, 0, none⟩ (.int .i64 x))).setCell ⟨w1.heap.size, 1, none⟩ (.int .i64 s))).setCell ⟨w1.heap.size, 2, none⟩ (.int .i64 p))).setCell ⟨w1.heap.size, 3, none⟩ (.int .i64 q))).setCell ⟨w1.heap.size, 4, none⟩ (.int .i64 r))).setCell ⟨w1.heap.size, 5, none⟩ (.slice AV T.length cV))) w1.heap.size (.slice AV T.length cV) T) := Lib.hid ((((((VV.out.heap (fun k hk => Below.heap_setCell _ ⟨w1.heap.size, 0, none⟩ (.int .i64 x) k (fun e => HVB.out k hk e))).heap (fun k hk => Below.heap_setCell _ ⟨w1.heap.size, 1, none⟩ (.int .i64 s) k (fun e => HVB.out k hk e))).heap (fun k hk => Below.heap_setCell _ ⟨w1.heap.size, 2, none⟩ (.int .i64 p) k (fun e => HVB.out k hk e))).heap (fun k hk => Below.heap_setCell _ ⟨w1.heap.size, 3, none⟩ (.int .i64 q) k (fun e => HVB.out k hk e))).heap (fun k hk => Below.heap_setCell _ ⟨w1.heap.size, 4, none⟩ (.int .i64 r) k (fun e => HVB.out k hk e))).heap (fun k hk => Below.heap_setCell _ ⟨w1.heap.size, 5, none⟩ (.slice AV T.length cV) k (fun e => HVB.out k hk e)))
    have HB := HBF
    refine wpAnyH_ready (rs := [19]) (by kernel_rfl) (by simp) ?_
    refine AllReadyH.cons (o := ?_) ?_ (fun K hK => ?_) AllReadyH.nil
    rotate_left 1
    · (simp only [List.getElem?_toArray, List.getElem?_cons_zero, List.getElem?_cons_succ]; try rfl)
    go_simp
    refine hK.out _ _ (by exact (⟨(HB.out.cell (p := ⟨b, off, none⟩) hbl).trans HLx.out, (HB.out.cell (p := ⟨b, off + 1, none⟩) hbl).trans HLs.out⟩)) (fun hHeld => ?_)
    clear hK K
    (try simp only [Act.put, List.setIfInBounds_toArray, List.set_cons_zero, List.set_cons_succ])
    refine wpAnyH_done (by kernel_rfl) ?_ _
    refine NoPanic.normal ?_
    go_wp2_with fail
    go_meet
    exact ⟨w1.heap.size, AV, cV, rfl, BF.out, VF.out, HLO.out, HBF.out⟩
  case rest =>
  obtain ⟨bb, AV, cV, rfl, hBB, hV, hbb, hbW⟩ := hcut
  have HBB := Lib.hid hBB
  have HV := Lib.hid hV
  have HW2 := Lib.hid (below_then HAL.out hbW)
  have RX := Lib.hid (RX.out.below hbW)
  obtain ⟨_, _, ev, lV, kV, hBV, _, _⟩ := own_plain9 hV
  cases ev
  have HBV := Lib.hid hBV
  clear hBB hV hbW hBV hA
  have b0 := HBB.out.cell 0
  have b1 := HBB.out.cell 1
  have b2 := HBB.out.cell 2
  have b3 := HBB.out.cell 3
  have b4 := HBB.out.cell 4
  have b5 := HBB.out.cell 5
  obtain ⟨z, hz⟩ : ∃ z, rqOk x s p q r T = z := ⟨_, rfl⟩
  have HZ := Lib.hid hz
  clear hz
  have HG : Hid (rqGood l = z) := Lib.hid (by rw [HGR.out, HWx.out, HWs.out, HWp.out, HWq.out, HWr.out, HTT.out]; exact HZ.out)
  go_wp2_with fail
  refine (implReqOk_any x s p q r AV T cV _ lV kV (by exact hT.below HW2.out) (by exact HBV.out)).mono ?_
  rintro e w2 ⟨rfl, hb2⟩
  rw [HZ.out]
  have RX := Lib.hid (RX.out.below hb2)
  have HBB := Lib.hid (HBB.out.below hb2)
  have HV := Lib.hid (HV.out.below hb2)
  have HB2 := Lib.hid (below_then HW2.out hb2)
  clear hb2 b0 b1 b2 b3 b4 b5
  have b0 := HBB.out.cell 0
  have b1 := HBB.out.cell 1
  have b2 := HBB.out.cell 2
  have b3 := HBB.out.cell 3
  have b4 := HBB.out.cell 4
  have b5 := HBB.out.cell 5
  cases z
  case false =>
    have r0 := RX.out.cell 0
    have fr0 := RX.out.frozen 0
    have r1 := RX.out.cell 1
    have fr1 := RX.out.frozen 1
    have r2 := RX.out.cell 2
    have fr2 := RX.out.frozen 2
    have r3 := RX.out.cell 3
    have fr3 := RX.out.frozen 3
    have r4 := RX.out.cell 4
    have fr4 := RX.out.frozen 4
    have r5 := RX.out.cell 5
    have fr5 := RX.out.frozen 5
    have hzz := RX.out.lt
    go_wp2
    refine bodyPost_ret (v := .tuple #[.agg #[.int .i64 0, .int .i64 0, .int .i64 0, .int .i64 0, .int .i64 0, .slice none 0 0], .bool false]) (by simp [results, Tryd.results37, go_sem, r0, r1, r2, r3, r4, r5]) rfl ?_
    refine ⟨.slice none 0 0, by unfold rqFd; rw [HG.out]; rfl, by unfold rqT; rw [HG.out]; exact Own.nil _ _, ?_⟩
    repeat (refine Below.setCell ?_ (by simp) _)
    exact HB2.out
  have r0 := RX.out.cell 0
  have fr0 := RX.out.frozen 0
  have r1 := RX.out.cell 1
  have fr1 := RX.out.frozen 1
  have r2 := RX.out.cell 2
  have fr2 := RX.out.frozen 2
  have r3 := RX.out.cell 3
  have fr3 := RX.out.frozen 3
  have r4 := RX.out.cell 4
  have fr4 := RX.out.frozen 4
  have r5 := RX.out.cell 5
  have fr5 := RX.out.frozen 5
  have hzz := RX.out.lt
  go_wp2
  refine bodyPost_ret (v := .tuple #[.agg #[.int .i64 x, .int .i64 s, .int .i64 p, .int .i64 q, .int .i64 r, .slice AV T.length cV], .bool true]) (by simp [results, Tryd.results37, go_sem, r0, r1, r2, r3, r4, r5]) rfl ?_
  refine ⟨.slice AV T.length cV, by unfold rqFd; rw [HG.out, HWx.out, HWs.out, HWp.out, HWq.out, HWr.out]; rfl, ?_, ?_⟩
  · have e : rqT l = T := by unfold rqT; rw [HG.out]; exact HTT.out
    rw [e]
    have h9 : ∀ (W : World) (i : Nat) (u : Value), Own W w1.heap.size (.slice AV T.length cV) T → Own (W.setCell ⟨w.heap.size, i, none⟩ u) w1.heap.size (.slice AV T.length cV) T := fun W i u h => h.setBelow (by simpa using hzw) u
    refine Own.mono (base := w1.heap.size) ?_ (by omega)
    iterate 6 (refine h9 _ _ _ ?_)
    exact HV.out
  · repeat (refine Below.setCell ?_ (by simp) _)
    exact HB2.out
end Go.Proofs.YtgpjjolgpppeeaaDoor
