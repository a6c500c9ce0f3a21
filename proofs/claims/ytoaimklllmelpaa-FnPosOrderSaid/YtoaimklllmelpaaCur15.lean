/-
  Chapter 6's draw of a position: contract. Own work.
-/
import Derived.Test.YtoaimklllmelpaaCur13
import Derived.Deep.RegionHeld3
namespace Go.Proofs.Ytoaimklllmelpaa
open Go.RowKit P
set_option linter.unusedVariables false
set_option linter.unusedSimpArgs false
set_option maxRecDepth 100000

/-- What a draw of a position, a side and an edit ends in. -/
def DrawsPM (w : World) (e : Ending) (w' : World) : Prop :=
  ∃ x r a m A p c, e = .returned (.tuple #[.int .i64 x, .bool r, .agg #[.int .i64 a, .int .i64 m, .slice A p.length c]]) ∧ (-9223372036854775808 ≤ x ∧ x ≤ 9223372036854775807) ∧
    (-9223372036854775808 ≤ a ∧ a ≤ 9223372036854775807) ∧ (-9223372036854775808 ≤ m ∧ m ≤ 9223372036854775807) ∧ p.length ≤ 500 ∧ p.length ≤ c ∧ c ≤ 9223372036854775807 ∧ Bs w' A p ∧ Below w.heap.size w w'

set_option maxHeartbeats 16000000 in
theorem drawPosMove_any (A : Option Addr) (l : List UInt8) (c : Nat) (w : World) (hl : l.length ≤ 1048576) (hA : Bs w A l) :
    Calls Try.prog 40 #[.slice A l.length c] w (DrawsPM w) := by
  have hal := (Below.refl w.heap.size w).alloc (Nat.le_refl _) (.cells #[.int .i64 0, .int .i64 0, .slice none 0 0] 27)
  have bR := EBox.new w 0 0 none 0 0
  have hA0 := hA.below hal
  have hz0 : (w.alloc (.cells #[.int .i64 0, .int .i64 0, .slice none 0 0] 27)).heap.size = w.heap.size + 1 := by simp
  go_enter Try.func40, Try.ntmps40
  go_wp2_with fail
  generalize w.alloc (.cells #[.int .i64 0, .int .i64 0, .slice none 0 0] 27) = W0 at *
  refine (l01Open_any A l c _ hl (by exact hA0)).mono ?_
  rintro e w1 ⟨rfl, hc0, hb0⟩
  obtain ⟨g, hg⟩ : ∃ g, W0.heap.size = g := ⟨_, rfl⟩
  rw [hg] at hc0 hz0 ⊢
  have hwg : w.heap.size < g := by omega
  have bR1 := bR.below hb0
  have hb1 := hal.trans (hb0.mono (by omega))
  have hgl := hc0.lt
  have hs1 : w.heap.size + 1 ≤ w1.heap.size := by have := hb0.size; omega
  clear hA0 hal bR hz0 hg hb0
  go_wp2_with fail
  refine (small_any g 0 _ (by omega) (by exact hc0)).mono ?_
  rintro e w2 ⟨a, m, v2, p, rfl, ha, hm, hown, hp5, hc2, ho2⟩
  have HRG := Lib.hid hown.range
  obtain ⟨A2, c2, rfl, _, _, _⟩ := hown.form
  have hs2 := ho2.size
  have hal := (Below.refl w2.heap.size w2).alloc (Nat.le_refl _) (.cells #[.int .i64 a, .int .i64 m, .slice A2 p.length c2] 27)
  have bE := EBox.new w2 a m A2 p.length c2
  have bR := (bR1.only ho2 (by omega)).below hal
  have hown := hown.below hal
  have hc := (hc2.only_new hal).mono (M := 60) (by omega)
  have ho := ho2.trans (Only.of_below hal)
  have hs3 := hal.size
  obtain ⟨s, hs, hsb1, hsb2⟩ : ∃ s, IntKind.i64.wrap (a + min 500 (max 0 m)) = s ∧ -9223372036854775808 ≤ s ∧ s ≤ 9223372036854775807 := ⟨_, rfl, by rw [IntWalk.i64_left]; exact (wrap64_bd _).1, by rw [IntWalk.i64_left]; exact (wrap64_bd _).2⟩
  have hs' : wrap64 (a + min 500 (max 0 m)) = s := by rw [← hs, IntWalk.i64_left]
  clear hc0 hc2 ho2 bR1 hal
  have e0 := bE.c0
  have e1 := bE.c1
  have e2 := bE.c2
  go_wp2_with fail
  generalize w2.alloc (.cells #[.int .i64 a, .int .i64 m, .slice A2 p.length c2] 27) = W1 at *
  refine wp_region_held_drew (S := (fun V => V.cell? ⟨w2.heap.size, 0, none⟩ = some (.int .i64 a) ∧ V.cell? ⟨w2.heap.size, 1, none⟩ = some (.int .i64 m) ∧ V.cell? ⟨w2.heap.size, 2, none⟩ = some (.slice A2 p.length c2))) (by kernel_rfl) (by exact ⟨e0, e1, e2⟩) (fun hHeld => ?_)
  clear e0 e1 e2
  refine wpAnyH_take (i := 0) (oi := ?_) (v := ?_) ?_ ?_ ?_ ?_ ?_ ?_ (by exact hHeld) ?_
  rotate_left 2
  · (simp only [List.getElem?_toArray, List.getElem?_cons_zero]; try rfl)
  · kernel_rfl
  · kernel_rfl
  · kernel_rfl
  · exact fun _ _ _ h => h
  · refine Or.inl ⟨by rfl, ?_⟩
    (intro V hSV; (try dsimp only at hSV); obtain ⟨q0, q1, q2⟩ := hSV; go_simp; try with_reducible rfl)
  (try simp only [Act.put, List.setIfInBounds_toArray, List.set_cons_zero, List.set_cons_succ])
  refine wpAnyH_take (i := 2) (oi := ?_) (v := ?_) ?_ ?_ ?_ ?_ ?_ ?_ (by exact hHeld) ?_
  rotate_left 2
  · (simp only [List.getElem?_toArray, List.getElem?_cons_zero, List.getElem?_cons_succ]; try rfl)
  · kernel_rfl
  · kernel_rfl
  · kernel_rfl
  · exact fun _ _ _ h => h
  · refine Or.inl ⟨by rfl, ?_⟩
    (intro V hSV; (try dsimp only at hSV); obtain ⟨q0, q1, q2⟩ := hSV; go_simp; try with_reducible rfl)
  (try simp only [Act.put, List.setIfInBounds_toArray, List.set_cons_zero, List.set_cons_succ])
  refine wpAnyH_take (i := 3) (oi := ?_) (v := ?_) ?_ ?_ ?_ ?_ ?_ ?_ (by exact hHeld) ?_
  rotate_left 2
  · (simp only [List.getElem?_toArray, List.getElem?_cons_zero, List.getElem?_cons_succ]; try rfl)
  · kernel_rfl
  · kernel_rfl
  · kernel_rfl
  · exact fun _ _ _ h => h
  · refine Or.inl ⟨by rfl, ?_⟩
    (intro V hSV; (try dsimp only at hSV); obtain ⟨q0, q1, q2⟩ := hSV; go_simp; try with_reducible rfl)
  (try simp only [Act.put, List.setIfInBounds_toArray, List.set_cons_zero, List.set_cons_succ])
  refine wpAnyH_take (i := 4) (oi := ?_) (v := ?_) ?_ ?_ ?_ ?_ ?_ ?_ (by exact hHeld) ?_
  rotate_left 2
  · (simp only [List.getElem?_toArray, List.getElem?_cons_zero, List.getElem?_cons_succ]; try rfl)
  · kernel_rfl
  · kernel_rfl
  · kernel_rfl
  · exact fun _ _ _ h => h
  · refine Or.inl ⟨by rfl, ?_⟩
    (intro V hSV; (try dsimp only at hSV); obtain ⟨q0, q1, q2⟩ := hSV; go_simp; try with_reducible rfl)
  (try simp only [Act.put, List.setIfInBounds_toArray, List.set_cons_zero, List.set_cons_succ])
  refine wpAnyH_take (i := 5) (oi := ?_) (v := ?_) ?_ ?_ ?_ ?_ ?_ ?_ (by exact hHeld) ?_
  rotate_left 2
  · (simp only [List.getElem?_toArray, List.getElem?_cons_zero, List.getElem?_cons_succ]; try rfl)
  · kernel_rfl
  · kernel_rfl
  · kernel_rfl
  · exact fun _ _ _ h => h
  · refine Or.inl ⟨by rfl, ?_⟩
    (intro V hSV; (try dsimp only at hSV); obtain ⟨q0, q1, q2⟩ := hSV; go_simp; try with_reducible rfl)
  (try simp only [Act.put, List.setIfInBounds_toArray, List.set_cons_zero, List.set_cons_succ])
  refine wpAnyH_take (i := 6) (oi := ?_) (v := ?_) ?_ ?_ ?_ ?_ ?_ ?_ (by exact hHeld) ?_
  rotate_left 2
  · (simp only [List.getElem?_toArray, List.getElem?_cons_zero, List.getElem?_cons_succ]; try rfl)
  · kernel_rfl
  · kernel_rfl
  · kernel_rfl
  · exact fun _ _ _ h => h
  · refine Or.inl ⟨by rfl, ?_⟩
    (intro V hSV; (try dsimp only at hSV); obtain ⟨q0, q1, q2⟩ := hSV; go_simp; try with_reducible rfl)
  (try simp only [Act.put, List.setIfInBounds_toArray, List.set_cons_zero, List.set_cons_succ])
  refine wpAnyH_take (i := 7) (oi := ?_) (v := ?_) ?_ ?_ ?_ ?_ ?_ ?_ (by exact hHeld) ?_
  rotate_left 2
  · (simp only [List.getElem?_toArray, List.getElem?_cons_zero, List.getElem?_cons_succ]; try rfl)
  · kernel_rfl
  · kernel_rfl
  · kernel_rfl
  · exact fun _ _ _ h => h
  · refine Or.inl ⟨by rfl, ?_⟩
    (intro V hSV; (try dsimp only at hSV); obtain ⟨q0, q1, q2⟩ := hSV; go_simp; try with_reducible rfl)
  (try simp only [Act.put, List.setIfInBounds_toArray, List.set_cons_zero, List.set_cons_succ])
  refine wpAnyH_take (i := 8) (oi := ?_) (v := ?_) ?_ ?_ ?_ ?_ ?_ ?_ (by exact hHeld) ?_
  rotate_left 2
  · (simp only [List.getElem?_toArray, List.getElem?_cons_zero, List.getElem?_cons_succ]; try rfl)
  · kernel_rfl
  · kernel_rfl
  · kernel_rfl
  · exact fun _ _ _ h => h
  · refine Or.inl ⟨by rfl, ?_⟩
    (intro V hSV; (try dsimp only at hSV); obtain ⟨q0, q1, q2⟩ := hSV; go_simp; try with_reducible rfl)
  (try simp only [Act.put, List.setIfInBounds_toArray, List.set_cons_zero, List.set_cons_succ])
  refine wpAnyH_take (i := 9) (oi := ?_) (v := ?_) ?_ ?_ ?_ ?_ ?_ ?_ (by exact hHeld) ?_
  rotate_left 2
  · (simp only [List.getElem?_toArray, List.getElem?_cons_zero, List.getElem?_cons_succ]; try rfl)
  · kernel_rfl
  · kernel_rfl
  · kernel_rfl
  · exact fun _ _ _ h => h
  · refine Or.inl ⟨by rfl, ?_⟩
    (intro V hSV; (try dsimp only at hSV); obtain ⟨q0, q1, q2⟩ := hSV; go_simp; try with_reducible rfl)
  (try simp only [Act.put, List.setIfInBounds_toArray, List.set_cons_zero, List.set_cons_succ])
  (try simp only [hs])
  (try simp only [hs'])
  refine wpAnyH_take (i := 10) (oi := ?_) (v := ?_) ?_ ?_ ?_ ?_ ?_ ?_ (by exact hHeld) ?_
  rotate_left 2
  · (simp only [List.getElem?_toArray, List.getElem?_cons_zero, List.getElem?_cons_succ]; try rfl)
  · kernel_rfl
  · kernel_rfl
  · kernel_rfl
  · exact fun _ _ _ h => h
  · refine Or.inl ⟨by rfl, ?_⟩
    (intro V hSV; (try dsimp only at hSV); obtain ⟨q0, q1, q2⟩ := hSV; go_simp; try with_reducible rfl)
  (try simp only [Act.put, List.setIfInBounds_toArray, List.set_cons_zero, List.set_cons_succ])
  (try simp only [hs])
  (try simp only [hs'])
  refine wpAnyH_take (i := 12) (oi := ?_) (v := ?_) ?_ ?_ ?_ ?_ ?_ ?_ (by exact hHeld) ?_
  rotate_left 2
  · (simp only [List.getElem?_toArray, List.getElem?_cons_zero, List.getElem?_cons_succ]; try rfl)
  · kernel_rfl
  · kernel_rfl
  · kernel_rfl
  · exact fun _ _ _ h => h
  · refine Or.inl ⟨by rfl, ?_⟩
    (intro V hSV; (try dsimp only at hSV); obtain ⟨q0, q1, q2⟩ := hSV; go_simp; try with_reducible rfl)
  (try simp only [Act.put, List.setIfInBounds_toArray, List.set_cons_zero, List.set_cons_succ])
  refine wpAnyH_take (i := 16) (oi := ?_) (v := ?_) ?_ ?_ ?_ ?_ ?_ ?_ (by exact hHeld) ?_
  rotate_left 2
  · (simp only [List.getElem?_toArray, List.getElem?_cons_zero, List.getElem?_cons_succ]; try rfl)
  · kernel_rfl
  · kernel_rfl
  · kernel_rfl
  · exact fun _ _ _ h => h
  · refine Or.inl ⟨by rfl, ?_⟩
    (intro V hSV; (try dsimp only at hSV); obtain ⟨q0, q1, q2⟩ := hSV; go_simp; try with_reducible rfl)
  (try simp only [Act.put, List.setIfInBounds_toArray, List.set_cons_zero, List.set_cons_succ])
  refine wpAnyH_take (i := 18) (oi := ?_) (v := ?_) ?_ ?_ ?_ ?_ ?_ ?_ (by exact hHeld) ?_
  rotate_left 2
  · (simp only [List.getElem?_toArray, List.getElem?_cons_zero, List.getElem?_cons_succ]; try rfl)
  · kernel_rfl
  · kernel_rfl
  · kernel_rfl
  · exact fun _ _ _ h => h
  · refine Or.inl ⟨by rfl, ?_⟩
    (intro V hSV; (try dsimp only at hSV); obtain ⟨q0, q1, q2⟩ := hSV; go_simp; try with_reducible rfl)
  (try simp only [Act.put, List.setIfInBounds_toArray, List.set_cons_zero, List.set_cons_succ])
  refine wpAnyH_ready (rs := [1]) (by kernel_rfl) (by simp) ?_
  refine AllReadyH.cons (o := ?_) ?_ (fun K hK => ?_) AllReadyH.nil
  rotate_left 1
  · (simp only [List.getElem?_toArray, List.getElem?_cons_zero, List.getElem?_cons_succ]; try rfl)
  go_simp
  refine (spot_any g 60 _ (by omega) (by exact hc)).mono ?_
  rintro e y1 ⟨x, rfl, hx0, hx1, hc, ho9⟩
  have ho9 : Only g (W1) y1 := ⟨ho9.os, ho9.tape, ho9.output, ho9.size, ho9.block⟩
  have bE := bE.only ho9 (by omega)
  have bR := bR.only ho9 (by omega)
  have hown := hown.only ho9 (by omega)
  have hsz9 := ho9.size
  have ho := ho.trans ho9
  clear ho9
  go_wp2_with fail
  refine hK.out _ _ (by exact ⟨bE.c0, bE.c1, bE.c2⟩) (fun hHeld => ?_)
  clear hK K
  (try simp only [Act.put, List.setIfInBounds_toArray, List.set_cons_zero, List.set_cons_succ])
  refine wpAnyH_ready (rs := [11, 13]) (by kernel_rfl) (by simp) ?_
  refine AllReadyH.cons (o := ?_) ?_ (fun K hK => ?_) ?_
  rotate_left 1
  · (simp only [List.getElem?_toArray, List.getElem?_cons_zero, List.getElem?_cons_succ]; try rfl)
  · have hal := (Below.refl y1.heap.size y1).alloc (Nat.le_refl _) (.cells #[.int .i64 x, .int .i64 a, .int .i64 s] 3)
    have bV := Blk.new y1 #[.int .i64 x, .int .i64 a, .int .i64 s] 3
    have bE := bE.below hal
    have bR := bR.below hal
    have hown := hown.below hal
    have hc := hc.only_new hal
    have ho := ho.trans (Only.of_below hal)
    have hvb : w1.heap.size ≤ y1.heap.size := by omega
    have hvg : g < y1.heap.size := by omega
    have hsz9 := hal.size
    clear hal
    go_simp
    refine hK.out _ _ (by exact ⟨bE.c0, bE.c1, bE.c2⟩) (fun hHeld => ?_)
    clear hK K
    (try simp only [Act.put, List.setIfInBounds_toArray, List.set_cons_zero, List.set_cons_succ])
    generalize y1.heap.size = vb at *
    generalize y1.alloc (.cells #[.int .i64 x, .int .i64 a, .int .i64 s] 3) = y2 at *
    refine wpAnyH_ready (rs := [13]) (by kernel_rfl) (by simp) ?_
    refine AllReadyH.cons (o := ?_) ?_ (fun K hK => ?_) AllReadyH.nil
    rotate_left 1
    · (simp only [List.getElem?_toArray, List.getElem?_cons_zero, List.getElem?_cons_succ]; try rfl)
    go_simp
    refine (pick_draws g 90 3 _ (by omega) (by omega) (by omega) (by exact hc.mono (by omega))).mono ?_
    rintro e y3 ⟨zz, rfl, hz0, hz1, hc, ho9⟩
    obtain ⟨k, rfl⟩ := Int.eq_ofNat_of_zero_le hz0
    have hk3 : k < 3 := by omega
    have hki : (k : Int) < 3 := by omega
    have ho9 : Only g (y2) y3 := ⟨ho9.os, ho9.tape, ho9.output, ho9.size, ho9.block⟩
    have bE := bE.only ho9 (by omega)
    have bR := bR.only ho9 (by omega)
    have bV := bV.only ho9 (by omega)
    have hown := hown.only ho9 (by omega)
    have hsz9 := ho9.size
    have ho := ho.trans ho9
    clear ho9
    go_wp2_with fail
    refine hK.out _ _ (by exact ⟨bE.c0, bE.c1, bE.c2⟩) (fun hHeld => ?_)
    clear hK K
    (try simp only [Act.put, List.setIfInBounds_toArray, List.set_cons_zero, List.set_cons_succ])
    refine wpAnyH_take (i := 14) (oi := ?_) (v := ?_) ?_ ?_ ?_ ?_ ?_ ?_ (by exact hHeld) ?_
    rotate_left 2
    · (simp only [List.getElem?_toArray, List.getElem?_cons_zero, List.getElem?_cons_succ]; try rfl)
    · kernel_rfl
    · kernel_rfl
    · kernel_rfl
    · exact fun _ _ _ h => h
    · refine Or.inl ⟨by rfl, ?_⟩
      (intro V hSV; (try dsimp only at hSV); obtain ⟨q0, q1, q2⟩ := hSV; go_simp; try with_reducible rfl)
    (try simp only [Act.put, List.setIfInBounds_toArray, List.set_cons_zero, List.set_cons_succ])
    refine wpAnyH_ready (rs := [15, 17]) (by kernel_rfl) (by simp) ?_
    refine AllReadyH.cons (o := ?_) ?_ (fun K hK => ?_) ?_
    rotate_left 1
    · (simp only [List.getElem?_toArray, List.getElem?_cons_zero, List.getElem?_cons_succ]; try rfl)
    · obtain ⟨v, hv, v1, v2⟩ : ∃ v : Int, y3.cell? ⟨vb, k, none⟩ = some (.int .i64 v) ∧ -9223372036854775808 ≤ v ∧ v ≤ 9223372036854775807 := by
        rw [bV.cell k]
        match k, hk3 with
        | 0, _ => exact ⟨_, rfl, by omega, by omega⟩
        | 1, _ => exact ⟨_, rfl, by omega, by omega⟩
        | 2, _ => exact ⟨_, rfl, by omega, by omega⟩
      go_simp
      refine hK.out _ _ (by exact ⟨bE.c0, bE.c1, bE.c2⟩) (fun hHeld => ?_)
      clear hK K
      (try simp only [Act.put, List.setIfInBounds_toArray, List.set_cons_zero, List.set_cons_succ])
      refine wpAnyH_ready (rs := [17]) (by kernel_rfl) (by simp) ?_
      refine AllReadyH.cons (o := ?_) ?_ (fun K hK => ?_) AllReadyH.nil
      rotate_left 1
      · (simp only [List.getElem?_toArray, List.getElem?_cons_zero, List.getElem?_cons_succ]; try rfl)
      go_simp
      refine (once_any g 100 2 _ (by omega) (by omega) (by omega) (by exact hc.mono (by omega))).mono ?_
      rintro e y5 ⟨rb, rfl, hc, ho9⟩
      have ho9 : Only g (y3) y5 := ⟨ho9.os, ho9.tape, ho9.output, ho9.size, ho9.block⟩
      have bE := bE.only ho9 (by omega)
      have bR := bR.only ho9 (by omega)
      have bV := bV.only ho9 (by omega)
      have hown := hown.only ho9 (by omega)
      have hsz9 := ho9.size
      have ho := ho.trans ho9
      clear ho9
      go_wp2_with fail
      refine hK.out _ _ (by exact ⟨bE.c0, bE.c1, bE.c2⟩) (fun hHeld => ?_)
      clear hK K
      (try simp only [Act.put, List.setIfInBounds_toArray, List.set_cons_zero, List.set_cons_succ])
      refine wpAnyH_take (i := 19) (oi := ?_) (v := ?_) ?_ ?_ ?_ ?_ ?_ ?_ (by exact hHeld) ?_
      rotate_left 2
      · (simp only [List.getElem?_toArray, List.getElem?_cons_zero, List.getElem?_cons_succ]; try rfl)
      · kernel_rfl
      · kernel_rfl
      · kernel_rfl
      · exact fun _ _ _ h => h
      · refine Or.inl ⟨by rfl, ?_⟩
        (intro V hSV; (try dsimp only at hSV); obtain ⟨q0, q1, q2⟩ := hSV; go_simp; try with_reducible rfl)
      (try simp only [Act.put, List.setIfInBounds_toArray, List.set_cons_zero, List.set_cons_succ])
      refine wpAnyH_take (i := 20) (oi := ?_) (v := ?_) ?_ ?_ ?_ ?_ ?_ ?_ (by exact hHeld) ?_
      rotate_left 2
      · (simp only [List.getElem?_toArray, List.getElem?_cons_zero, List.getElem?_cons_succ]; try rfl)
      · kernel_rfl
      · kernel_rfl
      · kernel_rfl
      · exact fun _ _ _ h => h
      · refine Or.inl ⟨by rfl, ?_⟩
        (intro V hSV; (try dsimp only at hSV); obtain ⟨q0, q1, q2⟩ := hSV; go_simp; try with_reducible rfl)
      (try simp only [Act.put, List.setIfInBounds_toArray, List.set_cons_zero, List.set_cons_succ])
      have r0 := bR.c0
      have r1 := bR.c1
      have r2 := bR.c2
      have f0 := bR.f 0
      have f1 := bR.f 1
      have f2 := bR.f 2
      have bE9 : EBox (((y5.setCell ⟨w.heap.size, 0, none⟩ (.int .i64 a)).setCell ⟨w.heap.size, 1, none⟩ (.int .i64 m)).setCell ⟨w.heap.size, 2, none⟩ (.slice A2 p.length c2)) w2.heap.size a m A2 p.length c2 := ⟨((bE.blk.setFar (by omega) 0 (.int .i64 a)).setFar (by omega) 1 (.int .i64 m)).setFar (by omega) 2 (.slice A2 p.length c2)⟩
      have bR9 : EBox (((y5.setCell ⟨w.heap.size, 0, none⟩ (.int .i64 a)).setCell ⟨w.heap.size, 1, none⟩ (.int .i64 m)).setCell ⟨w.heap.size, 2, none⟩ (.slice A2 p.length c2)) w.heap.size a m A2 p.length c2 := ((bR.set0 a).set1 m).set2 A2 p.length c2
      refine wpAnyH_ready (rs := [21]) (by kernel_rfl) (by simp) ?_
      refine AllReadyH.cons (o := ?_) ?_ (fun K hK => ?_) AllReadyH.nil
      rotate_left 1
      · (simp only [List.getElem?_toArray, List.getElem?_cons_zero, List.getElem?_cons_succ]; try rfl)
      go_simp
      refine hK.out _ _ (by exact ⟨bE9.c0, bE9.c1, bE9.c2⟩) (fun hHeld => ?_)
      clear hK K
      (try simp only [Act.put, List.setIfInBounds_toArray, List.set_cons_zero, List.set_cons_succ])
      refine wpAnyH_done (by kernel_rfl) ?_ _
      have u0 := bR9.c0
      have u1 := bR9.c1
      have u2 := bR9.c2
      clear r0 r1 r2 f0 f1 f2
      have hA : ∀ k ∈ (Value.slice A2 p.length c2).ownBlock.toList, w.heap.size ≠ k := fun k hk => by have h1 := HRG.out k hk; omega
      have hB9 := ((((hb1.trans (ho.below w.heap.size (by omega) (by omega))).setCell (p := ⟨w.heap.size, 0, none⟩) (Nat.le_refl _) (.int .i64 a)).setCell (p := ⟨w.heap.size, 1, none⟩) (Nat.le_refl _) (.int .i64 m)).setCell (p := ⟨w.heap.size, 2, none⟩) (Nat.le_refl _) (.slice A2 p.length c2))
      have ho9 := ownSet9 (ownSet9 (ownSet9 hown hA 0 (.int .i64 a)) hA 1 (.int .i64 m)) hA 2 (.slice A2 p.length c2)
      obtain ⟨A9, c9, e9, hl9, hm9, hB99, hp9, hq9⟩ := own_plain9 ho9
      cases e9
      generalize (((y5.setCell ⟨w.heap.size, 0, none⟩ (.int .i64 a)).setCell ⟨w.heap.size, 1, none⟩ (.int .i64 m)).setCell ⟨w.heap.size, 2, none⟩ (.slice A2 p.length c2)) = W9 at *
      go_wp2
      refine bodyPost_ret (v := .tuple #[.int .i64 v, .bool rb, .agg #[.int .i64 a, .int .i64 m, .slice A2 p.length c2]]) (by simp [results, Try.results40, go_sem, u0, u1, u2]) rfl ?_
      exact ⟨v, rb, a, m, A2, p, c2, rfl, ⟨v1, v2⟩, ha, hm, hp5, hl9, hm9, hB99, hB9⟩
    refine AllReadyH.cons (o := ?_) ?_ (fun K hK => ?_) AllReadyH.nil
    rotate_left 1
    · (simp only [List.getElem?_toArray, List.getElem?_cons_zero, List.getElem?_cons_succ]; try rfl)
    go_simp
    refine (once_any g 100 2 _ (by omega) (by omega) (by omega) (by exact hc.mono (by omega))).mono ?_
    rintro e y6 ⟨rb, rfl, hc, ho9⟩
    have ho9 : Only g (y3) y6 := ⟨ho9.os, ho9.tape, ho9.output, ho9.size, ho9.block⟩
    have bE := bE.only ho9 (by omega)
    have bR := bR.only ho9 (by omega)
    have bV := bV.only ho9 (by omega)
    have hown := hown.only ho9 (by omega)
    have hsz9 := ho9.size
    have ho := ho.trans ho9
    clear ho9
    go_wp2_with fail
    refine hK.out _ _ (by exact ⟨bE.c0, bE.c1, bE.c2⟩) (fun hHeld => ?_)
    clear hK K
    (try simp only [Act.put, List.setIfInBounds_toArray, List.set_cons_zero, List.set_cons_succ])
    refine wpAnyH_ready (rs := [15]) (by kernel_rfl) (by simp) ?_
    refine AllReadyH.cons (o := ?_) ?_ (fun K hK => ?_) AllReadyH.nil
    rotate_left 1
    · (simp only [List.getElem?_toArray, List.getElem?_cons_zero, List.getElem?_cons_succ]; try rfl)
    obtain ⟨v, hv, v1, v2⟩ : ∃ v : Int, y6.cell? ⟨vb, k, none⟩ = some (.int .i64 v) ∧ -9223372036854775808 ≤ v ∧ v ≤ 9223372036854775807 := by
      rw [bV.cell k]
      match k, hk3 with
      | 0, _ => exact ⟨_, rfl, by omega, by omega⟩
      | 1, _ => exact ⟨_, rfl, by omega, by omega⟩
      | 2, _ => exact ⟨_, rfl, by omega, by omega⟩
    go_simp
    refine hK.out _ _ (by exact ⟨bE.c0, bE.c1, bE.c2⟩) (fun hHeld => ?_)
    clear hK K
    (try simp only [Act.put, List.setIfInBounds_toArray, List.set_cons_zero, List.set_cons_succ])
    refine wpAnyH_take (i := 19) (oi := ?_) (v := ?_) ?_ ?_ ?_ ?_ ?_ ?_ (by exact hHeld) ?_
    rotate_left 2
    · (simp only [List.getElem?_toArray, List.getElem?_cons_zero, List.getElem?_cons_succ]; try rfl)
    · kernel_rfl
    · kernel_rfl
    · kernel_rfl
    · exact fun _ _ _ h => h
    · refine Or.inl ⟨by rfl, ?_⟩
      (intro V hSV; (try dsimp only at hSV); obtain ⟨q0, q1, q2⟩ := hSV; go_simp; try with_reducible rfl)
    (try simp only [Act.put, List.setIfInBounds_toArray, List.set_cons_zero, List.set_cons_succ])
    refine wpAnyH_take (i := 20) (oi := ?_) (v := ?_) ?_ ?_ ?_ ?_ ?_ ?_ (by exact hHeld) ?_
    rotate_left 2
    · (simp only [List.getElem?_toArray, List.getElem?_cons_zero, List.getElem?_cons_succ]; try rfl)
    · kernel_rfl
    · kernel_rfl
    · kernel_rfl
    · exact fun _ _ _ h => h
    · refine Or.inl ⟨by rfl, ?_⟩
      (intro V hSV; (try dsimp only at hSV); obtain ⟨q0, q1, q2⟩ := hSV; go_simp; try with_reducible rfl)
    (try simp only [Act.put, List.setIfInBounds_toArray, List.set_cons_zero, List.set_cons_succ])
    have r0 := bR.c0
    have r1 := bR.c1
    have r2 := bR.c2
    have f0 := bR.f 0
    have f1 := bR.f 1
    have f2 := bR.f 2
    have bE9 : EBox (((y6.setCell ⟨w.heap.size, 0, none⟩ (.int .i64 a)).setCell ⟨w.heap.size, 1, none⟩ (.int .i64 m)).setCell ⟨w.heap.size, 2, none⟩ (.slice A2 p.length c2)) w2.heap.size a m A2 p.length c2 := ⟨((bE.blk.setFar (by omega) 0 (.int .i64 a)).setFar (by omega) 1 (.int .i64 m)).setFar (by omega) 2 (.slice A2 p.length c2)⟩
    have bR9 : EBox (((y6.setCell ⟨w.heap.size, 0, none⟩ (.int .i64 a)).setCell ⟨w.heap.size, 1, none⟩ (.int .i64 m)).setCell ⟨w.heap.size, 2, none⟩ (.slice A2 p.length c2)) w.heap.size a m A2 p.length c2 := ((bR.set0 a).set1 m).set2 A2 p.length c2
    refine wpAnyH_ready (rs := [21]) (by kernel_rfl) (by simp) ?_
    refine AllReadyH.cons (o := ?_) ?_ (fun K hK => ?_) AllReadyH.nil
    rotate_left 1
    · (simp only [List.getElem?_toArray, List.getElem?_cons_zero, List.getElem?_cons_succ]; try rfl)
    go_simp
    refine hK.out _ _ (by exact ⟨bE9.c0, bE9.c1, bE9.c2⟩) (fun hHeld => ?_)
    clear hK K
    (try simp only [Act.put, List.setIfInBounds_toArray, List.set_cons_zero, List.set_cons_succ])
    refine wpAnyH_done (by kernel_rfl) ?_ _
    have u0 := bR9.c0
    have u1 := bR9.c1
    have u2 := bR9.c2
    clear r0 r1 r2 f0 f1 f2
    have hA : ∀ k ∈ (Value.slice A2 p.length c2).ownBlock.toList, w.heap.size ≠ k := fun k hk => by have h1 := HRG.out k hk; omega
    have hB9 := ((((hb1.trans (ho.below w.heap.size (by omega) (by omega))).setCell (p := ⟨w.heap.size, 0, none⟩) (Nat.le_refl _) (.int .i64 a)).setCell (p := ⟨w.heap.size, 1, none⟩) (Nat.le_refl _) (.int .i64 m)).setCell (p := ⟨w.heap.size, 2, none⟩) (Nat.le_refl _) (.slice A2 p.length c2))
    have ho9 := ownSet9 (ownSet9 (ownSet9 hown hA 0 (.int .i64 a)) hA 1 (.int .i64 m)) hA 2 (.slice A2 p.length c2)
    obtain ⟨A9, c9, e9, hl9, hm9, hB99, hp9, hq9⟩ := own_plain9 ho9
    cases e9
    generalize (((y6.setCell ⟨w.heap.size, 0, none⟩ (.int .i64 a)).setCell ⟨w.heap.size, 1, none⟩ (.int .i64 m)).setCell ⟨w.heap.size, 2, none⟩ (.slice A2 p.length c2)) = W9 at *
    go_wp2
    refine bodyPost_ret (v := .tuple #[.int .i64 v, .bool rb, .agg #[.int .i64 a, .int .i64 m, .slice A2 p.length c2]]) (by simp [results, Try.results40, go_sem, u0, u1, u2]) rfl ?_
    exact ⟨v, rb, a, m, A2, p, c2, rfl, ⟨v1, v2⟩, ha, hm, hp5, hl9, hm9, hB99, hB9⟩
  refine AllReadyH.cons (o := ?_) ?_ (fun K hK => ?_) AllReadyH.nil
  rotate_left 1
  · (simp only [List.getElem?_toArray, List.getElem?_cons_zero, List.getElem?_cons_succ]; try rfl)
  go_simp
  refine (pick_draws g 90 3 _ (by omega) (by omega) (by omega) (by exact hc.mono (by omega))).mono ?_
  rintro e y8 ⟨zz, rfl, hz0, hz1, hc, ho9⟩
  obtain ⟨k, rfl⟩ := Int.eq_ofNat_of_zero_le hz0
  have hk3 : k < 3 := by omega
  have hki : (k : Int) < 3 := by omega
  have ho9 : Only g (y1) y8 := ⟨ho9.os, ho9.tape, ho9.output, ho9.size, ho9.block⟩
  have bE := bE.only ho9 (by omega)
  have bR := bR.only ho9 (by omega)
  have hown := hown.only ho9 (by omega)
  have hsz9 := ho9.size
  have ho := ho.trans ho9
  clear ho9
  go_wp2_with fail
  refine hK.out _ _ (by exact ⟨bE.c0, bE.c1, bE.c2⟩) (fun hHeld => ?_)
  clear hK K
  (try simp only [Act.put, List.setIfInBounds_toArray, List.set_cons_zero, List.set_cons_succ])
  refine wpAnyH_ready (rs := [11, 17]) (by kernel_rfl) (by simp) ?_
  refine AllReadyH.cons (o := ?_) ?_ (fun K hK => ?_) ?_
  rotate_left 1
  · (simp only [List.getElem?_toArray, List.getElem?_cons_zero, List.getElem?_cons_succ]; try rfl)
  · have hal := (Below.refl y8.heap.size y8).alloc (Nat.le_refl _) (.cells #[.int .i64 x, .int .i64 a, .int .i64 s] 3)
    have bV := Blk.new y8 #[.int .i64 x, .int .i64 a, .int .i64 s] 3
    have bE := bE.below hal
    have bR := bR.below hal
    have hown := hown.below hal
    have hc := hc.only_new hal
    have ho := ho.trans (Only.of_below hal)
    have hvb : w1.heap.size ≤ y8.heap.size := by omega
    have hvg : g < y8.heap.size := by omega
    have hsz9 := hal.size
    clear hal
    go_simp
    refine hK.out _ _ (by exact ⟨bE.c0, bE.c1, bE.c2⟩) (fun hHeld => ?_)
    clear hK K
    (try simp only [Act.put, List.setIfInBounds_toArray, List.set_cons_zero, List.set_cons_succ])
    generalize y8.heap.size = vb at *
    generalize y8.alloc (.cells #[.int .i64 x, .int .i64 a, .int .i64 s] 3) = y9 at *
    refine wpAnyH_take (i := 14) (oi := ?_) (v := ?_) ?_ ?_ ?_ ?_ ?_ ?_ (by exact hHeld) ?_
    rotate_left 2
    · (simp only [List.getElem?_toArray, List.getElem?_cons_zero, List.getElem?_cons_succ]; try rfl)
    · kernel_rfl
    · kernel_rfl
    · kernel_rfl
    · exact fun _ _ _ h => h
    · refine Or.inl ⟨by rfl, ?_⟩
      (intro V hSV; (try dsimp only at hSV); obtain ⟨q0, q1, q2⟩ := hSV; go_simp; try with_reducible rfl)
    (try simp only [Act.put, List.setIfInBounds_toArray, List.set_cons_zero, List.set_cons_succ])
    refine wpAnyH_ready (rs := [15, 17]) (by kernel_rfl) (by simp) ?_
    refine AllReadyH.cons (o := ?_) ?_ (fun K hK => ?_) ?_
    rotate_left 1
    · (simp only [List.getElem?_toArray, List.getElem?_cons_zero, List.getElem?_cons_succ]; try rfl)
    · obtain ⟨v, hv, v1, v2⟩ : ∃ v : Int, y9.cell? ⟨vb, k, none⟩ = some (.int .i64 v) ∧ -9223372036854775808 ≤ v ∧ v ≤ 9223372036854775807 := by
        rw [bV.cell k]
        match k, hk3 with
        | 0, _ => exact ⟨_, rfl, by omega, by omega⟩
        | 1, _ => exact ⟨_, rfl, by omega, by omega⟩
        | 2, _ => exact ⟨_, rfl, by omega, by omega⟩
      go_simp
      refine hK.out _ _ (by exact ⟨bE.c0, bE.c1, bE.c2⟩) (fun hHeld => ?_)
      clear hK K
      (try simp only [Act.put, List.setIfInBounds_toArray, List.set_cons_zero, List.set_cons_succ])
      refine wpAnyH_ready (rs := [17]) (by kernel_rfl) (by simp) ?_
      refine AllReadyH.cons (o := ?_) ?_ (fun K hK => ?_) AllReadyH.nil
      rotate_left 1
      · (simp only [List.getElem?_toArray, List.getElem?_cons_zero, List.getElem?_cons_succ]; try rfl)
      go_simp
      refine (once_any g 100 2 _ (by omega) (by omega) (by omega) (by exact hc.mono (by omega))).mono ?_
      rintro e y11 ⟨rb, rfl, hc, ho9⟩
      have ho9 : Only g (y9) y11 := ⟨ho9.os, ho9.tape, ho9.output, ho9.size, ho9.block⟩
      have bE := bE.only ho9 (by omega)
      have bR := bR.only ho9 (by omega)
      have bV := bV.only ho9 (by omega)
      have hown := hown.only ho9 (by omega)
      have hsz9 := ho9.size
      have ho := ho.trans ho9
      clear ho9
      go_wp2_with fail
      refine hK.out _ _ (by exact ⟨bE.c0, bE.c1, bE.c2⟩) (fun hHeld => ?_)
      clear hK K
      (try simp only [Act.put, List.setIfInBounds_toArray, List.set_cons_zero, List.set_cons_succ])
      refine wpAnyH_take (i := 19) (oi := ?_) (v := ?_) ?_ ?_ ?_ ?_ ?_ ?_ (by exact hHeld) ?_
      rotate_left 2
      · (simp only [List.getElem?_toArray, List.getElem?_cons_zero, List.getElem?_cons_succ]; try rfl)
      · kernel_rfl
      · kernel_rfl
      · kernel_rfl
      · exact fun _ _ _ h => h
      · refine Or.inl ⟨by rfl, ?_⟩
        (intro V hSV; (try dsimp only at hSV); obtain ⟨q0, q1, q2⟩ := hSV; go_simp; try with_reducible rfl)
      (try simp only [Act.put, List.setIfInBounds_toArray, List.set_cons_zero, List.set_cons_succ])
      refine wpAnyH_take (i := 20) (oi := ?_) (v := ?_) ?_ ?_ ?_ ?_ ?_ ?_ (by exact hHeld) ?_
      rotate_left 2
      · (simp only [List.getElem?_toArray, List.getElem?_cons_zero, List.getElem?_cons_succ]; try rfl)
      · kernel_rfl
      · kernel_rfl
      · kernel_rfl
      · exact fun _ _ _ h => h
      · refine Or.inl ⟨by rfl, ?_⟩
        (intro V hSV; (try dsimp only at hSV); obtain ⟨q0, q1, q2⟩ := hSV; go_simp; try with_reducible rfl)
      (try simp only [Act.put, List.setIfInBounds_toArray, List.set_cons_zero, List.set_cons_succ])
      have r0 := bR.c0
      have r1 := bR.c1
      have r2 := bR.c2
      have f0 := bR.f 0
      have f1 := bR.f 1
      have f2 := bR.f 2
      have bE9 : EBox (((y11.setCell ⟨w.heap.size, 0, none⟩ (.int .i64 a)).setCell ⟨w.heap.size, 1, none⟩ (.int .i64 m)).setCell ⟨w.heap.size, 2, none⟩ (.slice A2 p.length c2)) w2.heap.size a m A2 p.length c2 := ⟨((bE.blk.setFar (by omega) 0 (.int .i64 a)).setFar (by omega) 1 (.int .i64 m)).setFar (by omega) 2 (.slice A2 p.length c2)⟩
      have bR9 : EBox (((y11.setCell ⟨w.heap.size, 0, none⟩ (.int .i64 a)).setCell ⟨w.heap.size, 1, none⟩ (.int .i64 m)).setCell ⟨w.heap.size, 2, none⟩ (.slice A2 p.length c2)) w.heap.size a m A2 p.length c2 := ((bR.set0 a).set1 m).set2 A2 p.length c2
      refine wpAnyH_ready (rs := [21]) (by kernel_rfl) (by simp) ?_
      refine AllReadyH.cons (o := ?_) ?_ (fun K hK => ?_) AllReadyH.nil
      rotate_left 1
      · (simp only [List.getElem?_toArray, List.getElem?_cons_zero, List.getElem?_cons_succ]; try rfl)
      go_simp
      refine hK.out _ _ (by exact ⟨bE9.c0, bE9.c1, bE9.c2⟩) (fun hHeld => ?_)
      clear hK K
      (try simp only [Act.put, List.setIfInBounds_toArray, List.set_cons_zero, List.set_cons_succ])
      refine wpAnyH_done (by kernel_rfl) ?_ _
      have u0 := bR9.c0
      have u1 := bR9.c1
      have u2 := bR9.c2
      clear r0 r1 r2 f0 f1 f2
      have hA : ∀ k ∈ (Value.slice A2 p.length c2).ownBlock.toList, w.heap.size ≠ k := fun k hk => by have h1 := HRG.out k hk; omega
      have hB9 := ((((hb1.trans (ho.below w.heap.size (by omega) (by omega))).setCell (p := ⟨w.heap.size, 0, none⟩) (Nat.le_refl _) (.int .i64 a)).setCell (p := ⟨w.heap.size, 1, none⟩) (Nat.le_refl _) (.int .i64 m)).setCell (p := ⟨w.heap.size, 2, none⟩) (Nat.le_refl _) (.slice A2 p.length c2))
      have ho9 := ownSet9 (ownSet9 (ownSet9 hown hA 0 (.int .i64 a)) hA 1 (.int .i64 m)) hA 2 (.slice A2 p.length c2)
      obtain ⟨A9, c9, e9, hl9, hm9, hB99, hp9, hq9⟩ := own_plain9 ho9
      cases e9
      generalize (((y11.setCell ⟨w.heap.size, 0, none⟩ (.int .i64 a)).setCell ⟨w.heap.size, 1, none⟩ (.int .i64 m)).setCell ⟨w.heap.size, 2, none⟩ (.slice A2 p.length c2)) = W9 at *
      go_wp2
      refine bodyPost_ret (v := .tuple #[.int .i64 v, .bool rb, .agg #[.int .i64 a, .int .i64 m, .slice A2 p.length c2]]) (by simp [results, Try.results40, go_sem, u0, u1, u2]) rfl ?_
      exact ⟨v, rb, a, m, A2, p, c2, rfl, ⟨v1, v2⟩, ha, hm, hp5, hl9, hm9, hB99, hB9⟩
    refine AllReadyH.cons (o := ?_) ?_ (fun K hK => ?_) AllReadyH.nil
    rotate_left 1
    · (simp only [List.getElem?_toArray, List.getElem?_cons_zero, List.getElem?_cons_succ]; try rfl)
    go_simp
    refine (once_any g 100 2 _ (by omega) (by omega) (by omega) (by exact hc.mono (by omega))).mono ?_
    rintro e y12 ⟨rb, rfl, hc, ho9⟩
    have ho9 : Only g (y9) y12 := ⟨ho9.os, ho9.tape, ho9.output, ho9.size, ho9.block⟩
    have bE := bE.only ho9 (by omega)
    have bR := bR.only ho9 (by omega)
    have bV := bV.only ho9 (by omega)
    have hown := hown.only ho9 (by omega)
    have hsz9 := ho9.size
    have ho := ho.trans ho9
    clear ho9
    go_wp2_with fail
    refine hK.out _ _ (by exact ⟨bE.c0, bE.c1, bE.c2⟩) (fun hHeld => ?_)
    clear hK K
    (try simp only [Act.put, List.setIfInBounds_toArray, List.set_cons_zero, List.set_cons_succ])
    refine wpAnyH_ready (rs := [15]) (by kernel_rfl) (by simp) ?_
    refine AllReadyH.cons (o := ?_) ?_ (fun K hK => ?_) AllReadyH.nil
    rotate_left 1
    · (simp only [List.getElem?_toArray, List.getElem?_cons_zero, List.getElem?_cons_succ]; try rfl)
    obtain ⟨v, hv, v1, v2⟩ : ∃ v : Int, y12.cell? ⟨vb, k, none⟩ = some (.int .i64 v) ∧ -9223372036854775808 ≤ v ∧ v ≤ 9223372036854775807 := by
      rw [bV.cell k]
      match k, hk3 with
      | 0, _ => exact ⟨_, rfl, by omega, by omega⟩
      | 1, _ => exact ⟨_, rfl, by omega, by omega⟩
      | 2, _ => exact ⟨_, rfl, by omega, by omega⟩
    go_simp
    refine hK.out _ _ (by exact ⟨bE.c0, bE.c1, bE.c2⟩) (fun hHeld => ?_)
    clear hK K
    (try simp only [Act.put, List.setIfInBounds_toArray, List.set_cons_zero, List.set_cons_succ])
    refine wpAnyH_take (i := 19) (oi := ?_) (v := ?_) ?_ ?_ ?_ ?_ ?_ ?_ (by exact hHeld) ?_
    rotate_left 2
    · (simp only [List.getElem?_toArray, List.getElem?_cons_zero, List.getElem?_cons_succ]; try rfl)
    · kernel_rfl
    · kernel_rfl
    · kernel_rfl
    · exact fun _ _ _ h => h
    · refine Or.inl ⟨by rfl, ?_⟩
      (intro V hSV; (try dsimp only at hSV); obtain ⟨q0, q1, q2⟩ := hSV; go_simp; try with_reducible rfl)
    (try simp only [Act.put, List.setIfInBounds_toArray, List.set_cons_zero, List.set_cons_succ])
    refine wpAnyH_take (i := 20) (oi := ?_) (v := ?_) ?_ ?_ ?_ ?_ ?_ ?_ (by exact hHeld) ?_
    rotate_left 2
    · (simp only [List.getElem?_toArray, List.getElem?_cons_zero, List.getElem?_cons_succ]; try rfl)
    · kernel_rfl
    · kernel_rfl
    · kernel_rfl
    · exact fun _ _ _ h => h
    · refine Or.inl ⟨by rfl, ?_⟩
      (intro V hSV; (try dsimp only at hSV); obtain ⟨q0, q1, q2⟩ := hSV; go_simp; try with_reducible rfl)
    (try simp only [Act.put, List.setIfInBounds_toArray, List.set_cons_zero, List.set_cons_succ])
    have r0 := bR.c0
    have r1 := bR.c1
    have r2 := bR.c2
    have f0 := bR.f 0
    have f1 := bR.f 1
    have f2 := bR.f 2
    have bE9 : EBox (((y12.setCell ⟨w.heap.size, 0, none⟩ (.int .i64 a)).setCell ⟨w.heap.size, 1, none⟩ (.int .i64 m)).setCell ⟨w.heap.size, 2, none⟩ (.slice A2 p.length c2)) w2.heap.size a m A2 p.length c2 := ⟨((bE.blk.setFar (by omega) 0 (.int .i64 a)).setFar (by omega) 1 (.int .i64 m)).setFar (by omega) 2 (.slice A2 p.length c2)⟩
    have bR9 : EBox (((y12.setCell ⟨w.heap.size, 0, none⟩ (.int .i64 a)).setCell ⟨w.heap.size, 1, none⟩ (.int .i64 m)).setCell ⟨w.heap.size, 2, none⟩ (.slice A2 p.length c2)) w.heap.size a m A2 p.length c2 := ((bR.set0 a).set1 m).set2 A2 p.length c2
    refine wpAnyH_ready (rs := [21]) (by kernel_rfl) (by simp) ?_
    refine AllReadyH.cons (o := ?_) ?_ (fun K hK => ?_) AllReadyH.nil
    rotate_left 1
    · (simp only [List.getElem?_toArray, List.getElem?_cons_zero, List.getElem?_cons_succ]; try rfl)
    go_simp
    refine hK.out _ _ (by exact ⟨bE9.c0, bE9.c1, bE9.c2⟩) (fun hHeld => ?_)
    clear hK K
    (try simp only [Act.put, List.setIfInBounds_toArray, List.set_cons_zero, List.set_cons_succ])
    refine wpAnyH_done (by kernel_rfl) ?_ _
    have u0 := bR9.c0
    have u1 := bR9.c1
    have u2 := bR9.c2
    clear r0 r1 r2 f0 f1 f2
    have hA : ∀ k ∈ (Value.slice A2 p.length c2).ownBlock.toList, w.heap.size ≠ k := fun k hk => by have h1 := HRG.out k hk; omega
    have hB9 := ((((hb1.trans (ho.below w.heap.size (by omega) (by omega))).setCell (p := ⟨w.heap.size, 0, none⟩) (Nat.le_refl _) (.int .i64 a)).setCell (p := ⟨w.heap.size, 1, none⟩) (Nat.le_refl _) (.int .i64 m)).setCell (p := ⟨w.heap.size, 2, none⟩) (Nat.le_refl _) (.slice A2 p.length c2))
    have ho9 := ownSet9 (ownSet9 (ownSet9 hown hA 0 (.int .i64 a)) hA 1 (.int .i64 m)) hA 2 (.slice A2 p.length c2)
    obtain ⟨A9, c9, e9, hl9, hm9, hB99, hp9, hq9⟩ := own_plain9 ho9
    cases e9
    generalize (((y12.setCell ⟨w.heap.size, 0, none⟩ (.int .i64 a)).setCell ⟨w.heap.size, 1, none⟩ (.int .i64 m)).setCell ⟨w.heap.size, 2, none⟩ (.slice A2 p.length c2)) = W9 at *
    go_wp2
    refine bodyPost_ret (v := .tuple #[.int .i64 v, .bool rb, .agg #[.int .i64 a, .int .i64 m, .slice A2 p.length c2]]) (by simp [results, Try.results40, go_sem, u0, u1, u2]) rfl ?_
    exact ⟨v, rb, a, m, A2, p, c2, rfl, ⟨v1, v2⟩, ha, hm, hp5, hl9, hm9, hB99, hB9⟩
  refine AllReadyH.cons (o := ?_) ?_ (fun K hK => ?_) AllReadyH.nil
  rotate_left 1
  · (simp only [List.getElem?_toArray, List.getElem?_cons_zero, List.getElem?_cons_succ]; try rfl)
  go_simp
  refine (once_any g 100 2 _ (by omega) (by omega) (by omega) (by exact hc.mono (by omega))).mono ?_
  rintro e y14 ⟨rb, rfl, hc, ho9⟩
  have ho9 : Only g (y8) y14 := ⟨ho9.os, ho9.tape, ho9.output, ho9.size, ho9.block⟩
  have bE := bE.only ho9 (by omega)
  have bR := bR.only ho9 (by omega)
  have hown := hown.only ho9 (by omega)
  have hsz9 := ho9.size
  have ho := ho.trans ho9
  clear ho9
  go_wp2_with fail
  refine hK.out _ _ (by exact ⟨bE.c0, bE.c1, bE.c2⟩) (fun hHeld => ?_)
  clear hK K
  (try simp only [Act.put, List.setIfInBounds_toArray, List.set_cons_zero, List.set_cons_succ])
  refine wpAnyH_ready (rs := [11]) (by kernel_rfl) (by simp) ?_
  refine AllReadyH.cons (o := ?_) ?_ (fun K hK => ?_) AllReadyH.nil
  rotate_left 1
  · (simp only [List.getElem?_toArray, List.getElem?_cons_zero, List.getElem?_cons_succ]; try rfl)
  have hal := (Below.refl y14.heap.size y14).alloc (Nat.le_refl _) (.cells #[.int .i64 x, .int .i64 a, .int .i64 s] 3)
  have bV := Blk.new y14 #[.int .i64 x, .int .i64 a, .int .i64 s] 3
  have bE := bE.below hal
  have bR := bR.below hal
  have hown := hown.below hal
  have hc := hc.only_new hal
  have ho := ho.trans (Only.of_below hal)
  have hvb : w1.heap.size ≤ y14.heap.size := by omega
  have hvg : g < y14.heap.size := by omega
  have hsz9 := hal.size
  clear hal
  go_simp
  refine hK.out _ _ (by exact ⟨bE.c0, bE.c1, bE.c2⟩) (fun hHeld => ?_)
  clear hK K
  (try simp only [Act.put, List.setIfInBounds_toArray, List.set_cons_zero, List.set_cons_succ])
  generalize y14.heap.size = vb at *
  generalize y14.alloc (.cells #[.int .i64 x, .int .i64 a, .int .i64 s] 3) = y15 at *
  refine wpAnyH_take (i := 14) (oi := ?_) (v := ?_) ?_ ?_ ?_ ?_ ?_ ?_ (by exact hHeld) ?_
  rotate_left 2
  · (simp only [List.getElem?_toArray, List.getElem?_cons_zero, List.getElem?_cons_succ]; try rfl)
  · kernel_rfl
  · kernel_rfl
  · kernel_rfl
  · exact fun _ _ _ h => h
  · refine Or.inl ⟨by rfl, ?_⟩
    (intro V hSV; (try dsimp only at hSV); obtain ⟨q0, q1, q2⟩ := hSV; go_simp; try with_reducible rfl)
  (try simp only [Act.put, List.setIfInBounds_toArray, List.set_cons_zero, List.set_cons_succ])
  refine wpAnyH_ready (rs := [15]) (by kernel_rfl) (by simp) ?_
  refine AllReadyH.cons (o := ?_) ?_ (fun K hK => ?_) AllReadyH.nil
  rotate_left 1
  · (simp only [List.getElem?_toArray, List.getElem?_cons_zero, List.getElem?_cons_succ]; try rfl)
  obtain ⟨v, hv, v1, v2⟩ : ∃ v : Int, y15.cell? ⟨vb, k, none⟩ = some (.int .i64 v) ∧ -9223372036854775808 ≤ v ∧ v ≤ 9223372036854775807 := by
    rw [bV.cell k]
    match k, hk3 with
    | 0, _ => exact ⟨_, rfl, by omega, by omega⟩
    | 1, _ => exact ⟨_, rfl, by omega, by omega⟩
    | 2, _ => exact ⟨_, rfl, by omega, by omega⟩
  go_simp
  refine hK.out _ _ (by exact ⟨bE.c0, bE.c1, bE.c2⟩) (fun hHeld => ?_)
  clear hK K
  (try simp only [Act.put, List.setIfInBounds_toArray, List.set_cons_zero, List.set_cons_succ])
  refine wpAnyH_take (i := 19) (oi := ?_) (v := ?_) ?_ ?_ ?_ ?_ ?_ ?_ (by exact hHeld) ?_
  rotate_left 2
  · (simp only [List.getElem?_toArray, List.getElem?_cons_zero, List.getElem?_cons_succ]; try rfl)
  · kernel_rfl
  · kernel_rfl
  · kernel_rfl
  · exact fun _ _ _ h => h
  · refine Or.inl ⟨by rfl, ?_⟩
    (intro V hSV; (try dsimp only at hSV); obtain ⟨q0, q1, q2⟩ := hSV; go_simp; try with_reducible rfl)
  (try simp only [Act.put, List.setIfInBounds_toArray, List.set_cons_zero, List.set_cons_succ])
  refine wpAnyH_take (i := 20) (oi := ?_) (v := ?_) ?_ ?_ ?_ ?_ ?_ ?_ (by exact hHeld) ?_
  rotate_left 2
  · (simp only [List.getElem?_toArray, List.getElem?_cons_zero, List.getElem?_cons_succ]; try rfl)
  · kernel_rfl
  · kernel_rfl
  · kernel_rfl
  · exact fun _ _ _ h => h
  · refine Or.inl ⟨by rfl, ?_⟩
    (intro V hSV; (try dsimp only at hSV); obtain ⟨q0, q1, q2⟩ := hSV; go_simp; try with_reducible rfl)
  (try simp only [Act.put, List.setIfInBounds_toArray, List.set_cons_zero, List.set_cons_succ])
  have r0 := bR.c0
  have r1 := bR.c1
  have r2 := bR.c2
  have f0 := bR.f 0
  have f1 := bR.f 1
  have f2 := bR.f 2
  have bE9 : EBox (((y15.setCell ⟨w.heap.size, 0, none⟩ (.int .i64 a)).setCell ⟨w.heap.size, 1, none⟩ (.int .i64 m)).setCell ⟨w.heap.size, 2, none⟩ (.slice A2 p.length c2)) w2.heap.size a m A2 p.length c2 := ⟨((bE.blk.setFar (by omega) 0 (.int .i64 a)).setFar (by omega) 1 (.int .i64 m)).setFar (by omega) 2 (.slice A2 p.length c2)⟩
  have bR9 : EBox (((y15.setCell ⟨w.heap.size, 0, none⟩ (.int .i64 a)).setCell ⟨w.heap.size, 1, none⟩ (.int .i64 m)).setCell ⟨w.heap.size, 2, none⟩ (.slice A2 p.length c2)) w.heap.size a m A2 p.length c2 := ((bR.set0 a).set1 m).set2 A2 p.length c2
  refine wpAnyH_ready (rs := [21]) (by kernel_rfl) (by simp) ?_
  refine AllReadyH.cons (o := ?_) ?_ (fun K hK => ?_) AllReadyH.nil
  rotate_left 1
  · (simp only [List.getElem?_toArray, List.getElem?_cons_zero, List.getElem?_cons_succ]; try rfl)
  go_simp
  refine hK.out _ _ (by exact ⟨bE9.c0, bE9.c1, bE9.c2⟩) (fun hHeld => ?_)
  clear hK K
  (try simp only [Act.put, List.setIfInBounds_toArray, List.set_cons_zero, List.set_cons_succ])
  refine wpAnyH_done (by kernel_rfl) ?_ _
  have u0 := bR9.c0
  have u1 := bR9.c1
  have u2 := bR9.c2
  clear r0 r1 r2 f0 f1 f2
  have hA : ∀ k ∈ (Value.slice A2 p.length c2).ownBlock.toList, w.heap.size ≠ k := fun k hk => by have h1 := HRG.out k hk; omega
  have hB9 := ((((hb1.trans (ho.below w.heap.size (by omega) (by omega))).setCell (p := ⟨w.heap.size, 0, none⟩) (Nat.le_refl _) (.int .i64 a)).setCell (p := ⟨w.heap.size, 1, none⟩) (Nat.le_refl _) (.int .i64 m)).setCell (p := ⟨w.heap.size, 2, none⟩) (Nat.le_refl _) (.slice A2 p.length c2))
  have ho9 := ownSet9 (ownSet9 (ownSet9 hown hA 0 (.int .i64 a)) hA 1 (.int .i64 m)) hA 2 (.slice A2 p.length c2)
  obtain ⟨A9, c9, e9, hl9, hm9, hB99, hp9, hq9⟩ := own_plain9 ho9
  cases e9
  generalize (((y15.setCell ⟨w.heap.size, 0, none⟩ (.int .i64 a)).setCell ⟨w.heap.size, 1, none⟩ (.int .i64 m)).setCell ⟨w.heap.size, 2, none⟩ (.slice A2 p.length c2)) = W9 at *
  go_wp2
  refine bodyPost_ret (v := .tuple #[.int .i64 v, .bool rb, .agg #[.int .i64 a, .int .i64 m, .slice A2 p.length c2]]) (by simp [results, Try.results40, go_sem, u0, u1, u2]) rfl ?_
  exact ⟨v, rb, a, m, A2, p, c2, rfl, ⟨v1, v2⟩, ha, hm, hp5, hl9, hm9, hB99, hB9⟩
end Go.Proofs.Ytoaimklllmelpaa
