/-
  Chapter 6, a span or selection moved by two methods: contract. Own work.
-/
import Derived.Test.YtoaimklllmelpabDoorJ09b
import Derived.Test.YtoaimklllmelpabDoorC05
namespace Go.Proofs.YtoaimklllmelpabDoor
open Go.RowKit P
set_option linter.unusedVariables false
set_option linter.unusedSimpArgs false
set_option maxRecDepth 100000

set_option maxHeartbeats 8000000 in
theorem selMoved_ff (f t a m : Int) (A : Option Addr) (l : List UInt8) (c : Nat) (w : World) (hf : 0 ≤ f ∧ f ≤ 800) (ht : 0 ≤ t ∧ t ≤ 800) (hs : 0 ≤ a ∧ a ≤ 400 ∧ 0 ≤ m ∧ m ≤ 400 ∧ l.length ≤ 400) :
    Calls Tryd.prog 60 #[.agg #[.int .i64 f, .int .i64 t], .agg #[.int .i64 a, .int .i64 m, .slice A l.length c], .func (.func 62) #[] #[], .func (.func 62) #[] #[]] w fun e w' => e = .returned (.agg #[.int .i64 (mvTo f a m l.length a), .int .i64 (mvTo t a m l.length a)]) ∧ Below w.heap.size w w' := by
  have hal := (((Below.refl w.heap.size w).alloc (Nat.le_refl _) (.cells #[.int .i64 f, .int .i64 t] 31)).alloc (by simp) (.cells #[.int .i64 a, .int .i64 m, .slice A l.length c] 25)).alloc (by simp; omega) (.cells #[.int .i64 0, .int .i64 0] 31)
  have bS := ((Blk.new w #[.int .i64 f, .int .i64 t] 31).below ((Below.refl _ _).alloc (Nat.le_refl _) (.cells #[.int .i64 a, .int .i64 m, .slice A l.length c] 25))).below ((Below.refl _ _).alloc (Nat.le_refl _) (.cells #[.int .i64 0, .int .i64 0] 31))
  have bE := (EBox.new (w.alloc (.cells #[.int .i64 f, .int .i64 t] 31)) a m A l.length c).below ((Below.refl _ _).alloc (Nat.le_refl _) (.cells #[.int .i64 0, .int .i64 0] 31))
  have bR := Blk.new ((w.alloc (.cells #[.int .i64 f, .int .i64 t] 31)).alloc (.cells #[.int .i64 a, .int .i64 m, .slice A l.length c] 25)) #[.int .i64 0, .int .i64 0] 31
  simp only [World.size_alloc] at bE bR
  obtain ⟨x, hx⟩ : ∃ x, mvTo f a m l.length a = x := ⟨_, rfl⟩
  obtain ⟨y, hy⟩ : ∃ y, mvTo t a m l.length a = y := ⟨_, rfl⟩
  have HX := Lib.hid hx
  have HY := Lib.hid hy
  rw [hx, hy]
  clear hx hy
  go_enter Tryd.func60, Tryd.ntmps60
  go_wp2_with fail
  generalize ((w.alloc (.cells #[.int .i64 f, .int .i64 t] 31)).alloc (.cells #[.int .i64 a, .int .i64 m, .slice A l.length c] 25)).alloc (.cells #[.int .i64 0, .int .i64 0] 31) = W1 at *
  have s0 := bS.cell 0
  have s1 := bS.cell 1
  have k0 := bE.c0
  have k1 := bE.c1
  have k2 := bE.c2
  have HS := Lib.hid bS
  have HE := Lib.hid bE.blk
  have HR := Lib.hid bR
  have HAL := Lib.hid hal
  clear bS bE bR hal
  refine wp_region_held_drew (S := (fun V => (V).cell? ⟨w.heap.size, 0, none⟩ = some (.int .i64 f) ∧ (V).cell? ⟨w.heap.size, 1, none⟩ = some (.int .i64 t) ∧ (V).cell? ⟨w.heap.size + 1, 0, none⟩ = some (.int .i64 a) ∧ (V).cell? ⟨w.heap.size + 1, 1, none⟩ = some (.int .i64 m) ∧ (V).cell? ⟨w.heap.size + 1, 2, none⟩ = some (.slice A l.length c))) (by kernel_rfl) (by exact ⟨s0, s1, k0, k1, k2⟩) (fun hHeld => ?_)
  clear s0 s1 k0 k1 k2
  refine wpAnyH_take (i := 0) (oi := ?_) (v := ?_) ?_ ?_ ?_ ?_ ?_ ?_ (by exact hHeld) ?_
  rotate_left 2
  · (simp only [List.getElem?_toArray, List.getElem?_cons_zero]; try rfl)
  · kernel_rfl
  · kernel_rfl
  · kernel_rfl
  · exact fun _ _ _ h => h
  · refine Or.inl ⟨by rfl, ?_⟩
    (intro V hSV; (try dsimp only at hSV); obtain ⟨q0, q1, q2, q3, q4⟩ := hSV; go_simp; try with_reducible rfl)
  (try simp only [Act.put, List.setIfInBounds_toArray, List.set_cons_zero, List.set_cons_succ])
  refine wpAnyH_take (i := 1) (oi := ?_) (v := ?_) ?_ ?_ ?_ ?_ ?_ ?_ (by exact hHeld) ?_
  rotate_left 2
  · (simp only [List.getElem?_toArray, List.getElem?_cons_zero, List.getElem?_cons_succ]; try rfl)
  · kernel_rfl
  · kernel_rfl
  · kernel_rfl
  · exact fun _ _ _ h => h
  · refine Or.inl ⟨by rfl, ?_⟩
    (intro V hSV; (try dsimp only at hSV); obtain ⟨q0, q1, q2, q3, q4⟩ := hSV; go_simp; try with_reducible rfl)
  (try simp only [Act.put, List.setIfInBounds_toArray, List.set_cons_zero, List.set_cons_succ])
  refine wpAnyH_take (i := 2) (oi := ?_) (v := ?_) ?_ ?_ ?_ ?_ ?_ ?_ (by exact hHeld) ?_
  rotate_left 2
  · (simp only [List.getElem?_toArray, List.getElem?_cons_zero, List.getElem?_cons_succ]; try rfl)
  · kernel_rfl
  · kernel_rfl
  · kernel_rfl
  · exact fun _ _ _ h => h
  · refine Or.inl ⟨by rfl, ?_⟩
    (intro V hSV; (try dsimp only at hSV); obtain ⟨q0, q1, q2, q3, q4⟩ := hSV; go_simp; try with_reducible rfl)
  (try simp only [Act.put, List.setIfInBounds_toArray, List.set_cons_zero, List.set_cons_succ])
  refine wpAnyH_take (i := 3) (oi := ?_) (v := ?_) ?_ ?_ ?_ ?_ ?_ ?_ (by exact hHeld) ?_
  rotate_left 2
  · (simp only [List.getElem?_toArray, List.getElem?_cons_zero, List.getElem?_cons_succ]; try rfl)
  · kernel_rfl
  · kernel_rfl
  · kernel_rfl
  · exact fun _ _ _ h => h
  · refine Or.inl ⟨by rfl, ?_⟩
    (intro V hSV; (try dsimp only at hSV); obtain ⟨q0, q1, q2, q3, q4⟩ := hSV; go_simp; try with_reducible rfl)
  (try simp only [Act.put, List.setIfInBounds_toArray, List.set_cons_zero, List.set_cons_succ])
  refine wpAnyH_take (i := 5) (oi := ?_) (v := ?_) ?_ ?_ ?_ ?_ ?_ ?_ (by exact hHeld) ?_
  rotate_left 2
  · (simp only [List.getElem?_toArray, List.getElem?_cons_zero, List.getElem?_cons_succ]; try rfl)
  · kernel_rfl
  · kernel_rfl
  · kernel_rfl
  · exact fun _ _ _ h => h
  · refine Or.inl ⟨by rfl, ?_⟩
    (intro V hSV; (try dsimp only at hSV); obtain ⟨q0, q1, q2, q3, q4⟩ := hSV; go_simp; try with_reducible rfl)
  (try simp only [Act.put, List.setIfInBounds_toArray, List.set_cons_zero, List.set_cons_succ])
  refine wpAnyH_take (i := 6) (oi := ?_) (v := ?_) ?_ ?_ ?_ ?_ ?_ ?_ (by exact hHeld) ?_
  rotate_left 2
  · (simp only [List.getElem?_toArray, List.getElem?_cons_zero, List.getElem?_cons_succ]; try rfl)
  · kernel_rfl
  · kernel_rfl
  · kernel_rfl
  · exact fun _ _ _ h => h
  · refine Or.inl ⟨by rfl, ?_⟩
    (intro V hSV; (try dsimp only at hSV); obtain ⟨q0, q1, q2, q3, q4⟩ := hSV; go_simp; try with_reducible rfl)
  (try simp only [Act.put, List.setIfInBounds_toArray, List.set_cons_zero, List.set_cons_succ])
  refine wpAnyH_take (i := 7) (oi := ?_) (v := ?_) ?_ ?_ ?_ ?_ ?_ ?_ (by exact hHeld) ?_
  rotate_left 2
  · (simp only [List.getElem?_toArray, List.getElem?_cons_zero, List.getElem?_cons_succ]; try rfl)
  · kernel_rfl
  · kernel_rfl
  · kernel_rfl
  · exact fun _ _ _ h => h
  · refine Or.inl ⟨by rfl, ?_⟩
    (intro V hSV; (try dsimp only at hSV); obtain ⟨q0, q1, q2, q3, q4⟩ := hSV; go_simp; try with_reducible rfl)
  (try simp only [Act.put, List.setIfInBounds_toArray, List.set_cons_zero, List.set_cons_succ])
  refine wpAnyH_take (i := 8) (oi := ?_) (v := ?_) ?_ ?_ ?_ ?_ ?_ ?_ (by exact hHeld) ?_
  rotate_left 2
  · (simp only [List.getElem?_toArray, List.getElem?_cons_zero, List.getElem?_cons_succ]; try rfl)
  · kernel_rfl
  · kernel_rfl
  · kernel_rfl
  · exact fun _ _ _ h => h
  · refine Or.inl ⟨by rfl, ?_⟩
    (intro V hSV; (try dsimp only at hSV); obtain ⟨q0, q1, q2, q3, q4⟩ := hSV; go_simp; try with_reducible rfl)
  (try simp only [Act.put, List.setIfInBounds_toArray, List.set_cons_zero, List.set_cons_succ])
  refine wpAnyH_ready (rs := [4]) (by kernel_rfl) (by simp) ?_
  refine AllReadyH.cons rfl (fun K hK => ?_) AllReadyH.nil
  go_simp
  refine (edBefore_any f a m A l c _ hf hs).mono ?_
  rintro e w3 ⟨rfl, hb⟩
  rw [HX.out]
  have hb : Below W1.heap.size W1 w3 := ⟨hb.os, hb.tape, hb.output, hb.size, hb.block⟩
  have HB3 := Lib.hid hb
  clear hb
  go_wp2_with fail
  refine hK.out _ _ (by exact ⟨(HS.out.below HB3.out).cell 0, (HS.out.below HB3.out).cell 1, (HE.out.below HB3.out).cell 0, (HE.out.below HB3.out).cell 1, (HE.out.below HB3.out).cell 2⟩) (fun hHeld => ?_)
  clear hK K
  (try simp only [Act.put, List.setIfInBounds_toArray, List.set_cons_zero, List.set_cons_succ])
  refine wpAnyH_ready (rs := [9]) (by kernel_rfl) (by simp) ?_
  refine AllReadyH.cons rfl (fun K hK => ?_) AllReadyH.nil
  go_simp
  refine (edBefore_any t a m A l c _ ht hs).mono ?_
  rintro e w4 ⟨rfl, hb⟩
  rw [HY.out]
  have hb : Below w3.heap.size w3 w4 := ⟨hb.os, hb.tape, hb.output, hb.size, hb.block⟩
  have HB4 := Lib.hid (below_then HB3.out hb)
  clear hb
  go_wp2_with fail
  refine hK.out _ _ (by exact ⟨(HS.out.below HB4.out).cell 0, (HS.out.below HB4.out).cell 1, (HE.out.below HB4.out).cell 0, (HE.out.below HB4.out).cell 1, (HE.out.below HB4.out).cell 2⟩) (fun hHeld => ?_)
  clear hK K
  (try simp only [Act.put, List.setIfInBounds_toArray, List.set_cons_zero, List.set_cons_succ])
  refine wpAnyH_take (i := 10) (oi := ?_) (v := ?_) ?_ ?_ ?_ ?_ ?_ ?_ (by exact hHeld) ?_
  rotate_left 2
  · (simp only [List.getElem?_toArray, List.getElem?_cons_zero, List.getElem?_cons_succ]; try rfl)
  · kernel_rfl
  · kernel_rfl
  · kernel_rfl
  · exact fun _ _ _ h => h
  · refine Or.inl ⟨by rfl, ?_⟩
    (intro V hSV; (try dsimp only at hSV); obtain ⟨q0, q1, q2, q3, q4⟩ := hSV; go_simp; try with_reducible rfl)
  (try simp only [Act.put, List.setIfInBounds_toArray, List.set_cons_zero, List.set_cons_succ])
  have HS4 := Lib.hid (HS.out.below HB4.out)
  have HE4 := Lib.hid (HE.out.below HB4.out)
  have HR4 := Lib.hid (HR.out.below HB4.out)
  have r0 := HR4.out.cell 0
  have r1 := HR4.out.cell 1
  have f0 := HR4.out.frozen 0
  have f1 := HR4.out.frozen 1
  refine wpAnyH_ready (rs := [11]) (by kernel_rfl) (by simp) ?_
  refine AllReadyH.cons (o := ?_) ?_ (fun K hK => ?_) AllReadyH.nil
  rotate_left 1
  · (simp only [List.getElem?_toArray, List.getElem?_cons_zero, List.getElem?_cons_succ]; try rfl)
  go_simp
  refine hK.out _ _ (by exact ⟨((HS4.out.setFar9 (by omega) 0 (.int .i64 x)).setFar9 (by omega) 1 (.int .i64 y)).cell 0, ((HS4.out.setFar9 (by omega) 0 (.int .i64 x)).setFar9 (by omega) 1 (.int .i64 y)).cell 1, ((HE4.out.setFar9 (by omega) 0 (.int .i64 x)).setFar9 (by omega) 1 (.int .i64 y)).cell 0, ((HE4.out.setFar9 (by omega) 0 (.int .i64 x)).setFar9 (by omega) 1 (.int .i64 y)).cell 1, ((HE4.out.setFar9 (by omega) 0 (.int .i64 x)).setFar9 (by omega) 1 (.int .i64 y)).cell 2⟩) (fun hHeld => ?_)
  clear hK K
  (try simp only [Act.put, List.setIfInBounds_toArray, List.set_cons_zero, List.set_cons_succ])
  refine wpAnyH_done (by kernel_rfl) ?_ _
  have hlt := HR4.out.lt
  have hB := below_then HAL.out HB4.out
  go_wp2
  refine bodyPost_ret (v := .agg #[.int .i64 x, .int .i64 y]) (by simp [results, Tryd.results60, go_sem, r0, r1]) rfl ⟨rfl, ?_⟩
  (repeat (first | exact Below.refl _ _ | assumption | refine Below.setCell ?_ (by first | (simp; done) | (simp; omega) | omega) _ | refine Below.drew ?_ | refine below_drewN ?_ _ | refine Below.alloc ?_ (by first | (simp; done) | (simp; omega) | omega) _))

set_option maxHeartbeats 8000000 in
theorem selMoved_ft (f t a m : Int) (A : Option Addr) (l : List UInt8) (c : Nat) (w : World) (hf : 0 ≤ f ∧ f ≤ 800) (ht : 0 ≤ t ∧ t ≤ 800) (hs : 0 ≤ a ∧ a ≤ 400 ∧ 0 ≤ m ∧ m ≤ 400 ∧ l.length ≤ 400) :
    Calls Tryd.prog 60 #[.agg #[.int .i64 f, .int .i64 t], .agg #[.int .i64 a, .int .i64 m, .slice A l.length c], .func (.func 62) #[] #[], .func (.func 61) #[] #[]] w fun e w' => e = .returned (.agg #[.int .i64 (mvTo f a m l.length a), .int .i64 (mvTo t a m l.length (a + l.length))]) ∧ Below w.heap.size w w' := by
  have hal := (((Below.refl w.heap.size w).alloc (Nat.le_refl _) (.cells #[.int .i64 f, .int .i64 t] 31)).alloc (by simp) (.cells #[.int .i64 a, .int .i64 m, .slice A l.length c] 25)).alloc (by simp; omega) (.cells #[.int .i64 0, .int .i64 0] 31)
  have bS := ((Blk.new w #[.int .i64 f, .int .i64 t] 31).below ((Below.refl _ _).alloc (Nat.le_refl _) (.cells #[.int .i64 a, .int .i64 m, .slice A l.length c] 25))).below ((Below.refl _ _).alloc (Nat.le_refl _) (.cells #[.int .i64 0, .int .i64 0] 31))
  have bE := (EBox.new (w.alloc (.cells #[.int .i64 f, .int .i64 t] 31)) a m A l.length c).below ((Below.refl _ _).alloc (Nat.le_refl _) (.cells #[.int .i64 0, .int .i64 0] 31))
  have bR := Blk.new ((w.alloc (.cells #[.int .i64 f, .int .i64 t] 31)).alloc (.cells #[.int .i64 a, .int .i64 m, .slice A l.length c] 25)) #[.int .i64 0, .int .i64 0] 31
  simp only [World.size_alloc] at bE bR
  obtain ⟨x, hx⟩ : ∃ x, mvTo f a m l.length a = x := ⟨_, rfl⟩
  obtain ⟨y, hy⟩ : ∃ y, mvTo t a m l.length (a + l.length) = y := ⟨_, rfl⟩
  have HX := Lib.hid hx
  have HY := Lib.hid hy
  rw [hx, hy]
  clear hx hy
  go_enter Tryd.func60, Tryd.ntmps60
  go_wp2_with fail
  generalize ((w.alloc (.cells #[.int .i64 f, .int .i64 t] 31)).alloc (.cells #[.int .i64 a, .int .i64 m, .slice A l.length c] 25)).alloc (.cells #[.int .i64 0, .int .i64 0] 31) = W1 at *
  have s0 := bS.cell 0
  have s1 := bS.cell 1
  have k0 := bE.c0
  have k1 := bE.c1
  have k2 := bE.c2
  have HS := Lib.hid bS
  have HE := Lib.hid bE.blk
  have HR := Lib.hid bR
  have HAL := Lib.hid hal
  clear bS bE bR hal
  refine wp_region_held_drew (S := (fun V => (V).cell? ⟨w.heap.size, 0, none⟩ = some (.int .i64 f) ∧ (V).cell? ⟨w.heap.size, 1, none⟩ = some (.int .i64 t) ∧ (V).cell? ⟨w.heap.size + 1, 0, none⟩ = some (.int .i64 a) ∧ (V).cell? ⟨w.heap.size + 1, 1, none⟩ = some (.int .i64 m) ∧ (V).cell? ⟨w.heap.size + 1, 2, none⟩ = some (.slice A l.length c))) (by kernel_rfl) (by exact ⟨s0, s1, k0, k1, k2⟩) (fun hHeld => ?_)
  clear s0 s1 k0 k1 k2
  refine wpAnyH_take (i := 0) (oi := ?_) (v := ?_) ?_ ?_ ?_ ?_ ?_ ?_ (by exact hHeld) ?_
  rotate_left 2
  · (simp only [List.getElem?_toArray, List.getElem?_cons_zero]; try rfl)
  · kernel_rfl
  · kernel_rfl
  · kernel_rfl
  · exact fun _ _ _ h => h
  · refine Or.inl ⟨by rfl, ?_⟩
    (intro V hSV; (try dsimp only at hSV); obtain ⟨q0, q1, q2, q3, q4⟩ := hSV; go_simp; try with_reducible rfl)
  (try simp only [Act.put, List.setIfInBounds_toArray, List.set_cons_zero, List.set_cons_succ])
  refine wpAnyH_take (i := 1) (oi := ?_) (v := ?_) ?_ ?_ ?_ ?_ ?_ ?_ (by exact hHeld) ?_
  rotate_left 2
  · (simp only [List.getElem?_toArray, List.getElem?_cons_zero, List.getElem?_cons_succ]; try rfl)
  · kernel_rfl
  · kernel_rfl
  · kernel_rfl
  · exact fun _ _ _ h => h
  · refine Or.inl ⟨by rfl, ?_⟩
    (intro V hSV; (try dsimp only at hSV); obtain ⟨q0, q1, q2, q3, q4⟩ := hSV; go_simp; try with_reducible rfl)
  (try simp only [Act.put, List.setIfInBounds_toArray, List.set_cons_zero, List.set_cons_succ])
  refine wpAnyH_take (i := 2) (oi := ?_) (v := ?_) ?_ ?_ ?_ ?_ ?_ ?_ (by exact hHeld) ?_
  rotate_left 2
  · (simp only [List.getElem?_toArray, List.getElem?_cons_zero, List.getElem?_cons_succ]; try rfl)
  · kernel_rfl
  · kernel_rfl
  · kernel_rfl
  · exact fun _ _ _ h => h
  · refine Or.inl ⟨by rfl, ?_⟩
    (intro V hSV; (try dsimp only at hSV); obtain ⟨q0, q1, q2, q3, q4⟩ := hSV; go_simp; try with_reducible rfl)
  (try simp only [Act.put, List.setIfInBounds_toArray, List.set_cons_zero, List.set_cons_succ])
  refine wpAnyH_take (i := 3) (oi := ?_) (v := ?_) ?_ ?_ ?_ ?_ ?_ ?_ (by exact hHeld) ?_
  rotate_left 2
  · (simp only [List.getElem?_toArray, List.getElem?_cons_zero, List.getElem?_cons_succ]; try rfl)
  · kernel_rfl
  · kernel_rfl
  · kernel_rfl
  · exact fun _ _ _ h => h
  · refine Or.inl ⟨by rfl, ?_⟩
    (intro V hSV; (try dsimp only at hSV); obtain ⟨q0, q1, q2, q3, q4⟩ := hSV; go_simp; try with_reducible rfl)
  (try simp only [Act.put, List.setIfInBounds_toArray, List.set_cons_zero, List.set_cons_succ])
  refine wpAnyH_take (i := 5) (oi := ?_) (v := ?_) ?_ ?_ ?_ ?_ ?_ ?_ (by exact hHeld) ?_
  rotate_left 2
  · (simp only [List.getElem?_toArray, List.getElem?_cons_zero, List.getElem?_cons_succ]; try rfl)
  · kernel_rfl
  · kernel_rfl
  · kernel_rfl
  · exact fun _ _ _ h => h
  · refine Or.inl ⟨by rfl, ?_⟩
    (intro V hSV; (try dsimp only at hSV); obtain ⟨q0, q1, q2, q3, q4⟩ := hSV; go_simp; try with_reducible rfl)
  (try simp only [Act.put, List.setIfInBounds_toArray, List.set_cons_zero, List.set_cons_succ])
  refine wpAnyH_take (i := 6) (oi := ?_) (v := ?_) ?_ ?_ ?_ ?_ ?_ ?_ (by exact hHeld) ?_
  rotate_left 2
  · (simp only [List.getElem?_toArray, List.getElem?_cons_zero, List.getElem?_cons_succ]; try rfl)
  · kernel_rfl
  · kernel_rfl
  · kernel_rfl
  · exact fun _ _ _ h => h
  · refine Or.inl ⟨by rfl, ?_⟩
    (intro V hSV; (try dsimp only at hSV); obtain ⟨q0, q1, q2, q3, q4⟩ := hSV; go_simp; try with_reducible rfl)
  (try simp only [Act.put, List.setIfInBounds_toArray, List.set_cons_zero, List.set_cons_succ])
  refine wpAnyH_take (i := 7) (oi := ?_) (v := ?_) ?_ ?_ ?_ ?_ ?_ ?_ (by exact hHeld) ?_
  rotate_left 2
  · (simp only [List.getElem?_toArray, List.getElem?_cons_zero, List.getElem?_cons_succ]; try rfl)
  · kernel_rfl
  · kernel_rfl
  · kernel_rfl
  · exact fun _ _ _ h => h
  · refine Or.inl ⟨by rfl, ?_⟩
    (intro V hSV; (try dsimp only at hSV); obtain ⟨q0, q1, q2, q3, q4⟩ := hSV; go_simp; try with_reducible rfl)
  (try simp only [Act.put, List.setIfInBounds_toArray, List.set_cons_zero, List.set_cons_succ])
  refine wpAnyH_take (i := 8) (oi := ?_) (v := ?_) ?_ ?_ ?_ ?_ ?_ ?_ (by exact hHeld) ?_
  rotate_left 2
  · (simp only [List.getElem?_toArray, List.getElem?_cons_zero, List.getElem?_cons_succ]; try rfl)
  · kernel_rfl
  · kernel_rfl
  · kernel_rfl
  · exact fun _ _ _ h => h
  · refine Or.inl ⟨by rfl, ?_⟩
    (intro V hSV; (try dsimp only at hSV); obtain ⟨q0, q1, q2, q3, q4⟩ := hSV; go_simp; try with_reducible rfl)
  (try simp only [Act.put, List.setIfInBounds_toArray, List.set_cons_zero, List.set_cons_succ])
  refine wpAnyH_ready (rs := [4]) (by kernel_rfl) (by simp) ?_
  refine AllReadyH.cons rfl (fun K hK => ?_) AllReadyH.nil
  go_simp
  refine (edBefore_any f a m A l c _ hf hs).mono ?_
  rintro e w3 ⟨rfl, hb⟩
  rw [HX.out]
  have hb : Below W1.heap.size W1 w3 := ⟨hb.os, hb.tape, hb.output, hb.size, hb.block⟩
  have HB3 := Lib.hid hb
  clear hb
  go_wp2_with fail
  refine hK.out _ _ (by exact ⟨(HS.out.below HB3.out).cell 0, (HS.out.below HB3.out).cell 1, (HE.out.below HB3.out).cell 0, (HE.out.below HB3.out).cell 1, (HE.out.below HB3.out).cell 2⟩) (fun hHeld => ?_)
  clear hK K
  (try simp only [Act.put, List.setIfInBounds_toArray, List.set_cons_zero, List.set_cons_succ])
  refine wpAnyH_ready (rs := [9]) (by kernel_rfl) (by simp) ?_
  refine AllReadyH.cons rfl (fun K hK => ?_) AllReadyH.nil
  go_simp
  refine (edBehind_any t a m A l c _ ht hs).mono ?_
  rintro e w4 ⟨rfl, hb⟩
  rw [HY.out]
  have hb : Below w3.heap.size w3 w4 := ⟨hb.os, hb.tape, hb.output, hb.size, hb.block⟩
  have HB4 := Lib.hid (below_then HB3.out hb)
  clear hb
  go_wp2_with fail
  refine hK.out _ _ (by exact ⟨(HS.out.below HB4.out).cell 0, (HS.out.below HB4.out).cell 1, (HE.out.below HB4.out).cell 0, (HE.out.below HB4.out).cell 1, (HE.out.below HB4.out).cell 2⟩) (fun hHeld => ?_)
  clear hK K
  (try simp only [Act.put, List.setIfInBounds_toArray, List.set_cons_zero, List.set_cons_succ])
  refine wpAnyH_take (i := 10) (oi := ?_) (v := ?_) ?_ ?_ ?_ ?_ ?_ ?_ (by exact hHeld) ?_
  rotate_left 2
  · (simp only [List.getElem?_toArray, List.getElem?_cons_zero, List.getElem?_cons_succ]; try rfl)
  · kernel_rfl
  · kernel_rfl
  · kernel_rfl
  · exact fun _ _ _ h => h
  · refine Or.inl ⟨by rfl, ?_⟩
    (intro V hSV; (try dsimp only at hSV); obtain ⟨q0, q1, q2, q3, q4⟩ := hSV; go_simp; try with_reducible rfl)
  (try simp only [Act.put, List.setIfInBounds_toArray, List.set_cons_zero, List.set_cons_succ])
  have HS4 := Lib.hid (HS.out.below HB4.out)
  have HE4 := Lib.hid (HE.out.below HB4.out)
  have HR4 := Lib.hid (HR.out.below HB4.out)
  have r0 := HR4.out.cell 0
  have r1 := HR4.out.cell 1
  have f0 := HR4.out.frozen 0
  have f1 := HR4.out.frozen 1
  refine wpAnyH_ready (rs := [11]) (by kernel_rfl) (by simp) ?_
  refine AllReadyH.cons (o := ?_) ?_ (fun K hK => ?_) AllReadyH.nil
  rotate_left 1
  · (simp only [List.getElem?_toArray, List.getElem?_cons_zero, List.getElem?_cons_succ]; try rfl)
  go_simp
  refine hK.out _ _ (by exact ⟨((HS4.out.setFar9 (by omega) 0 (.int .i64 x)).setFar9 (by omega) 1 (.int .i64 y)).cell 0, ((HS4.out.setFar9 (by omega) 0 (.int .i64 x)).setFar9 (by omega) 1 (.int .i64 y)).cell 1, ((HE4.out.setFar9 (by omega) 0 (.int .i64 x)).setFar9 (by omega) 1 (.int .i64 y)).cell 0, ((HE4.out.setFar9 (by omega) 0 (.int .i64 x)).setFar9 (by omega) 1 (.int .i64 y)).cell 1, ((HE4.out.setFar9 (by omega) 0 (.int .i64 x)).setFar9 (by omega) 1 (.int .i64 y)).cell 2⟩) (fun hHeld => ?_)
  clear hK K
  (try simp only [Act.put, List.setIfInBounds_toArray, List.set_cons_zero, List.set_cons_succ])
  refine wpAnyH_done (by kernel_rfl) ?_ _
  have hlt := HR4.out.lt
  have hB := below_then HAL.out HB4.out
  go_wp2
  refine bodyPost_ret (v := .agg #[.int .i64 x, .int .i64 y]) (by simp [results, Tryd.results60, go_sem, r0, r1]) rfl ⟨rfl, ?_⟩
  (repeat (first | exact Below.refl _ _ | assumption | refine Below.setCell ?_ (by first | (simp; done) | (simp; omega) | omega) _ | refine Below.drew ?_ | refine below_drewN ?_ _ | refine Below.alloc ?_ (by first | (simp; done) | (simp; omega) | omega) _))

set_option maxHeartbeats 8000000 in
theorem selMoved_tf (f t a m : Int) (A : Option Addr) (l : List UInt8) (c : Nat) (w : World) (hf : 0 ≤ f ∧ f ≤ 800) (ht : 0 ≤ t ∧ t ≤ 800) (hs : 0 ≤ a ∧ a ≤ 400 ∧ 0 ≤ m ∧ m ≤ 400 ∧ l.length ≤ 400) :
    Calls Tryd.prog 60 #[.agg #[.int .i64 f, .int .i64 t], .agg #[.int .i64 a, .int .i64 m, .slice A l.length c], .func (.func 61) #[] #[], .func (.func 62) #[] #[]] w fun e w' => e = .returned (.agg #[.int .i64 (mvTo f a m l.length (a + l.length)), .int .i64 (mvTo t a m l.length a)]) ∧ Below w.heap.size w w' := by
  have hal := (((Below.refl w.heap.size w).alloc (Nat.le_refl _) (.cells #[.int .i64 f, .int .i64 t] 31)).alloc (by simp) (.cells #[.int .i64 a, .int .i64 m, .slice A l.length c] 25)).alloc (by simp; omega) (.cells #[.int .i64 0, .int .i64 0] 31)
  have bS := ((Blk.new w #[.int .i64 f, .int .i64 t] 31).below ((Below.refl _ _).alloc (Nat.le_refl _) (.cells #[.int .i64 a, .int .i64 m, .slice A l.length c] 25))).below ((Below.refl _ _).alloc (Nat.le_refl _) (.cells #[.int .i64 0, .int .i64 0] 31))
  have bE := (EBox.new (w.alloc (.cells #[.int .i64 f, .int .i64 t] 31)) a m A l.length c).below ((Below.refl _ _).alloc (Nat.le_refl _) (.cells #[.int .i64 0, .int .i64 0] 31))
  have bR := Blk.new ((w.alloc (.cells #[.int .i64 f, .int .i64 t] 31)).alloc (.cells #[.int .i64 a, .int .i64 m, .slice A l.length c] 25)) #[.int .i64 0, .int .i64 0] 31
  simp only [World.size_alloc] at bE bR
  obtain ⟨x, hx⟩ : ∃ x, mvTo f a m l.length (a + l.length) = x := ⟨_, rfl⟩
  obtain ⟨y, hy⟩ : ∃ y, mvTo t a m l.length a = y := ⟨_, rfl⟩
  have HX := Lib.hid hx
  have HY := Lib.hid hy
  rw [hx, hy]
  clear hx hy
  go_enter Tryd.func60, Tryd.ntmps60
  go_wp2_with fail
  generalize ((w.alloc (.cells #[.int .i64 f, .int .i64 t] 31)).alloc (.cells #[.int .i64 a, .int .i64 m, .slice A l.length c] 25)).alloc (.cells #[.int .i64 0, .int .i64 0] 31) = W1 at *
  have s0 := bS.cell 0
  have s1 := bS.cell 1
  have k0 := bE.c0
  have k1 := bE.c1
  have k2 := bE.c2
  have HS := Lib.hid bS
  have HE := Lib.hid bE.blk
  have HR := Lib.hid bR
  have HAL := Lib.hid hal
  clear bS bE bR hal
  refine wp_region_held_drew (S := (fun V => (V).cell? ⟨w.heap.size, 0, none⟩ = some (.int .i64 f) ∧ (V).cell? ⟨w.heap.size, 1, none⟩ = some (.int .i64 t) ∧ (V).cell? ⟨w.heap.size + 1, 0, none⟩ = some (.int .i64 a) ∧ (V).cell? ⟨w.heap.size + 1, 1, none⟩ = some (.int .i64 m) ∧ (V).cell? ⟨w.heap.size + 1, 2, none⟩ = some (.slice A l.length c))) (by kernel_rfl) (by exact ⟨s0, s1, k0, k1, k2⟩) (fun hHeld => ?_)
  clear s0 s1 k0 k1 k2
  refine wpAnyH_take (i := 0) (oi := ?_) (v := ?_) ?_ ?_ ?_ ?_ ?_ ?_ (by exact hHeld) ?_
  rotate_left 2
  · (simp only [List.getElem?_toArray, List.getElem?_cons_zero]; try rfl)
  · kernel_rfl
  · kernel_rfl
  · kernel_rfl
  · exact fun _ _ _ h => h
  · refine Or.inl ⟨by rfl, ?_⟩
    (intro V hSV; (try dsimp only at hSV); obtain ⟨q0, q1, q2, q3, q4⟩ := hSV; go_simp; try with_reducible rfl)
  (try simp only [Act.put, List.setIfInBounds_toArray, List.set_cons_zero, List.set_cons_succ])
  refine wpAnyH_take (i := 1) (oi := ?_) (v := ?_) ?_ ?_ ?_ ?_ ?_ ?_ (by exact hHeld) ?_
  rotate_left 2
  · (simp only [List.getElem?_toArray, List.getElem?_cons_zero, List.getElem?_cons_succ]; try rfl)
  · kernel_rfl
  · kernel_rfl
  · kernel_rfl
  · exact fun _ _ _ h => h
  · refine Or.inl ⟨by rfl, ?_⟩
    (intro V hSV; (try dsimp only at hSV); obtain ⟨q0, q1, q2, q3, q4⟩ := hSV; go_simp; try with_reducible rfl)
  (try simp only [Act.put, List.setIfInBounds_toArray, List.set_cons_zero, List.set_cons_succ])
  refine wpAnyH_take (i := 2) (oi := ?_) (v := ?_) ?_ ?_ ?_ ?_ ?_ ?_ (by exact hHeld) ?_
  rotate_left 2
  · (simp only [List.getElem?_toArray, List.getElem?_cons_zero, List.getElem?_cons_succ]; try rfl)
  · kernel_rfl
  · kernel_rfl
  · kernel_rfl
  · exact fun _ _ _ h => h
  · refine Or.inl ⟨by rfl, ?_⟩
    (intro V hSV; (try dsimp only at hSV); obtain ⟨q0, q1, q2, q3, q4⟩ := hSV; go_simp; try with_reducible rfl)
  (try simp only [Act.put, List.setIfInBounds_toArray, List.set_cons_zero, List.set_cons_succ])
  refine wpAnyH_take (i := 3) (oi := ?_) (v := ?_) ?_ ?_ ?_ ?_ ?_ ?_ (by exact hHeld) ?_
  rotate_left 2
  · (simp only [List.getElem?_toArray, List.getElem?_cons_zero, List.getElem?_cons_succ]; try rfl)
  · kernel_rfl
  · kernel_rfl
  · kernel_rfl
  · exact fun _ _ _ h => h
  · refine Or.inl ⟨by rfl, ?_⟩
    (intro V hSV; (try dsimp only at hSV); obtain ⟨q0, q1, q2, q3, q4⟩ := hSV; go_simp; try with_reducible rfl)
  (try simp only [Act.put, List.setIfInBounds_toArray, List.set_cons_zero, List.set_cons_succ])
  refine wpAnyH_take (i := 5) (oi := ?_) (v := ?_) ?_ ?_ ?_ ?_ ?_ ?_ (by exact hHeld) ?_
  rotate_left 2
  · (simp only [List.getElem?_toArray, List.getElem?_cons_zero, List.getElem?_cons_succ]; try rfl)
  · kernel_rfl
  · kernel_rfl
  · kernel_rfl
  · exact fun _ _ _ h => h
  · refine Or.inl ⟨by rfl, ?_⟩
    (intro V hSV; (try dsimp only at hSV); obtain ⟨q0, q1, q2, q3, q4⟩ := hSV; go_simp; try with_reducible rfl)
  (try simp only [Act.put, List.setIfInBounds_toArray, List.set_cons_zero, List.set_cons_succ])
  refine wpAnyH_take (i := 6) (oi := ?_) (v := ?_) ?_ ?_ ?_ ?_ ?_ ?_ (by exact hHeld) ?_
  rotate_left 2
  · (simp only [List.getElem?_toArray, List.getElem?_cons_zero, List.getElem?_cons_succ]; try rfl)
  · kernel_rfl
  · kernel_rfl
  · kernel_rfl
  · exact fun _ _ _ h => h
  · refine Or.inl ⟨by rfl, ?_⟩
    (intro V hSV; (try dsimp only at hSV); obtain ⟨q0, q1, q2, q3, q4⟩ := hSV; go_simp; try with_reducible rfl)
  (try simp only [Act.put, List.setIfInBounds_toArray, List.set_cons_zero, List.set_cons_succ])
  refine wpAnyH_take (i := 7) (oi := ?_) (v := ?_) ?_ ?_ ?_ ?_ ?_ ?_ (by exact hHeld) ?_
  rotate_left 2
  · (simp only [List.getElem?_toArray, List.getElem?_cons_zero, List.getElem?_cons_succ]; try rfl)
  · kernel_rfl
  · kernel_rfl
  · kernel_rfl
  · exact fun _ _ _ h => h
  · refine Or.inl ⟨by rfl, ?_⟩
    (intro V hSV; (try dsimp only at hSV); obtain ⟨q0, q1, q2, q3, q4⟩ := hSV; go_simp; try with_reducible rfl)
  (try simp only [Act.put, List.setIfInBounds_toArray, List.set_cons_zero, List.set_cons_succ])
  refine wpAnyH_take (i := 8) (oi := ?_) (v := ?_) ?_ ?_ ?_ ?_ ?_ ?_ (by exact hHeld) ?_
  rotate_left 2
  · (simp only [List.getElem?_toArray, List.getElem?_cons_zero, List.getElem?_cons_succ]; try rfl)
  · kernel_rfl
  · kernel_rfl
  · kernel_rfl
  · exact fun _ _ _ h => h
  · refine Or.inl ⟨by rfl, ?_⟩
    (intro V hSV; (try dsimp only at hSV); obtain ⟨q0, q1, q2, q3, q4⟩ := hSV; go_simp; try with_reducible rfl)
  (try simp only [Act.put, List.setIfInBounds_toArray, List.set_cons_zero, List.set_cons_succ])
  refine wpAnyH_ready (rs := [4]) (by kernel_rfl) (by simp) ?_
  refine AllReadyH.cons rfl (fun K hK => ?_) AllReadyH.nil
  go_simp
  refine (edBehind_any f a m A l c _ hf hs).mono ?_
  rintro e w3 ⟨rfl, hb⟩
  rw [HX.out]
  have hb : Below W1.heap.size W1 w3 := ⟨hb.os, hb.tape, hb.output, hb.size, hb.block⟩
  have HB3 := Lib.hid hb
  clear hb
  go_wp2_with fail
  refine hK.out _ _ (by exact ⟨(HS.out.below HB3.out).cell 0, (HS.out.below HB3.out).cell 1, (HE.out.below HB3.out).cell 0, (HE.out.below HB3.out).cell 1, (HE.out.below HB3.out).cell 2⟩) (fun hHeld => ?_)
  clear hK K
  (try simp only [Act.put, List.setIfInBounds_toArray, List.set_cons_zero, List.set_cons_succ])
  refine wpAnyH_ready (rs := [9]) (by kernel_rfl) (by simp) ?_
  refine AllReadyH.cons rfl (fun K hK => ?_) AllReadyH.nil
  go_simp
  refine (edBefore_any t a m A l c _ ht hs).mono ?_
  rintro e w4 ⟨rfl, hb⟩
  rw [HY.out]
  have hb : Below w3.heap.size w3 w4 := ⟨hb.os, hb.tape, hb.output, hb.size, hb.block⟩
  have HB4 := Lib.hid (below_then HB3.out hb)
  clear hb
  go_wp2_with fail
  refine hK.out _ _ (by exact ⟨(HS.out.below HB4.out).cell 0, (HS.out.below HB4.out).cell 1, (HE.out.below HB4.out).cell 0, (HE.out.below HB4.out).cell 1, (HE.out.below HB4.out).cell 2⟩) (fun hHeld => ?_)
  clear hK K
  (try simp only [Act.put, List.setIfInBounds_toArray, List.set_cons_zero, List.set_cons_succ])
  refine wpAnyH_take (i := 10) (oi := ?_) (v := ?_) ?_ ?_ ?_ ?_ ?_ ?_ (by exact hHeld) ?_
  rotate_left 2
  · (simp only [List.getElem?_toArray, List.getElem?_cons_zero, List.getElem?_cons_succ]; try rfl)
  · kernel_rfl
  · kernel_rfl
  · kernel_rfl
  · exact fun _ _ _ h => h
  · refine Or.inl ⟨by rfl, ?_⟩
    (intro V hSV; (try dsimp only at hSV); obtain ⟨q0, q1, q2, q3, q4⟩ := hSV; go_simp; try with_reducible rfl)
  (try simp only [Act.put, List.setIfInBounds_toArray, List.set_cons_zero, List.set_cons_succ])
  have HS4 := Lib.hid (HS.out.below HB4.out)
  have HE4 := Lib.hid (HE.out.below HB4.out)
  have HR4 := Lib.hid (HR.out.below HB4.out)
  have r0 := HR4.out.cell 0
  have r1 := HR4.out.cell 1
  have f0 := HR4.out.frozen 0
  have f1 := HR4.out.frozen 1
  refine wpAnyH_ready (rs := [11]) (by kernel_rfl) (by simp) ?_
  refine AllReadyH.cons (o := ?_) ?_ (fun K hK => ?_) AllReadyH.nil
  rotate_left 1
  · (simp only [List.getElem?_toArray, List.getElem?_cons_zero, List.getElem?_cons_succ]; try rfl)
  go_simp
  refine hK.out _ _ (by exact ⟨((HS4.out.setFar9 (by omega) 0 (.int .i64 x)).setFar9 (by omega) 1 (.int .i64 y)).cell 0, ((HS4.out.setFar9 (by omega) 0 (.int .i64 x)).setFar9 (by omega) 1 (.int .i64 y)).cell 1, ((HE4.out.setFar9 (by omega) 0 (.int .i64 x)).setFar9 (by omega) 1 (.int .i64 y)).cell 0, ((HE4.out.setFar9 (by omega) 0 (.int .i64 x)).setFar9 (by omega) 1 (.int .i64 y)).cell 1, ((HE4.out.setFar9 (by omega) 0 (.int .i64 x)).setFar9 (by omega) 1 (.int .i64 y)).cell 2⟩) (fun hHeld => ?_)
  clear hK K
  (try simp only [Act.put, List.setIfInBounds_toArray, List.set_cons_zero, List.set_cons_succ])
  refine wpAnyH_done (by kernel_rfl) ?_ _
  have hlt := HR4.out.lt
  have hB := below_then HAL.out HB4.out
  go_wp2
  refine bodyPost_ret (v := .agg #[.int .i64 x, .int .i64 y]) (by simp [results, Tryd.results60, go_sem, r0, r1]) rfl ⟨rfl, ?_⟩
  (repeat (first | exact Below.refl _ _ | assumption | refine Below.setCell ?_ (by first | (simp; done) | (simp; omega) | omega) _ | refine Below.drew ?_ | refine below_drewN ?_ _ | refine Below.alloc ?_ (by first | (simp; done) | (simp; omega) | omega) _))

set_option maxHeartbeats 8000000 in
theorem selMoved_tt (f t a m : Int) (A : Option Addr) (l : List UInt8) (c : Nat) (w : World) (hf : 0 ≤ f ∧ f ≤ 800) (ht : 0 ≤ t ∧ t ≤ 800) (hs : 0 ≤ a ∧ a ≤ 400 ∧ 0 ≤ m ∧ m ≤ 400 ∧ l.length ≤ 400) :
    Calls Tryd.prog 60 #[.agg #[.int .i64 f, .int .i64 t], .agg #[.int .i64 a, .int .i64 m, .slice A l.length c], .func (.func 61) #[] #[], .func (.func 61) #[] #[]] w fun e w' => e = .returned (.agg #[.int .i64 (mvTo f a m l.length (a + l.length)), .int .i64 (mvTo t a m l.length (a + l.length))]) ∧ Below w.heap.size w w' := by
  have hal := (((Below.refl w.heap.size w).alloc (Nat.le_refl _) (.cells #[.int .i64 f, .int .i64 t] 31)).alloc (by simp) (.cells #[.int .i64 a, .int .i64 m, .slice A l.length c] 25)).alloc (by simp; omega) (.cells #[.int .i64 0, .int .i64 0] 31)
  have bS := ((Blk.new w #[.int .i64 f, .int .i64 t] 31).below ((Below.refl _ _).alloc (Nat.le_refl _) (.cells #[.int .i64 a, .int .i64 m, .slice A l.length c] 25))).below ((Below.refl _ _).alloc (Nat.le_refl _) (.cells #[.int .i64 0, .int .i64 0] 31))
  have bE := (EBox.new (w.alloc (.cells #[.int .i64 f, .int .i64 t] 31)) a m A l.length c).below ((Below.refl _ _).alloc (Nat.le_refl _) (.cells #[.int .i64 0, .int .i64 0] 31))
  have bR := Blk.new ((w.alloc (.cells #[.int .i64 f, .int .i64 t] 31)).alloc (.cells #[.int .i64 a, .int .i64 m, .slice A l.length c] 25)) #[.int .i64 0, .int .i64 0] 31
  simp only [World.size_alloc] at bE bR
  obtain ⟨x, hx⟩ : ∃ x, mvTo f a m l.length (a + l.length) = x := ⟨_, rfl⟩
  obtain ⟨y, hy⟩ : ∃ y, mvTo t a m l.length (a + l.length) = y := ⟨_, rfl⟩
  have HX := Lib.hid hx
  have HY := Lib.hid hy
  rw [hx, hy]
  clear hx hy
  go_enter Tryd.func60, Tryd.ntmps60
  go_wp2_with fail
  generalize ((w.alloc (.cells #[.int .i64 f, .int .i64 t] 31)).alloc (.cells #[.int .i64 a, .int .i64 m, .slice A l.length c] 25)).alloc (.cells #[.int .i64 0, .int .i64 0] 31) = W1 at *
  have s0 := bS.cell 0
  have s1 := bS.cell 1
  have k0 := bE.c0
  have k1 := bE.c1
  have k2 := bE.c2
  have HS := Lib.hid bS
  have HE := Lib.hid bE.blk
  have HR := Lib.hid bR
  have HAL := Lib.hid hal
  clear bS bE bR hal
  refine wp_region_held_drew (S := (fun V => (V).cell? ⟨w.heap.size, 0, none⟩ = some (.int .i64 f) ∧ (V).cell? ⟨w.heap.size, 1, none⟩ = some (.int .i64 t) ∧ (V).cell? ⟨w.heap.size + 1, 0, none⟩ = some (.int .i64 a) ∧ (V).cell? ⟨w.heap.size + 1, 1, none⟩ = some (.int .i64 m) ∧ (V).cell? ⟨w.heap.size + 1, 2, none⟩ = some (.slice A l.length c))) (by kernel_rfl) (by exact ⟨s0, s1, k0, k1, k2⟩) (fun hHeld => ?_)
  clear s0 s1 k0 k1 k2
  refine wpAnyH_take (i := 0) (oi := ?_) (v := ?_) ?_ ?_ ?_ ?_ ?_ ?_ (by exact hHeld) ?_
  rotate_left 2
  · (simp only [List.getElem?_toArray, List.getElem?_cons_zero]; try rfl)
  · kernel_rfl
  · kernel_rfl
  · kernel_rfl
  · exact fun _ _ _ h => h
  · refine Or.inl ⟨by rfl, ?_⟩
    (intro V hSV; (try dsimp only at hSV); obtain ⟨q0, q1, q2, q3, q4⟩ := hSV; go_simp; try with_reducible rfl)
  (try simp only [Act.put, List.setIfInBounds_toArray, List.set_cons_zero, List.set_cons_succ])
  refine wpAnyH_take (i := 1) (oi := ?_) (v := ?_) ?_ ?_ ?_ ?_ ?_ ?_ (by exact hHeld) ?_
  rotate_left 2
  · (simp only [List.getElem?_toArray, List.getElem?_cons_zero, List.getElem?_cons_succ]; try rfl)
  · kernel_rfl
  · kernel_rfl
  · kernel_rfl
  · exact fun _ _ _ h => h
  · refine Or.inl ⟨by rfl, ?_⟩
    (intro V hSV; (try dsimp only at hSV); obtain ⟨q0, q1, q2, q3, q4⟩ := hSV; go_simp; try with_reducible rfl)
  (try simp only [Act.put, List.setIfInBounds_toArray, List.set_cons_zero, List.set_cons_succ])
  refine wpAnyH_take (i := 2) (oi := ?_) (v := ?_) ?_ ?_ ?_ ?_ ?_ ?_ (by exact hHeld) ?_
  rotate_left 2
  · (simp only [List.getElem?_toArray, List.getElem?_cons_zero, List.getElem?_cons_succ]; try rfl)
  · kernel_rfl
  · kernel_rfl
  · kernel_rfl
  · exact fun _ _ _ h => h
  · refine Or.inl ⟨by rfl, ?_⟩
    (intro V hSV; (try dsimp only at hSV); obtain ⟨q0, q1, q2, q3, q4⟩ := hSV; go_simp; try with_reducible rfl)
  (try simp only [Act.put, List.setIfInBounds_toArray, List.set_cons_zero, List.set_cons_succ])
  refine wpAnyH_take (i := 3) (oi := ?_) (v := ?_) ?_ ?_ ?_ ?_ ?_ ?_ (by exact hHeld) ?_
  rotate_left 2
  · (simp only [List.getElem?_toArray, List.getElem?_cons_zero, List.getElem?_cons_succ]; try rfl)
  · kernel_rfl
  · kernel_rfl
  · kernel_rfl
  · exact fun _ _ _ h => h
  · refine Or.inl ⟨by rfl, ?_⟩
    (intro V hSV; (try dsimp only at hSV); obtain ⟨q0, q1, q2, q3, q4⟩ := hSV; go_simp; try with_reducible rfl)
  (try simp only [Act.put, List.setIfInBounds_toArray, List.set_cons_zero, List.set_cons_succ])
  refine wpAnyH_take (i := 5) (oi := ?_) (v := ?_) ?_ ?_ ?_ ?_ ?_ ?_ (by exact hHeld) ?_
  rotate_left 2
  · (simp only [List.getElem?_toArray, List.getElem?_cons_zero, List.getElem?_cons_succ]; try rfl)
  · kernel_rfl
  · kernel_rfl
  · kernel_rfl
  · exact fun _ _ _ h => h
  · refine Or.inl ⟨by rfl, ?_⟩
    (intro V hSV; (try dsimp only at hSV); obtain ⟨q0, q1, q2, q3, q4⟩ := hSV; go_simp; try with_reducible rfl)
  (try simp only [Act.put, List.setIfInBounds_toArray, List.set_cons_zero, List.set_cons_succ])
  refine wpAnyH_take (i := 6) (oi := ?_) (v := ?_) ?_ ?_ ?_ ?_ ?_ ?_ (by exact hHeld) ?_
  rotate_left 2
  · (simp only [List.getElem?_toArray, List.getElem?_cons_zero, List.getElem?_cons_succ]; try rfl)
  · kernel_rfl
  · kernel_rfl
  · kernel_rfl
  · exact fun _ _ _ h => h
  · refine Or.inl ⟨by rfl, ?_⟩
    (intro V hSV; (try dsimp only at hSV); obtain ⟨q0, q1, q2, q3, q4⟩ := hSV; go_simp; try with_reducible rfl)
  (try simp only [Act.put, List.setIfInBounds_toArray, List.set_cons_zero, List.set_cons_succ])
  refine wpAnyH_take (i := 7) (oi := ?_) (v := ?_) ?_ ?_ ?_ ?_ ?_ ?_ (by exact hHeld) ?_
  rotate_left 2
  · (simp only [List.getElem?_toArray, List.getElem?_cons_zero, List.getElem?_cons_succ]; try rfl)
  · kernel_rfl
  · kernel_rfl
  · kernel_rfl
  · exact fun _ _ _ h => h
  · refine Or.inl ⟨by rfl, ?_⟩
    (intro V hSV; (try dsimp only at hSV); obtain ⟨q0, q1, q2, q3, q4⟩ := hSV; go_simp; try with_reducible rfl)
  (try simp only [Act.put, List.setIfInBounds_toArray, List.set_cons_zero, List.set_cons_succ])
  refine wpAnyH_take (i := 8) (oi := ?_) (v := ?_) ?_ ?_ ?_ ?_ ?_ ?_ (by exact hHeld) ?_
  rotate_left 2
  · (simp only [List.getElem?_toArray, List.getElem?_cons_zero, List.getElem?_cons_succ]; try rfl)
  · kernel_rfl
  · kernel_rfl
  · kernel_rfl
  · exact fun _ _ _ h => h
  · refine Or.inl ⟨by rfl, ?_⟩
    (intro V hSV; (try dsimp only at hSV); obtain ⟨q0, q1, q2, q3, q4⟩ := hSV; go_simp; try with_reducible rfl)
  (try simp only [Act.put, List.setIfInBounds_toArray, List.set_cons_zero, List.set_cons_succ])
  refine wpAnyH_ready (rs := [4]) (by kernel_rfl) (by simp) ?_
  refine AllReadyH.cons rfl (fun K hK => ?_) AllReadyH.nil
  go_simp
  refine (edBehind_any f a m A l c _ hf hs).mono ?_
  rintro e w3 ⟨rfl, hb⟩
  rw [HX.out]
  have hb : Below W1.heap.size W1 w3 := ⟨hb.os, hb.tape, hb.output, hb.size, hb.block⟩
  have HB3 := Lib.hid hb
  clear hb
  go_wp2_with fail
  refine hK.out _ _ (by exact ⟨(HS.out.below HB3.out).cell 0, (HS.out.below HB3.out).cell 1, (HE.out.below HB3.out).cell 0, (HE.out.below HB3.out).cell 1, (HE.out.below HB3.out).cell 2⟩) (fun hHeld => ?_)
  clear hK K
  (try simp only [Act.put, List.setIfInBounds_toArray, List.set_cons_zero, List.set_cons_succ])
  refine wpAnyH_ready (rs := [9]) (by kernel_rfl) (by simp) ?_
  refine AllReadyH.cons rfl (fun K hK => ?_) AllReadyH.nil
  go_simp
  refine (edBehind_any t a m A l c _ ht hs).mono ?_
  rintro e w4 ⟨rfl, hb⟩
  rw [HY.out]
  have hb : Below w3.heap.size w3 w4 := ⟨hb.os, hb.tape, hb.output, hb.size, hb.block⟩
  have HB4 := Lib.hid (below_then HB3.out hb)
  clear hb
  go_wp2_with fail
  refine hK.out _ _ (by exact ⟨(HS.out.below HB4.out).cell 0, (HS.out.below HB4.out).cell 1, (HE.out.below HB4.out).cell 0, (HE.out.below HB4.out).cell 1, (HE.out.below HB4.out).cell 2⟩) (fun hHeld => ?_)
  clear hK K
  (try simp only [Act.put, List.setIfInBounds_toArray, List.set_cons_zero, List.set_cons_succ])
  refine wpAnyH_take (i := 10) (oi := ?_) (v := ?_) ?_ ?_ ?_ ?_ ?_ ?_ (by exact hHeld) ?_
  rotate_left 2
  · (simp only [List.getElem?_toArray, List.getElem?_cons_zero, List.getElem?_cons_succ]; try rfl)
  · kernel_rfl
  · kernel_rfl
  · kernel_rfl
  · exact fun _ _ _ h => h
  · refine Or.inl ⟨by rfl, ?_⟩
    (intro V hSV; (try dsimp only at hSV); obtain ⟨q0, q1, q2, q3, q4⟩ := hSV; go_simp; try with_reducible rfl)
  (try simp only [Act.put, List.setIfInBounds_toArray, List.set_cons_zero, List.set_cons_succ])
  have HS4 := Lib.hid (HS.out.below HB4.out)
  have HE4 := Lib.hid (HE.out.below HB4.out)
  have HR4 := Lib.hid (HR.out.below HB4.out)
  have r0 := HR4.out.cell 0
  have r1 := HR4.out.cell 1
  have f0 := HR4.out.frozen 0
  have f1 := HR4.out.frozen 1
  refine wpAnyH_ready (rs := [11]) (by kernel_rfl) (by simp) ?_
  refine AllReadyH.cons (o := ?_) ?_ (fun K hK => ?_) AllReadyH.nil
  rotate_left 1
  · (simp only [List.getElem?_toArray, List.getElem?_cons_zero, List.getElem?_cons_succ]; try rfl)
  go_simp
  refine hK.out _ _ (by exact ⟨((HS4.out.setFar9 (by omega) 0 (.int .i64 x)).setFar9 (by omega) 1 (.int .i64 y)).cell 0, ((HS4.out.setFar9 (by omega) 0 (.int .i64 x)).setFar9 (by omega) 1 (.int .i64 y)).cell 1, ((HE4.out.setFar9 (by omega) 0 (.int .i64 x)).setFar9 (by omega) 1 (.int .i64 y)).cell 0, ((HE4.out.setFar9 (by omega) 0 (.int .i64 x)).setFar9 (by omega) 1 (.int .i64 y)).cell 1, ((HE4.out.setFar9 (by omega) 0 (.int .i64 x)).setFar9 (by omega) 1 (.int .i64 y)).cell 2⟩) (fun hHeld => ?_)
  clear hK K
  (try simp only [Act.put, List.setIfInBounds_toArray, List.set_cons_zero, List.set_cons_succ])
  refine wpAnyH_done (by kernel_rfl) ?_ _
  have hlt := HR4.out.lt
  have hB := below_then HAL.out HB4.out
  go_wp2
  refine bodyPost_ret (v := .agg #[.int .i64 x, .int .i64 y]) (by simp [results, Tryd.results60, go_sem, r0, r1]) rfl ⟨rfl, ?_⟩
  (repeat (first | exact Below.refl _ _ | assumption | refine Below.setCell ?_ (by first | (simp; done) | (simp; omega) | omega) _ | refine Below.drew ?_ | refine below_drewN ?_ _ | refine Below.alloc ?_ (by first | (simp; done) | (simp; omega) | omega) _))
end Go.Proofs.YtoaimklllmelpabDoor
