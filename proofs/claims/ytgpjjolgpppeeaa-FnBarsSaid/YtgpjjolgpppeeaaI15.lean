/-
  The heap of leases in memory; its methods Len, Less, Swap: contracts. Own work.
  The heap of leases: up: contract. Own work.
  The heap of leases: down from the top: contract. Own work.
  The heap of leases: the method Pop: contract. Own work.
  The heap of leases: container/heap.Pop: contract. Own work.
  The heap of leases: the method Push: contract. Own work.
  The heap of leases: container/heap.Push, endingHeap: contracts. Own work.
  The heap of leases: endingHeap: contract. Own work.
-/
import Derived.Test.YtgpjjolgpppeeaaP12
import Derived.Test.YtgpjjolgpppeeaaI12
import Derived.RegionTactic
import Derived.Test.YtgpjjolgpppeeaaI14
namespace Go.Proofs.Ytgpjjolgpppeeaa
open Go.RowKit P
set_option linter.unusedVariables false
set_option linter.unusedSimpArgs false
set_option maxRecDepth 100000

/-- The heap at hb, its leases in block g. -/
structure Hp (w : World) (hb g cap : Nat) (H : List Le) : Prop where
  hd : Blk w hb #[.slice (some ⟨g, 0, none⟩) H.length cap, .func (.func 138) #[] #[]] 150
  row : RowL w g H
  sz : SzB w g (cap * 4)
  ne : hb ≠ g
  le : H.length ≤ cap
  cm : cap ≤ maxLen
  in_ : ∀ l ∈ H, leIn l
theorem Hp.below {w w' : World} {hb g cap : Nat} {H : List Le} (h : Hp w hb g cap H) (b : Below w.heap.size w w') : Hp w' hb g cap H :=
  ⟨h.hd.below b, h.row.below b, h.sz.below b, h.ne, h.le, h.cm, h.in_⟩
theorem Hp.at_ {w : World} {hb g cap : Nat} {H : List Le} (h : Hp w hb g cap H) (i : Nat) (hi : i < H.length) : ∃ x y s t, H[i] = (x, y, s, t) ∧ w.cell? ⟨g, i * 4, none⟩ = some (.int .i64 x) ∧ w.cell? ⟨g, i * 4 + 1, none⟩ = some (.int .i64 y) ∧ w.cell? ⟨g, i * 4 + 2, none⟩ = some (.int .i64 s) ∧ w.cell? ⟨g, i * 4 + 3, none⟩ = some (.int .i64 t) ∧ tl H i = t := by
  obtain ⟨h0, h1, h2, h3⟩ := h.row.cells i hi
  exact ⟨_, _, _, _, rfl, h0, h1, h2, h3, tl_at hi⟩

set_option maxHeartbeats 1000000 in
theorem compareEnds_any (i j s t x y u v : Int) (w : World) :
    Calls Try.prog 138 #[.agg #[.int .i64 i, .int .i64 j, .int .i64 s, .int .i64 t], .agg #[.int .i64 x, .int .i64 y, .int .i64 u, .int .i64 v]] w fun e w' => e = .returned (.int .i64 (sgn3 t v)) ∧ Below w.heap.size w w' := by
  have hal := ((Below.refl w.heap.size w).alloc (Nat.le_refl _) (.cells #[.int .i64 i, .int .i64 j, .int .i64 s, .int .i64 t] 43)).alloc (by simp) (.cells #[.int .i64 x, .int .i64 y, .int .i64 u, .int .i64 v] 43)
  have b0 := (Blk.new w #[.int .i64 i, .int .i64 j, .int .i64 s, .int .i64 t] 43).alloc (.cells #[.int .i64 x, .int .i64 y, .int .i64 u, .int .i64 v] 43)
  have b1 := Blk.new (w.alloc (.cells #[.int .i64 i, .int .i64 j, .int .i64 s, .int .i64 t] 43)) #[.int .i64 x, .int .i64 y, .int .i64 u, .int .i64 v] 43
  simp only [World.size_alloc] at b1
  have p3 := b0.cell 3
  have q3 := b1.cell 3
  go_enter Try.func138, Try.ntmps138
  go_wp2_with fail
  refine (cmpInt_any t v _).mono ?_
  rintro e w1 ⟨rfl, rfl⟩
  go_wp2
  go_ret
  exact ⟨rfl, hal⟩

set_option maxHeartbeats 1000000 in
theorem heapLen_any (hb g cap : Nat) (H : List Le) (w : World) (h : Hp w hb g cap H) :
    Calls Try.prog 124 #[.pointer (some ⟨hb, 0, none⟩)] w fun e w' => e = .returned (.int .i64 (H.length : Int)) ∧ w' = w := by
  have h0 := h.hd.cell 0
  go_enter Try.func124, Try.ntmps124
  go_wp2
  go_ret
  exact ⟨rfl, rfl⟩

theorem sgn3_neg (a b : Int) : decide (sgn3 a b < 0) = decide (a < b) := by
  unfold sgn3
  by_cases h1 : a < b
  · rw [if_pos h1]; simp [h1]
  · rw [if_neg h1]
    by_cases h2 : b < a
    · rw [if_pos h2]; simp [h1]
    · rw [if_neg h2]; simp [h1]

set_option maxHeartbeats 4000000 in
theorem heapLess_any (hb g cap : Nat) (H : List Le) (i j : Nat) (w : World) (h : Hp w hb g cap H) (hi : i < H.length) (hj : j < H.length) :
    Calls Try.prog 197 #[.pointer (some ⟨hb, 0, none⟩), .int .i64 i, .int .i64 j] w fun e w' => e = .returned (.bool (decide (tl H i < tl H j))) ∧ Below w.heap.size w w' := by
  obtain ⟨x0, y0, s0, t0, _, k0, k1, k2, k3, e0⟩ := h.at_ i hi
  obtain ⟨x1, y1, s1, t1, _, m0, m1, m2, m3, e1⟩ := h.at_ j hj
  rw [e0, e1]
  have h0 : w.cell? ⟨hb, 0, none⟩ = some (.slice (some ⟨g, 0, none⟩) H.length cap) := h.hd.cell 0
  have h1 : w.cell? ⟨hb, 1, none⟩ = some (.func (.func 138) #[] #[]) := h.hd.cell 1
  have zh := h.hd.lt
  have zg := h.row.lt
  have hi0 : (0 : Int) ≤ (i : Int) := by omega
  have hj0 : (0 : Int) ≤ (j : Int) := by omega
  have hi1 : (i : Int) < (H.length : Int) := by omega
  have hj1 : (j : Int) < (H.length : Int) := by omega
  obtain ⟨q, hq⟩ : ∃ q, sgn3 t0 t1 = q := ⟨_, rfl⟩
  have HQ := Lib.hid hq
  have hfin : decide (q < 0) = decide (t0 < t1) := by rw [← hq, sgn3_neg]
  have HFIN := Lib.hid hfin
  clear hq e0 e1 hfin
  go_enter Try.func197, Try.ntmps197
  go_wp2_with fail
  refine wp_region_held_drew (S := (fun V => V.cell? ⟨hb, 0, none⟩ = some (.slice (some ⟨g, 0, none⟩) H.length cap) ∧ V.cell? ⟨hb, 1, none⟩ = some (.func (.func 138) #[] #[]) ∧ V.cell? ⟨g, i * 4, none⟩ = some (.int .i64 x0) ∧ V.cell? ⟨g, i * 4 + 1, none⟩ = some (.int .i64 y0) ∧ V.cell? ⟨g, i * 4 + 2, none⟩ = some (.int .i64 s0) ∧ V.cell? ⟨g, i * 4 + 3, none⟩ = some (.int .i64 t0) ∧ V.cell? ⟨g, j * 4, none⟩ = some (.int .i64 x1) ∧ V.cell? ⟨g, j * 4 + 1, none⟩ = some (.int .i64 y1) ∧ V.cell? ⟨g, j * 4 + 2, none⟩ = some (.int .i64 s1) ∧ V.cell? ⟨g, j * 4 + 3, none⟩ = some (.int .i64 t1))) (by kernel_rfl) (by exact ⟨h0, h1, k0, k1, k2, k3, m0, m1, m2, m3⟩) (fun hHeld => ?_)
  refine wpAnyH_take (i := 0) (oi := ?_) (v := ?_) ?_ ?_ ?_ ?_ ?_ ?_ (by exact hHeld) ?_
  rotate_left 2
  · (simp only [List.getElem?_toArray, List.getElem?_cons_zero]; try rfl)
  · kernel_rfl
  · kernel_rfl
  · kernel_rfl
  · exact fun _ _ _ h => h
  · refine Or.inl ⟨by rfl, ?_⟩
    (intro V hSV; (try dsimp only at hSV); obtain ⟨q0, q1, q2, q3, q4, q5, q6, q7, q8, q9⟩ := hSV; go_simp; try with_reducible rfl)
  (try simp only [Act.put, List.setIfInBounds_toArray, List.set_cons_zero, List.set_cons_succ])
  refine wpAnyH_take (i := 1) (oi := ?_) (v := ?_) ?_ ?_ ?_ ?_ ?_ ?_ (by exact hHeld) ?_
  rotate_left 2
  · (simp only [List.getElem?_toArray, List.getElem?_cons_zero, List.getElem?_cons_succ]; try rfl)
  · kernel_rfl
  · kernel_rfl
  · kernel_rfl
  · exact fun _ _ _ h => h
  · refine Or.inl ⟨by rfl, ?_⟩
    (intro V hSV; (try dsimp only at hSV); obtain ⟨q0, q1, q2, q3, q4, q5, q6, q7, q8, q9⟩ := hSV; go_simp; try with_reducible rfl)
  (try simp only [Act.put, List.setIfInBounds_toArray, List.set_cons_zero, List.set_cons_succ])
  refine wpAnyH_take (i := 2) (oi := ?_) (v := ?_) ?_ ?_ ?_ ?_ ?_ ?_ (by exact hHeld) ?_
  rotate_left 2
  · (simp only [List.getElem?_toArray, List.getElem?_cons_zero, List.getElem?_cons_succ]; try rfl)
  · kernel_rfl
  · kernel_rfl
  · kernel_rfl
  · exact fun _ _ _ h => h
  · refine Or.inl ⟨by rfl, ?_⟩
    (intro V hSV; (try dsimp only at hSV); obtain ⟨q0, q1, q2, q3, q4, q5, q6, q7, q8, q9⟩ := hSV; go_simp; try with_reducible rfl)
  (try simp only [Act.put, List.setIfInBounds_toArray, List.set_cons_zero, List.set_cons_succ])
  refine wpAnyH_take (i := 3) (oi := ?_) (v := ?_) ?_ ?_ ?_ ?_ ?_ ?_ (by exact hHeld) ?_
  rotate_left 2
  · (simp only [List.getElem?_toArray, List.getElem?_cons_zero, List.getElem?_cons_succ]; try rfl)
  · kernel_rfl
  · kernel_rfl
  · kernel_rfl
  · exact fun _ _ _ h => h
  · refine Or.inl ⟨by rfl, ?_⟩
    (intro V hSV; (try dsimp only at hSV); obtain ⟨q0, q1, q2, q3, q4, q5, q6, q7, q8, q9⟩ := hSV; go_simp; try with_reducible rfl)
  (try simp only [Act.put, List.setIfInBounds_toArray, List.set_cons_zero, List.set_cons_succ])
  refine wpAnyH_take (i := 4) (oi := ?_) (v := ?_) ?_ ?_ ?_ ?_ ?_ ?_ (by exact hHeld) ?_
  rotate_left 2
  · (simp only [List.getElem?_toArray, List.getElem?_cons_zero, List.getElem?_cons_succ]; try rfl)
  · kernel_rfl
  · kernel_rfl
  · kernel_rfl
  · exact fun _ _ _ h => h
  · refine Or.inl ⟨by rfl, ?_⟩
    (intro V hSV; (try dsimp only at hSV); obtain ⟨q0, q1, q2, q3, q4, q5, q6, q7, q8, q9⟩ := hSV; go_simp; try with_reducible rfl)
  (try simp only [Act.put, List.setIfInBounds_toArray, List.set_cons_zero, List.set_cons_succ])
  refine wpAnyH_take (i := 5) (oi := ?_) (v := ?_) ?_ ?_ ?_ ?_ ?_ ?_ (by exact hHeld) ?_
  rotate_left 2
  · (simp only [List.getElem?_toArray, List.getElem?_cons_zero, List.getElem?_cons_succ]; try rfl)
  · kernel_rfl
  · kernel_rfl
  · kernel_rfl
  · exact fun _ _ _ h => h
  · refine Or.inl ⟨by rfl, ?_⟩
    (intro V hSV; (try dsimp only at hSV); obtain ⟨q0, q1, q2, q3, q4, q5, q6, q7, q8, q9⟩ := hSV; go_simp; try with_reducible rfl)
  (try simp only [Act.put, List.setIfInBounds_toArray, List.set_cons_zero, List.set_cons_succ])
  refine wpAnyH_take (i := 6) (oi := ?_) (v := ?_) ?_ ?_ ?_ ?_ ?_ ?_ (by exact hHeld) ?_
  rotate_left 2
  · (simp only [List.getElem?_toArray, List.getElem?_cons_zero, List.getElem?_cons_succ]; try rfl)
  · kernel_rfl
  · kernel_rfl
  · kernel_rfl
  · exact fun _ _ _ h => h
  · refine Or.inl ⟨by rfl, ?_⟩
    (intro V hSV; (try dsimp only at hSV); obtain ⟨q0, q1, q2, q3, q4, q5, q6, q7, q8, q9⟩ := hSV; go_simp; try with_reducible rfl)
  (try simp only [Act.put, List.setIfInBounds_toArray, List.set_cons_zero, List.set_cons_succ])
  refine wpAnyH_take (i := 7) (oi := ?_) (v := ?_) ?_ ?_ ?_ ?_ ?_ ?_ (by exact hHeld) ?_
  rotate_left 2
  · (simp only [List.getElem?_toArray, List.getElem?_cons_zero, List.getElem?_cons_succ]; try rfl)
  · kernel_rfl
  · kernel_rfl
  · kernel_rfl
  · exact fun _ _ _ h => h
  · refine Or.inl ⟨by rfl, ?_⟩
    (intro V hSV; (try dsimp only at hSV); obtain ⟨q0, q1, q2, q3, q4, q5, q6, q7, q8, q9⟩ := hSV; go_simp; try with_reducible rfl)
  (try simp only [Act.put, List.setIfInBounds_toArray, List.set_cons_zero, List.set_cons_succ])
  refine wpAnyH_take (i := 8) (oi := ?_) (v := ?_) ?_ ?_ ?_ ?_ ?_ ?_ (by exact hHeld) ?_
  rotate_left 2
  · (simp only [List.getElem?_toArray, List.getElem?_cons_zero, List.getElem?_cons_succ]; try rfl)
  · kernel_rfl
  · kernel_rfl
  · kernel_rfl
  · exact fun _ _ _ h => h
  · refine Or.inl ⟨by rfl, ?_⟩
    (intro V hSV; (try dsimp only at hSV); obtain ⟨q0, q1, q2, q3, q4, q5, q6, q7, q8, q9⟩ := hSV; go_simp; try with_reducible rfl)
  (try simp only [Act.put, List.setIfInBounds_toArray, List.set_cons_zero, List.set_cons_succ])
  refine wpAnyH_take (i := 9) (oi := ?_) (v := ?_) ?_ ?_ ?_ ?_ ?_ ?_ (by exact hHeld) ?_
  rotate_left 2
  · (simp only [List.getElem?_toArray, List.getElem?_cons_zero, List.getElem?_cons_succ]; try rfl)
  · kernel_rfl
  · kernel_rfl
  · kernel_rfl
  · exact fun _ _ _ h => h
  · refine Or.inl ⟨by rfl, ?_⟩
    (intro V hSV; (try dsimp only at hSV); obtain ⟨q0, q1, q2, q3, q4, q5, q6, q7, q8, q9⟩ := hSV; go_simp; try with_reducible rfl)
  (try simp only [Act.put, List.setIfInBounds_toArray, List.set_cons_zero, List.set_cons_succ])
  refine wpAnyH_take (i := 10) (oi := ?_) (v := ?_) ?_ ?_ ?_ ?_ ?_ ?_ (by exact hHeld) ?_
  rotate_left 2
  · (simp only [List.getElem?_toArray, List.getElem?_cons_zero, List.getElem?_cons_succ]; try rfl)
  · kernel_rfl
  · kernel_rfl
  · kernel_rfl
  · exact fun _ _ _ h => h
  · refine Or.inl ⟨by rfl, ?_⟩
    (intro V hSV; (try dsimp only at hSV); obtain ⟨q0, q1, q2, q3, q4, q5, q6, q7, q8, q9⟩ := hSV; go_simp; try with_reducible rfl)
  (try simp only [Act.put, List.setIfInBounds_toArray, List.set_cons_zero, List.set_cons_succ])
  refine wpAnyH_take (i := 11) (oi := ?_) (v := ?_) ?_ ?_ ?_ ?_ ?_ ?_ (by exact hHeld) ?_
  rotate_left 2
  · (simp only [List.getElem?_toArray, List.getElem?_cons_zero, List.getElem?_cons_succ]; try rfl)
  · kernel_rfl
  · kernel_rfl
  · kernel_rfl
  · exact fun _ _ _ h => h
  · refine Or.inl ⟨by rfl, ?_⟩
    (intro V hSV; (try dsimp only at hSV); obtain ⟨q0, q1, q2, q3, q4, q5, q6, q7, q8, q9⟩ := hSV; go_simp; try with_reducible rfl)
  (try simp only [Act.put, List.setIfInBounds_toArray, List.set_cons_zero, List.set_cons_succ])
  refine wpAnyH_take (i := 12) (oi := ?_) (v := ?_) ?_ ?_ ?_ ?_ ?_ ?_ (by exact hHeld) ?_
  rotate_left 2
  · (simp only [List.getElem?_toArray, List.getElem?_cons_zero, List.getElem?_cons_succ]; try rfl)
  · kernel_rfl
  · kernel_rfl
  · kernel_rfl
  · exact fun _ _ _ h => h
  · refine Or.inl ⟨by rfl, ?_⟩
    (intro V hSV; (try dsimp only at hSV); obtain ⟨q0, q1, q2, q3, q4, q5, q6, q7, q8, q9⟩ := hSV; go_simp; try with_reducible rfl)
  (try simp only [Act.put, List.setIfInBounds_toArray, List.set_cons_zero, List.set_cons_succ])
  refine wpAnyH_take (i := 13) (oi := ?_) (v := ?_) ?_ ?_ ?_ ?_ ?_ ?_ (by exact hHeld) ?_
  rotate_left 2
  · (simp only [List.getElem?_toArray, List.getElem?_cons_zero, List.getElem?_cons_succ]; try rfl)
  · kernel_rfl
  · kernel_rfl
  · kernel_rfl
  · exact fun _ _ _ h => h
  · refine Or.inl ⟨by rfl, ?_⟩
    (intro V hSV; (try dsimp only at hSV); obtain ⟨q0, q1, q2, q3, q4, q5, q6, q7, q8, q9⟩ := hSV; go_simp; try with_reducible rfl)
  (try simp only [Act.put, List.setIfInBounds_toArray, List.set_cons_zero, List.set_cons_succ])
  refine wpAnyH_take (i := 14) (oi := ?_) (v := ?_) ?_ ?_ ?_ ?_ ?_ ?_ (by exact hHeld) ?_
  rotate_left 2
  · (simp only [List.getElem?_toArray, List.getElem?_cons_zero, List.getElem?_cons_succ]; try rfl)
  · kernel_rfl
  · kernel_rfl
  · kernel_rfl
  · exact fun _ _ _ h => h
  · refine Or.inl ⟨by rfl, ?_⟩
    (intro V hSV; (try dsimp only at hSV); obtain ⟨q0, q1, q2, q3, q4, q5, q6, q7, q8, q9⟩ := hSV; go_simp; try with_reducible rfl)
  (try simp only [Act.put, List.setIfInBounds_toArray, List.set_cons_zero, List.set_cons_succ])
  refine wpAnyH_take (i := 15) (oi := ?_) (v := ?_) ?_ ?_ ?_ ?_ ?_ ?_ (by exact hHeld) ?_
  rotate_left 2
  · (simp only [List.getElem?_toArray, List.getElem?_cons_zero, List.getElem?_cons_succ]; try rfl)
  · kernel_rfl
  · kernel_rfl
  · kernel_rfl
  · exact fun _ _ _ h => h
  · refine Or.inl ⟨by rfl, ?_⟩
    (intro V hSV; (try dsimp only at hSV); obtain ⟨q0, q1, q2, q3, q4, q5, q6, q7, q8, q9⟩ := hSV; go_simp; try with_reducible rfl)
  (try simp only [Act.put, List.setIfInBounds_toArray, List.set_cons_zero, List.set_cons_succ])
  refine wpAnyH_take (i := 16) (oi := ?_) (v := ?_) ?_ ?_ ?_ ?_ ?_ ?_ (by exact hHeld) ?_
  rotate_left 2
  · (simp only [List.getElem?_toArray, List.getElem?_cons_zero, List.getElem?_cons_succ]; try rfl)
  · kernel_rfl
  · kernel_rfl
  · kernel_rfl
  · exact fun _ _ _ h => h
  · refine Or.inl ⟨by rfl, ?_⟩
    (intro V hSV; (try dsimp only at hSV); obtain ⟨q0, q1, q2, q3, q4, q5, q6, q7, q8, q9⟩ := hSV; go_simp; try with_reducible rfl)
  (try simp only [Act.put, List.setIfInBounds_toArray, List.set_cons_zero, List.set_cons_succ])
  refine wpAnyH_take (i := 17) (oi := ?_) (v := ?_) ?_ ?_ ?_ ?_ ?_ ?_ (by exact hHeld) ?_
  rotate_left 2
  · (simp only [List.getElem?_toArray, List.getElem?_cons_zero, List.getElem?_cons_succ]; try rfl)
  · kernel_rfl
  · kernel_rfl
  · kernel_rfl
  · exact fun _ _ _ h => h
  · refine Or.inl ⟨by rfl, ?_⟩
    (intro V hSV; (try dsimp only at hSV); obtain ⟨q0, q1, q2, q3, q4, q5, q6, q7, q8, q9⟩ := hSV; go_simp; try with_reducible rfl)
  (try simp only [Act.put, List.setIfInBounds_toArray, List.set_cons_zero, List.set_cons_succ])
  refine wpAnyH_ready (rs := [18]) (by kernel_rfl) (by simp) ?_
  refine AllReadyH.cons rfl (fun K hK => ?_) AllReadyH.nil
  go_simp
  refine (compareEnds_any x0 y0 s0 t0 x1 y1 s1 t1 _).mono ?_
  rintro e w1 ⟨rfl, hb1⟩
  rw [HQ.out]
  have hb1 : Below w.heap.size w w1 := ⟨hb1.os, hb1.tape, hb1.output, hb1.size, hb1.block⟩
  go_wp2_with fail
  refine hK.out _ _ (by exact ⟨((hb1).cell (p := ⟨hb, 0, none⟩) zh).trans h0, ((hb1).cell (p := ⟨hb, 1, none⟩) zh).trans h1, ((hb1).cell (p := ⟨g, i * 4, none⟩) zg).trans k0, ((hb1).cell (p := ⟨g, i * 4 + 1, none⟩) zg).trans k1, ((hb1).cell (p := ⟨g, i * 4 + 2, none⟩) zg).trans k2, ((hb1).cell (p := ⟨g, i * 4 + 3, none⟩) zg).trans k3, ((hb1).cell (p := ⟨g, j * 4, none⟩) zg).trans m0, ((hb1).cell (p := ⟨g, j * 4 + 1, none⟩) zg).trans m1, ((hb1).cell (p := ⟨g, j * 4 + 2, none⟩) zg).trans m2, ((hb1).cell (p := ⟨g, j * 4 + 3, none⟩) zg).trans m3⟩) (fun hHeld => ?_)
  clear hK K
  (try simp only [Act.put, List.setIfInBounds_toArray, List.set_cons_zero, List.set_cons_succ])
  refine wpAnyH_take (i := 19) (oi := ?_) (v := ?_) ?_ ?_ ?_ ?_ ?_ ?_ (by exact hHeld) ?_
  rotate_left 2
  · (simp only [List.getElem?_toArray, List.getElem?_cons_zero, List.getElem?_cons_succ]; try rfl)
  · kernel_rfl
  · kernel_rfl
  · kernel_rfl
  · exact fun _ _ _ h => h
  · refine Or.inl ⟨by rfl, ?_⟩
    (intro V hSV; (try dsimp only at hSV); obtain ⟨q0, q1, q2, q3, q4, q5, q6, q7, q8, q9⟩ := hSV; go_simp; try with_reducible rfl)
  (try simp only [Act.put, List.setIfInBounds_toArray, List.set_cons_zero, List.set_cons_succ])
  refine wpAnyH_take (i := 20) (oi := ?_) (v := ?_) ?_ ?_ ?_ ?_ ?_ ?_ (by exact hHeld) ?_
  rotate_left 2
  · (simp only [List.getElem?_toArray, List.getElem?_cons_zero, List.getElem?_cons_succ]; try rfl)
  · kernel_rfl
  · kernel_rfl
  · kernel_rfl
  · exact fun _ _ _ h => h
  · refine Or.inl ⟨by rfl, ?_⟩
    (intro V hSV; (try dsimp only at hSV); obtain ⟨q0, q1, q2, q3, q4, q5, q6, q7, q8, q9⟩ := hSV; go_simp; try with_reducible rfl)
  (try simp only [Act.put, List.setIfInBounds_toArray, List.set_cons_zero, List.set_cons_succ])
  refine wpAnyH_done (by kernel_rfl) ?_ _
  go_wp2
  go_ret
  exact ⟨ret_bool HFIN.out, hb1⟩

set_option maxHeartbeats 4000000 in
theorem heapSwap_any (hb g cap : Nat) (H : List Le) (i j : Nat) (w : World) (h : Hp w hb g cap H) (hi : i < H.length) (hj : j < H.length) :
    Calls Try.prog 200 #[.pointer (some ⟨hb, 0, none⟩), .int .i64 i, .int .i64 j] w fun e w' => e = .returned (.tuple #[]) ∧ Hp w' hb g cap (sw H i j) ∧ Keeps [g] w w' := by
  obtain ⟨x0, y0, s0, t0, ei, k0, k1, k2, k3, e0⟩ := h.at_ i hi
  obtain ⟨x1, y1, s1, t1, ej, m0, m1, m2, m3, e1⟩ := h.at_ j hj
  have h0 : w.cell? ⟨hb, 0, none⟩ = some (.slice (some ⟨g, 0, none⟩) H.length cap) := h.hd.cell 0
  have hi0 : (0 : Int) ≤ (i : Int) := by omega
  have hj0 : (0 : Int) ≤ (j : Int) := by omega
  have hi1 : (i : Int) < (H.length : Int) := by omega
  have hj1 : (j : Int) < (H.length : Int) := by omega
  have fi0 := h.row.frozen (i * 4)
  have fi1 := h.row.frozen (i * 4 + 1)
  have fi2 := h.row.frozen (i * 4 + 2)
  have fi3 := h.row.frozen (i * 4 + 3)
  have fj0 := h.row.frozen (j * 4)
  have fj1 := h.row.frozen (j * 4 + 1)
  have fj2 := h.row.frozen (j * 4 + 2)
  have fj3 := h.row.frozen (j * 4 + 3)
  have hne := h.ne
  have hsw : sw H i j = (H.set i (x1, y1, s1, t1)).set j (x0, y0, s0, t0) := by
    unfold sw
    rw [List.getD_eq_getElem?_getD, List.getD_eq_getElem?_getD, List.getElem?_eq_getElem hi, List.getElem?_eq_getElem hj, ei, ej]
    rfl
  have r1 := h.row.set4 i hi x1 y1 s1 t1
  have rc := r1.cells j (by rw [List.length_set]; exact hj)
  obtain ⟨v0, hv0⟩ : ∃ v, ((((w.setCell ⟨g, i * 4, none⟩ (.int .i64 x1)).setCell ⟨g, i * 4 + 1, none⟩ (.int .i64 y1)).setCell ⟨g, i * 4 + 2, none⟩ (.int .i64 s1)).setCell ⟨g, i * 4 + 3, none⟩ (.int .i64 t1)).cell? ⟨g, j * 4, none⟩ = some v := ⟨_, rc.1⟩
  have hw0 : ((((w.setCell ⟨g, i * 4, none⟩ (.int .i64 x1)).setCell ⟨g, i * 4 + 1, none⟩ (.int .i64 y1)).setCell ⟨g, i * 4 + 2, none⟩ (.int .i64 s1)).setCell ⟨g, i * 4 + 3, none⟩ (.int .i64 t1)).frozen? ⟨g, j * 4, none⟩ = false := r1.frozen (j * 4)
  obtain ⟨v1, hv1⟩ : ∃ v, ((((w.setCell ⟨g, i * 4, none⟩ (.int .i64 x1)).setCell ⟨g, i * 4 + 1, none⟩ (.int .i64 y1)).setCell ⟨g, i * 4 + 2, none⟩ (.int .i64 s1)).setCell ⟨g, i * 4 + 3, none⟩ (.int .i64 t1)).cell? ⟨g, j * 4 + 1, none⟩ = some v := ⟨_, rc.2.1⟩
  have hw1 : ((((w.setCell ⟨g, i * 4, none⟩ (.int .i64 x1)).setCell ⟨g, i * 4 + 1, none⟩ (.int .i64 y1)).setCell ⟨g, i * 4 + 2, none⟩ (.int .i64 s1)).setCell ⟨g, i * 4 + 3, none⟩ (.int .i64 t1)).frozen? ⟨g, j * 4 + 1, none⟩ = false := r1.frozen (j * 4 + 1)
  obtain ⟨v2, hv2⟩ : ∃ v, ((((w.setCell ⟨g, i * 4, none⟩ (.int .i64 x1)).setCell ⟨g, i * 4 + 1, none⟩ (.int .i64 y1)).setCell ⟨g, i * 4 + 2, none⟩ (.int .i64 s1)).setCell ⟨g, i * 4 + 3, none⟩ (.int .i64 t1)).cell? ⟨g, j * 4 + 2, none⟩ = some v := ⟨_, rc.2.2.1⟩
  have hw2 : ((((w.setCell ⟨g, i * 4, none⟩ (.int .i64 x1)).setCell ⟨g, i * 4 + 1, none⟩ (.int .i64 y1)).setCell ⟨g, i * 4 + 2, none⟩ (.int .i64 s1)).setCell ⟨g, i * 4 + 3, none⟩ (.int .i64 t1)).frozen? ⟨g, j * 4 + 2, none⟩ = false := r1.frozen (j * 4 + 2)
  obtain ⟨v3, hv3⟩ : ∃ v, ((((w.setCell ⟨g, i * 4, none⟩ (.int .i64 x1)).setCell ⟨g, i * 4 + 1, none⟩ (.int .i64 y1)).setCell ⟨g, i * 4 + 2, none⟩ (.int .i64 s1)).setCell ⟨g, i * 4 + 3, none⟩ (.int .i64 t1)).cell? ⟨g, j * 4 + 3, none⟩ = some v := ⟨_, rc.2.2.2⟩
  have hw3 : ((((w.setCell ⟨g, i * 4, none⟩ (.int .i64 x1)).setCell ⟨g, i * 4 + 1, none⟩ (.int .i64 y1)).setCell ⟨g, i * 4 + 2, none⟩ (.int .i64 s1)).setCell ⟨g, i * 4 + 3, none⟩ (.int .i64 t1)).frozen? ⟨g, j * 4 + 3, none⟩ = false := r1.frozen (j * 4 + 3)
  have r2 := r1.set4 j (by rw [List.length_set]; exact hj) x0 y0 s0 t0
  have z1 := (((((((h.sz.set (i * 4) (.int .i64 x1)).set (i * 4 + 1) (.int .i64 y1)).set (i * 4 + 2) (.int .i64 s1)).set (i * 4 + 3) (.int .i64 t1)).set (j * 4) (.int .i64 x0)).set (j * 4 + 1) (.int .i64 y0)).set (j * 4 + 2) (.int .i64 s0)).set (j * 4 + 3) (.int .i64 t0)
  have q1 := (((((((h.hd.setOther (a := ⟨g, i * 4, none⟩) hne (.int .i64 x1)).setOther (a := ⟨g, i * 4 + 1, none⟩) hne (.int .i64 y1)).setOther (a := ⟨g, i * 4 + 2, none⟩) hne (.int .i64 s1)).setOther (a := ⟨g, i * 4 + 3, none⟩) hne (.int .i64 t1)).setOther (a := ⟨g, j * 4, none⟩) hne (.int .i64 x0)).setOther (a := ⟨g, j * 4 + 1, none⟩) hne (.int .i64 y0)).setOther (a := ⟨g, j * 4 + 2, none⟩) hne (.int .i64 s0)).setOther (a := ⟨g, j * 4 + 3, none⟩) hne (.int .i64 t0)
  have qa := (((h.hd.setOther (a := ⟨g, i * 4, none⟩) hne (.int .i64 x1)).setOther (a := ⟨g, i * 4 + 1, none⟩) hne (.int .i64 y1)).setOther (a := ⟨g, i * 4 + 2, none⟩) hne (.int .i64 s1)).setOther (a := ⟨g, i * 4 + 3, none⟩) hne (.int .i64 t1)
  have hS1 : ((((w.setCell ⟨g, i * 4, none⟩ (.int .i64 x1)).setCell ⟨g, i * 4 + 1, none⟩ (.int .i64 y1)).setCell ⟨g, i * 4 + 2, none⟩ (.int .i64 s1)).setCell ⟨g, i * 4 + 3, none⟩ (.int .i64 t1)).cell? ⟨hb, 0, none⟩ = some (.slice (some ⟨g, 0, none⟩) H.length cap) := qa.cell 0
  have hS2 : ((((((((w.setCell ⟨g, i * 4, none⟩ (.int .i64 x1)).setCell ⟨g, i * 4 + 1, none⟩ (.int .i64 y1)).setCell ⟨g, i * 4 + 2, none⟩ (.int .i64 s1)).setCell ⟨g, i * 4 + 3, none⟩ (.int .i64 t1)).setCell ⟨g, j * 4, none⟩ (.int .i64 x0)).setCell ⟨g, j * 4 + 1, none⟩ (.int .i64 y0)).setCell ⟨g, j * 4 + 2, none⟩ (.int .i64 s0)).setCell ⟨g, j * 4 + 3, none⟩ (.int .i64 t0)).cell? ⟨hb, 0, none⟩ = some (.slice (some ⟨g, 0, none⟩) H.length cap) := q1.cell 0
  clear qa
  have gg : g ∈ [g] := List.mem_singleton.2 rfl
  have p1 := ((((((((Keeps.refl [g] w).put gg (i * 4) (.int .i64 x1)).put gg (i * 4 + 1) (.int .i64 y1)).put gg (i * 4 + 2) (.int .i64 s1)).put gg (i * 4 + 3) (.int .i64 t1)).put gg (j * 4) (.int .i64 x0)).put gg (j * 4 + 1) (.int .i64 y0)).put gg (j * 4 + 2) (.int .i64 s0)).put gg (j * 4 + 3) (.int .i64 t0)
  have hin2 : ∀ l ∈ sw H i j, leIn l := fun l hl => h.in_ l ((sw_perm hi hj).mem_iff.1 hl)
  have hfin : Hp _ hb g cap (sw H i j) := ⟨by rw [sw_length]; exact q1, by rw [hsw]; exact r2, z1, hne, by rw [sw_length]; exact h.le, h.cm, hin2⟩
  have HF := Lib.hid hfin
  have HP := Lib.hid p1
  have HS1 := Lib.hid hS1
  have HS2 := Lib.hid hS2
  have HV0 := Lib.hid hv0
  have HW0 := Lib.hid hw0
  have HV1 := Lib.hid hv1
  have HW1 := Lib.hid hw1
  have HV2 := Lib.hid hv2
  have HW2 := Lib.hid hw2
  have HV3 := Lib.hid hv3
  have HW3 := Lib.hid hw3
  have FI0 := Lib.hid fi0
  have FI1 := Lib.hid fi1
  have FI2 := Lib.hid fi2
  have FI3 := Lib.hid fi3
  clear hfin p1 q1 z1 r1 r2 rc hsw hin2 ei ej e0 e1 gg hS1 hS2 fj0 fj1 fj2 fj3 fi0 fi1 fi2 fi3 hv0 hw0 hv1 hw1 hv2 hw2 hv3 hw3
  go_enter Try.func200, Try.ntmps200
  go_wp2_with fail
  refine wp_region_held_drew (S := (fun V => V.cell? ⟨hb, 0, none⟩ = some (.slice (some ⟨g, 0, none⟩) H.length cap))) (by kernel_rfl) (by exact h0) (fun hHeld => ?_)
  refine wpAnyH_take (i := 0) (oi := ?_) (v := ?_) ?_ ?_ ?_ ?_ ?_ ?_ (by exact hHeld) ?_
  rotate_left 2
  · (simp only [List.getElem?_toArray, List.getElem?_cons_zero]; try rfl)
  · kernel_rfl
  · kernel_rfl
  · kernel_rfl
  · exact fun _ _ _ h => h
  · refine Or.inl ⟨by rfl, ?_⟩
    (intro V hSV; (try dsimp only at hSV); have q0 := hSV; go_simp; try with_reducible rfl)
  (try simp only [Act.put, List.setIfInBounds_toArray, List.set_cons_zero, List.set_cons_succ])
  refine wpAnyH_take (i := 1) (oi := ?_) (v := ?_) ?_ ?_ ?_ ?_ ?_ ?_ (by exact hHeld) ?_
  rotate_left 2
  · (simp only [List.getElem?_toArray, List.getElem?_cons_zero, List.getElem?_cons_succ]; try rfl)
  · kernel_rfl
  · kernel_rfl
  · kernel_rfl
  · exact fun _ _ _ h => h
  · refine Or.inl ⟨by rfl, ?_⟩
    (intro V hSV; (try dsimp only at hSV); have q0 := hSV; go_simp; try with_reducible rfl)
  (try simp only [Act.put, List.setIfInBounds_toArray, List.set_cons_zero, List.set_cons_succ])
  refine wpAnyH_take (i := 2) (oi := ?_) (v := ?_) ?_ ?_ ?_ ?_ ?_ ?_ (by exact hHeld) ?_
  rotate_left 2
  · (simp only [List.getElem?_toArray, List.getElem?_cons_zero, List.getElem?_cons_succ]; try rfl)
  · kernel_rfl
  · kernel_rfl
  · kernel_rfl
  · exact fun _ _ _ h => h
  · refine Or.inl ⟨by rfl, ?_⟩
    (intro V hSV; (try dsimp only at hSV); have q0 := hSV; go_simp; try with_reducible rfl)
  (try simp only [Act.put, List.setIfInBounds_toArray, List.set_cons_zero, List.set_cons_succ])
  refine wpAnyH_take (i := 3) (oi := ?_) (v := ?_) ?_ ?_ ?_ ?_ ?_ ?_ (by exact hHeld) ?_
  rotate_left 2
  · (simp only [List.getElem?_toArray, List.getElem?_cons_zero, List.getElem?_cons_succ]; try rfl)
  · kernel_rfl
  · kernel_rfl
  · kernel_rfl
  · exact fun _ _ _ h => h
  · refine Or.inl ⟨by rfl, ?_⟩
    (intro V hSV; (try dsimp only at hSV); have q0 := hSV; go_simp; try with_reducible rfl)
  (try simp only [Act.put, List.setIfInBounds_toArray, List.set_cons_zero, List.set_cons_succ])
  refine wpAnyH_take (i := 4) (oi := ?_) (v := ?_) ?_ ?_ ?_ ?_ ?_ ?_ (by exact hHeld) ?_
  rotate_left 2
  · (simp only [List.getElem?_toArray, List.getElem?_cons_zero, List.getElem?_cons_succ]; try rfl)
  · kernel_rfl
  · kernel_rfl
  · kernel_rfl
  · exact fun _ _ _ h => h
  · refine Or.inl ⟨by rfl, ?_⟩
    (intro V hSV; (try dsimp only at hSV); have q0 := hSV; go_simp; try with_reducible rfl)
  (try simp only [Act.put, List.setIfInBounds_toArray, List.set_cons_zero, List.set_cons_succ])
  refine wpAnyH_take (i := 5) (oi := ?_) (v := ?_) ?_ ?_ ?_ ?_ ?_ ?_ (by exact hHeld) ?_
  rotate_left 2
  · (simp only [List.getElem?_toArray, List.getElem?_cons_zero, List.getElem?_cons_succ]; try rfl)
  · kernel_rfl
  · kernel_rfl
  · kernel_rfl
  · exact fun _ _ _ h => h
  · refine Or.inl ⟨by rfl, ?_⟩
    (intro V hSV; (try dsimp only at hSV); have q0 := hSV; go_simp; try with_reducible rfl)
  (try simp only [Act.put, List.setIfInBounds_toArray, List.set_cons_zero, List.set_cons_succ])
  refine wpAnyH_take (i := 6) (oi := ?_) (v := ?_) ?_ ?_ ?_ ?_ ?_ ?_ (by exact hHeld) ?_
  rotate_left 2
  · (simp only [List.getElem?_toArray, List.getElem?_cons_zero, List.getElem?_cons_succ]; try rfl)
  · kernel_rfl
  · kernel_rfl
  · kernel_rfl
  · exact fun _ _ _ h => h
  · refine Or.inl ⟨by rfl, ?_⟩
    (intro V hSV; (try dsimp only at hSV); have q0 := hSV; go_simp; try with_reducible rfl)
  (try simp only [Act.put, List.setIfInBounds_toArray, List.set_cons_zero, List.set_cons_succ])
  refine wpAnyH_take (i := 7) (oi := ?_) (v := ?_) ?_ ?_ ?_ ?_ ?_ ?_ (by exact hHeld) ?_
  rotate_left 2
  · (simp only [List.getElem?_toArray, List.getElem?_cons_zero, List.getElem?_cons_succ]; try rfl)
  · kernel_rfl
  · kernel_rfl
  · kernel_rfl
  · exact fun _ _ _ h => h
  · refine Or.inl ⟨by rfl, ?_⟩
    (intro V hSV; (try dsimp only at hSV); have q0 := hSV; go_simp; try with_reducible rfl)
  (try simp only [Act.put, List.setIfInBounds_toArray, List.set_cons_zero, List.set_cons_succ])
  refine wpAnyH_take (i := 8) (oi := ?_) (v := ?_) ?_ ?_ ?_ ?_ ?_ ?_ (by exact hHeld) ?_
  rotate_left 2
  · (simp only [List.getElem?_toArray, List.getElem?_cons_zero, List.getElem?_cons_succ]; try rfl)
  · kernel_rfl
  · kernel_rfl
  · kernel_rfl
  · exact fun _ _ _ h => h
  · refine Or.inl ⟨by rfl, ?_⟩
    (intro V hSV; (try dsimp only at hSV); have q0 := hSV; go_simp; try with_reducible rfl)
  (try simp only [Act.put, List.setIfInBounds_toArray, List.set_cons_zero, List.set_cons_succ])
  refine wpAnyH_take (i := 9) (oi := ?_) (v := ?_) ?_ ?_ ?_ ?_ ?_ ?_ (by exact hHeld) ?_
  rotate_left 2
  · (simp only [List.getElem?_toArray, List.getElem?_cons_zero, List.getElem?_cons_succ]; try rfl)
  · kernel_rfl
  · kernel_rfl
  · kernel_rfl
  · exact fun _ _ _ h => h
  · refine Or.inl ⟨by rfl, ?_⟩
    (intro V hSV; (try dsimp only at hSV); have q0 := hSV; go_simp; try with_reducible rfl)
  (try simp only [Act.put, List.setIfInBounds_toArray, List.set_cons_zero, List.set_cons_succ])
  refine wpAnyH_take (i := 10) (oi := ?_) (v := ?_) ?_ ?_ ?_ ?_ ?_ ?_ (by exact hHeld) ?_
  rotate_left 2
  · (simp only [List.getElem?_toArray, List.getElem?_cons_zero, List.getElem?_cons_succ]; try rfl)
  · kernel_rfl
  · kernel_rfl
  · kernel_rfl
  · exact fun _ _ _ h => h
  · refine Or.inl ⟨by rfl, ?_⟩
    (intro V hSV; (try dsimp only at hSV); have q0 := hSV; go_simp; try with_reducible rfl)
  (try simp only [Act.put, List.setIfInBounds_toArray, List.set_cons_zero, List.set_cons_succ])
  refine wpAnyH_take (i := 11) (oi := ?_) (v := ?_) ?_ ?_ ?_ ?_ ?_ ?_ (by exact hHeld) ?_
  rotate_left 2
  · (simp only [List.getElem?_toArray, List.getElem?_cons_zero, List.getElem?_cons_succ]; try rfl)
  · kernel_rfl
  · kernel_rfl
  · kernel_rfl
  · exact fun _ _ _ h => h
  · refine Or.inl ⟨by rfl, ?_⟩
    (intro V hSV; (try dsimp only at hSV); have q0 := hSV; go_simp; try with_reducible rfl)
  (try simp only [Act.put, List.setIfInBounds_toArray, List.set_cons_zero, List.set_cons_succ])
  refine wpAnyH_take (i := 12) (oi := ?_) (v := ?_) ?_ ?_ ?_ ?_ ?_ ?_ (by exact hHeld) ?_
  rotate_left 2
  · (simp only [List.getElem?_toArray, List.getElem?_cons_zero, List.getElem?_cons_succ]; try rfl)
  · kernel_rfl
  · kernel_rfl
  · kernel_rfl
  · exact fun _ _ _ h => h
  · refine Or.inl ⟨by rfl, ?_⟩
    (intro V hSV; (try dsimp only at hSV); have q0 := hSV; go_simp; try with_reducible rfl)
  (try simp only [Act.put, List.setIfInBounds_toArray, List.set_cons_zero, List.set_cons_succ])
  refine wpAnyH_take (i := 13) (oi := ?_) (v := ?_) ?_ ?_ ?_ ?_ ?_ ?_ (by exact hHeld) ?_
  rotate_left 2
  · (simp only [List.getElem?_toArray, List.getElem?_cons_zero, List.getElem?_cons_succ]; try rfl)
  · kernel_rfl
  · kernel_rfl
  · kernel_rfl
  · exact fun _ _ _ h => h
  · refine Or.inl ⟨by rfl, ?_⟩
    (intro V hSV; (try dsimp only at hSV); have q0 := hSV; go_simp; try with_reducible rfl)
  (try simp only [Act.put, List.setIfInBounds_toArray, List.set_cons_zero, List.set_cons_succ])
  refine wpAnyH_take (i := 14) (oi := ?_) (v := ?_) ?_ ?_ ?_ ?_ ?_ ?_ (by exact hHeld) ?_
  rotate_left 2
  · (simp only [List.getElem?_toArray, List.getElem?_cons_zero, List.getElem?_cons_succ]; try rfl)
  · kernel_rfl
  · kernel_rfl
  · kernel_rfl
  · exact fun _ _ _ h => h
  · refine Or.inl ⟨by rfl, ?_⟩
    (intro V hSV; (try dsimp only at hSV); have q0 := hSV; go_simp; try with_reducible rfl)
  (try simp only [Act.put, List.setIfInBounds_toArray, List.set_cons_zero, List.set_cons_succ])
  refine wpAnyH_take (i := 15) (oi := ?_) (v := ?_) ?_ ?_ ?_ ?_ ?_ ?_ (by exact hHeld) ?_
  rotate_left 2
  · (simp only [List.getElem?_toArray, List.getElem?_cons_zero, List.getElem?_cons_succ]; try rfl)
  · kernel_rfl
  · kernel_rfl
  · kernel_rfl
  · exact fun _ _ _ h => h
  · refine Or.inl ⟨by rfl, ?_⟩
    (intro V hSV; (try dsimp only at hSV); have q0 := hSV; go_simp; try with_reducible rfl)
  (try simp only [Act.put, List.setIfInBounds_toArray, List.set_cons_zero, List.set_cons_succ])
  refine wpAnyH_take (i := 17) (oi := ?_) (v := ?_) ?_ ?_ ?_ ?_ ?_ ?_ (by exact hHeld) ?_
  rotate_left 2
  · (simp only [List.getElem?_toArray, List.getElem?_cons_zero, List.getElem?_cons_succ]; try rfl)
  · kernel_rfl
  · kernel_rfl
  · kernel_rfl
  · exact fun _ _ _ h => h
  · refine Or.inl ⟨by rfl, ?_⟩
    (intro V hSV; (try dsimp only at hSV); have q0 := hSV; go_simp; try with_reducible rfl)
  (try simp only [Act.put, List.setIfInBounds_toArray, List.set_cons_zero, List.set_cons_succ])
  refine wpAnyH_take (i := 18) (oi := ?_) (v := ?_) ?_ ?_ ?_ ?_ ?_ ?_ (by exact hHeld) ?_
  rotate_left 2
  · (simp only [List.getElem?_toArray, List.getElem?_cons_zero, List.getElem?_cons_succ]; try rfl)
  · kernel_rfl
  · kernel_rfl
  · kernel_rfl
  · exact fun _ _ _ h => h
  · refine Or.inl ⟨by rfl, ?_⟩
    (intro V hSV; (try dsimp only at hSV); have q0 := hSV; go_simp; try with_reducible rfl)
  (try simp only [Act.put, List.setIfInBounds_toArray, List.set_cons_zero, List.set_cons_succ])
  refine wpAnyH_take (i := 19) (oi := ?_) (v := ?_) ?_ ?_ ?_ ?_ ?_ ?_ (by exact hHeld) ?_
  rotate_left 2
  · (simp only [List.getElem?_toArray, List.getElem?_cons_zero, List.getElem?_cons_succ]; try rfl)
  · kernel_rfl
  · kernel_rfl
  · kernel_rfl
  · exact fun _ _ _ h => h
  · refine Or.inl ⟨by rfl, ?_⟩
    (intro V hSV; (try dsimp only at hSV); have q0 := hSV; go_simp; try with_reducible rfl)
  (try simp only [Act.put, List.setIfInBounds_toArray, List.set_cons_zero, List.set_cons_succ])
  refine wpAnyH_take (i := 20) (oi := ?_) (v := ?_) ?_ ?_ ?_ ?_ ?_ ?_ (by exact hHeld) ?_
  rotate_left 2
  · (simp only [List.getElem?_toArray, List.getElem?_cons_zero, List.getElem?_cons_succ]; try rfl)
  · kernel_rfl
  · kernel_rfl
  · kernel_rfl
  · exact fun _ _ _ h => h
  · refine Or.inl ⟨by rfl, ?_⟩
    (intro V hSV; (try dsimp only at hSV); have q0 := hSV; go_simp; try with_reducible rfl)
  (try simp only [Act.put, List.setIfInBounds_toArray, List.set_cons_zero, List.set_cons_succ])
  refine wpAnyH_take (i := 21) (oi := ?_) (v := ?_) ?_ ?_ ?_ ?_ ?_ ?_ (by exact hHeld) ?_
  rotate_left 2
  · (simp only [List.getElem?_toArray, List.getElem?_cons_zero, List.getElem?_cons_succ]; try rfl)
  · kernel_rfl
  · kernel_rfl
  · kernel_rfl
  · exact fun _ _ _ h => h
  · refine Or.inl ⟨by rfl, ?_⟩
    (intro V hSV; (try dsimp only at hSV); have q0 := hSV; go_simp; try with_reducible rfl)
  (try simp only [Act.put, List.setIfInBounds_toArray, List.set_cons_zero, List.set_cons_succ])
  refine wpAnyH_take (i := 22) (oi := ?_) (v := ?_) ?_ ?_ ?_ ?_ ?_ ?_ (by exact hHeld) ?_
  rotate_left 2
  · (simp only [List.getElem?_toArray, List.getElem?_cons_zero, List.getElem?_cons_succ]; try rfl)
  · kernel_rfl
  · kernel_rfl
  · kernel_rfl
  · exact fun _ _ _ h => h
  · refine Or.inl ⟨by rfl, ?_⟩
    (intro V hSV; (try dsimp only at hSV); have q0 := hSV; go_simp; try with_reducible rfl)
  (try simp only [Act.put, List.setIfInBounds_toArray, List.set_cons_zero, List.set_cons_succ])
  refine wpAnyH_ready (rs := [16, 23]) (by kernel_rfl) (by simp) ?_
  refine AllReadyH.cons (o := ?_) ?_ (fun K hK => ?_) ?_
  rotate_left 1
  · (simp only [List.getElem?_toArray, List.getElem?_cons_zero, List.getElem?_cons_succ]; try rfl)
  · go_simp
    refine hK.out _ _ (by exact h0) (fun hHeld => ?_)
    clear hK K
    (try simp only [Act.put, List.setIfInBounds_toArray, List.set_cons_zero, List.set_cons_succ])
    refine wpAnyH_ready (rs := [23]) (by kernel_rfl) (by simp) ?_
    refine AllReadyH.cons (o := ?_) ?_ (fun K hK => ?_) AllReadyH.nil
    rotate_left 1
    · (simp only [List.getElem?_toArray, List.getElem?_cons_zero, List.getElem?_cons_succ]; try rfl)
    go_simp
    refine hK.out _ _ (by exact h0) (fun hHeld => ?_)
    clear hK K
    (try simp only [Act.put, List.setIfInBounds_toArray, List.set_cons_zero, List.set_cons_succ])
    refine wpAnyH_take (i := 24) (oi := ?_) (v := ?_) ?_ ?_ ?_ ?_ ?_ ?_ (by exact hHeld) ?_
    rotate_left 2
    · (simp only [List.getElem?_toArray, List.getElem?_cons_zero, List.getElem?_cons_succ]; try rfl)
    · kernel_rfl
    · kernel_rfl
    · kernel_rfl
    · exact fun _ _ _ h => h
    · refine Or.inl ⟨by rfl, ?_⟩
      (intro V hSV; (try dsimp only at hSV); have q0 := hSV; go_simp; try with_reducible rfl)
    (try simp only [Act.put, List.setIfInBounds_toArray, List.set_cons_zero, List.set_cons_succ])
    refine wpAnyH_ready (rs := [25]) (by kernel_rfl) (by simp) ?_
    refine AllReadyH.cons (o := ?_) ?_ (fun K hK => ?_) AllReadyH.nil
    rotate_left 1
    · (simp only [List.getElem?_toArray, List.getElem?_cons_zero, List.getElem?_cons_succ]; try rfl)
    have fi0 := FI0.out
    have fi1 := FI1.out
    have fi2 := FI2.out
    have fi3 := FI3.out
    go_simp
    refine hK.out _ _ (by exact HS1.out) (fun hHeld => ?_)
    clear hK K
    (try simp only [Act.put, List.setIfInBounds_toArray, List.set_cons_zero, List.set_cons_succ])
    clear fi0 fi1 fi2 fi3
    generalize ((((w.setCell ⟨g, i * 4, none⟩ (.int .i64 x1)).setCell ⟨g, i * 4 + 1, none⟩ (.int .i64 y1)).setCell ⟨g, i * 4 + 2, none⟩ (.int .i64 s1)).setCell ⟨g, i * 4 + 3, none⟩ (.int .i64 t1)) = Y at *
    clear k0 k1 k2 k3 m0 m1 m2 m3
    have hv0 := HV0.out
    have hw0 := HW0.out
    have hv1 := HV1.out
    have hw1 := HW1.out
    have hv2 := HV2.out
    have hw2 := HW2.out
    have hv3 := HV3.out
    have hw3 := HW3.out
    refine wpAnyH_take (i := 26) (oi := ?_) (v := ?_) ?_ ?_ ?_ ?_ ?_ ?_ (by exact hHeld) ?_
    rotate_left 2
    · (simp only [List.getElem?_toArray, List.getElem?_cons_zero, List.getElem?_cons_succ]; try rfl)
    · kernel_rfl
    · kernel_rfl
    · kernel_rfl
    · exact fun _ _ _ h => h
    · refine Or.inl ⟨by rfl, ?_⟩
      (intro V hSV; (try dsimp only at hSV); have q0 := hSV; go_simp; try with_reducible rfl)
    (try simp only [Act.put, List.setIfInBounds_toArray, List.set_cons_zero, List.set_cons_succ])
    refine wpAnyH_ready (rs := [27]) (by kernel_rfl) (by simp) ?_
    refine AllReadyH.cons (o := ?_) ?_ (fun K hK => ?_) AllReadyH.nil
    rotate_left 1
    · (simp only [List.getElem?_toArray, List.getElem?_cons_zero, List.getElem?_cons_succ]; try rfl)
    go_simp
    refine hK.out _ _ (by exact HS2.out) (fun hHeld => ?_)
    clear hK K
    (try simp only [Act.put, List.setIfInBounds_toArray, List.set_cons_zero, List.set_cons_succ])
    refine wpAnyH_done (by kernel_rfl) ?_ _
    (try go_wp2)
    go_end0
    exact ⟨rfl, ⟨HF.out.hd, HF.out.row, HF.out.sz, HF.out.ne, HF.out.le, HF.out.cm, HF.out.in_⟩, ⟨HP.out.os, HP.out.tape, HP.out.output, HP.out.size, HP.out.block⟩⟩
  refine AllReadyH.cons (o := ?_) ?_ (fun K hK => ?_) AllReadyH.nil
  rotate_left 1
  · (simp only [List.getElem?_toArray, List.getElem?_cons_zero, List.getElem?_cons_succ]; try rfl)
  go_simp
  refine hK.out _ _ (by exact h0) (fun hHeld => ?_)
  clear hK K
  (try simp only [Act.put, List.setIfInBounds_toArray, List.set_cons_zero, List.set_cons_succ])
  refine wpAnyH_ready (rs := [16]) (by kernel_rfl) (by simp) ?_
  refine AllReadyH.cons (o := ?_) ?_ (fun K hK => ?_) AllReadyH.nil
  rotate_left 1
  · (simp only [List.getElem?_toArray, List.getElem?_cons_zero, List.getElem?_cons_succ]; try rfl)
  go_simp
  refine hK.out _ _ (by exact h0) (fun hHeld => ?_)
  clear hK K
  (try simp only [Act.put, List.setIfInBounds_toArray, List.set_cons_zero, List.set_cons_succ])
  refine wpAnyH_take (i := 24) (oi := ?_) (v := ?_) ?_ ?_ ?_ ?_ ?_ ?_ (by exact hHeld) ?_
  rotate_left 2
  · (simp only [List.getElem?_toArray, List.getElem?_cons_zero, List.getElem?_cons_succ]; try rfl)
  · kernel_rfl
  · kernel_rfl
  · kernel_rfl
  · exact fun _ _ _ h => h
  · refine Or.inl ⟨by rfl, ?_⟩
    (intro V hSV; (try dsimp only at hSV); have q0 := hSV; go_simp; try with_reducible rfl)
  (try simp only [Act.put, List.setIfInBounds_toArray, List.set_cons_zero, List.set_cons_succ])
  refine wpAnyH_ready (rs := [25]) (by kernel_rfl) (by simp) ?_
  refine AllReadyH.cons (o := ?_) ?_ (fun K hK => ?_) AllReadyH.nil
  rotate_left 1
  · (simp only [List.getElem?_toArray, List.getElem?_cons_zero, List.getElem?_cons_succ]; try rfl)
  have fi0 := FI0.out
  have fi1 := FI1.out
  have fi2 := FI2.out
  have fi3 := FI3.out
  go_simp
  refine hK.out _ _ (by exact HS1.out) (fun hHeld => ?_)
  clear hK K
  (try simp only [Act.put, List.setIfInBounds_toArray, List.set_cons_zero, List.set_cons_succ])
  clear fi0 fi1 fi2 fi3
  generalize ((((w.setCell ⟨g, i * 4, none⟩ (.int .i64 x1)).setCell ⟨g, i * 4 + 1, none⟩ (.int .i64 y1)).setCell ⟨g, i * 4 + 2, none⟩ (.int .i64 s1)).setCell ⟨g, i * 4 + 3, none⟩ (.int .i64 t1)) = Y at *
  clear k0 k1 k2 k3 m0 m1 m2 m3
  have hv0 := HV0.out
  have hw0 := HW0.out
  have hv1 := HV1.out
  have hw1 := HW1.out
  have hv2 := HV2.out
  have hw2 := HW2.out
  have hv3 := HV3.out
  have hw3 := HW3.out
  refine wpAnyH_take (i := 26) (oi := ?_) (v := ?_) ?_ ?_ ?_ ?_ ?_ ?_ (by exact hHeld) ?_
  rotate_left 2
  · (simp only [List.getElem?_toArray, List.getElem?_cons_zero, List.getElem?_cons_succ]; try rfl)
  · kernel_rfl
  · kernel_rfl
  · kernel_rfl
  · exact fun _ _ _ h => h
  · refine Or.inl ⟨by rfl, ?_⟩
    (intro V hSV; (try dsimp only at hSV); have q0 := hSV; go_simp; try with_reducible rfl)
  (try simp only [Act.put, List.setIfInBounds_toArray, List.set_cons_zero, List.set_cons_succ])
  refine wpAnyH_ready (rs := [27]) (by kernel_rfl) (by simp) ?_
  refine AllReadyH.cons (o := ?_) ?_ (fun K hK => ?_) AllReadyH.nil
  rotate_left 1
  · (simp only [List.getElem?_toArray, List.getElem?_cons_zero, List.getElem?_cons_succ]; try rfl)
  go_simp
  refine hK.out _ _ (by exact HS2.out) (fun hHeld => ?_)
  clear hK K
  (try simp only [Act.put, List.setIfInBounds_toArray, List.set_cons_zero, List.set_cons_succ])
  refine wpAnyH_done (by kernel_rfl) ?_ _
  (try go_wp2)
  go_end0
  exact ⟨rfl, ⟨HF.out.hd, HF.out.row, HF.out.sz, HF.out.ne, HF.out.le, HF.out.cm, HF.out.in_⟩, ⟨HP.out.os, HP.out.tape, HP.out.output, HP.out.size, HP.out.block⟩⟩

end Go.Proofs.Ytgpjjolgpppeeaa

namespace Go.Proofs.Ytgpjjolgpppeeaa
open Go.RowKit P
set_option linter.unusedVariables false
set_option linter.unusedSimpArgs false
set_option maxRecDepth 100000

set_option maxHeartbeats 4000000 in
theorem heapUp_any (hb g cap : Nat) (H : List Le) (j : Nat) (w : World) (h : Hp w hb g cap H) (hj : UpInv H H.length j) (hl : H.length ≤ 1000000) :
    Calls Try.prog 164 #[.iface 113 (.pointer (some ⟨hb, 0, none⟩)), .int .i64 j] w fun e w' => e = .returned (.tuple #[]) ∧ ∃ G, G.Perm H ∧ IsHeap G H.length ∧ Hp w' hb g cap G ∧ Keeps [g] w w' := by
  have mL : ∀ w, Sem.run Try.prog (method (Try.prog.types.size + 100) 113 (.pointer (some ⟨hb, 0, none⟩)) "Less") w = .ok (197, .pointer (some ⟨hb, 0, none⟩)) w := fun _ => by kernel_rfl
  have mS : ∀ w, Sem.run Try.prog (method (Try.prog.types.size + 100) 113 (.pointer (some ⟨hb, 0, none⟩)) "Swap") w = .ok (200, .pointer (some ⟨hb, 0, none⟩)) w := fun _ => by kernel_rfl
  go_enter Try.func164, Try.ntmps164
  go_wp2
  go_loopw [1] (fun s1 wr => ∃ (j : Nat) (G : List Le), s1 = .int .i64 j ∧ G.Perm H ∧ G.length = H.length ∧ UpInv G H.length j ∧ Hp wr hb g cap G ∧ Keeps [g] w wr)
    (fun s1 _ => (intOf s1).toNat)
  case atStart => exact ⟨j, H, rfl, List.Perm.refl _, rfl, hj, h, Keeps.refl _ _⟩
  case round =>
    obtain ⟨k, G, rfl, hp, hlen, hup, hh, hke⟩ := hrel
    have hlt := hup.lt
    have HUP := Lib.hid hup
    have HH := Lib.hid hh
    have HP := Lib.hid hp
    have HLEN := Lib.hid hlen
    have HKE := Lib.hid hke
    clear hup hh hp hlen hke
    by_cases h0 : k = 0
    · have hheap := Lib.hid (HUP.out.done (.inl h0))
      subst h0
      have hq : ((0 : Nat) : Int) - 1 = -1 := rfl
      go_wp2
      go_end0
      exact ⟨rfl, G, HP.out, hheap.out, HH.out, HKE.out⟩
    · obtain ⟨p, hpp⟩ : ∃ p, (k - 1) / 2 = p := ⟨_, rfl⟩
      have hq : ((k : Int) - 1).tdiv 2 = (p : Int) := by
        rw [Int.tdiv_eq_ediv_of_nonneg (by omega)]
        omega
      have hwp : IntKind.i64.wrap (p : Int) = (p : Int) := IntWalk.i64_in _ (by omega)
      have hwk : IntKind.i64.wrap ((k : Int) - 1) = (k : Int) - 1 := IntWalk.i64_in _ (by omega)
      have hne : ((p : Int) == (k : Int)) = false := beq_eq_false_iff_ne.2 (by omega)
      have hkG : k < G.length := by rw [HLEN.out]; exact hlt
      have hpG : p < G.length := by omega
      have hcall := fun W hW => heapLess_any hb g cap G k p W hW hkG hpG
      have hpk : p < k := by omega
      have HPP := Lib.hid hpp
      have HCALL := Lib.hid hcall
      clear hpp hcall
      go_wp2_with fail
      refine (HCALL.out _ (by exact HH.out)).mono ?_
      rintro e w1 ⟨rfl, hb1⟩
      have HH1 := Lib.hid (HH.out.below hb1)
      have HKE1 := Lib.hid (HKE.out.trans (Keeps.of_below hb1))
      by_cases hlt2 : tl G k < tl G p
      · have hd : decide (tl G k < tl G p) = true := decide_eq_true hlt2
        have HS := Lib.hid (HUP.out.step (by rw [HLEN.out]; exact Nat.le_refl _) (by omega) (by rw [HPP.out]; exact hlt2))
        have hcall2 := Lib.hid (heapSwap_any hb g cap G p k w1 HH1.out hpG hkG)
        rw [hd]
        clear hlt2 hd
        go_wp2_with fail
        refine hcall2.out.mono ?_
        rintro e w2 ⟨rfl, hh2, hke2⟩
        have hS := HS.out
        rw [HPP.out] at hS
        have HS2 := Lib.hid hS
        have HH2 := Lib.hid hh2
        have HKE2 := Lib.hid (HKE1.out.trans hke2)
        have HPM := Lib.hid ((sw_perm hpG hkG).trans HP.out)
        have HL2 := Lib.hid ((sw_length G p k).trans HLEN.out)
        clear hS hh2 hke2
        go_wp2
        go_roundw
        case rel => exact ⟨p, _, rfl, HPM.out, HL2.out, HS2.out, HH2.out, HKE2.out⟩
        case measure => simp [intOf]; omega
      · have hd : decide (tl G k < tl G p) = false := decide_eq_false hlt2
        have hheap := Lib.hid (HUP.out.done (.inr (by rw [HPP.out]; omega)))
        rw [hd]
        clear hlt2 hd
        go_wp2
        go_end0
        exact ⟨rfl, G, HP.out, hheap.out, HH1.out, HKE1.out⟩
end Go.Proofs.Ytgpjjolgpppeeaa

namespace Go.Proofs.Ytgpjjolgpppeeaa
open Go.RowKit P
set_option linter.unusedVariables false
set_option linter.unusedSimpArgs false
set_option maxRecDepth 100000

set_option maxHeartbeats 8000000 in
theorem heapDown_any (hb g cap : Nat) (H : List Le) (n : Nat) (w : World) (h : Hp w hb g cap H) (hn : n ≤ H.length) (hd0 : DownInv H n 0) (hl : H.length ≤ 1000000) (h00 : 0 < H.length) :
    Calls Try.prog 157 #[.iface 113 (.pointer (some ⟨hb, 0, none⟩)), .int .i64 0, .int .i64 n] w fun e w' => (∃ r, e = .returned (.bool r)) ∧ ∃ G, G.Perm H ∧ IsHeap G n ∧ (∀ t, n ≤ t → G.getD t (0, 0, 0, 0) = H.getD t (0, 0, 0, 0)) ∧ Hp w' hb g cap G ∧ Keeps [g] w w' := by
  have mL : ∀ w, Sem.run Try.prog (method (Try.prog.types.size + 100) 113 (.pointer (some ⟨hb, 0, none⟩)) "Less") w = .ok (197, (.pointer (some ⟨hb, 0, none⟩))) w := fun _ => by kernel_rfl
  have mS : ∀ w, Sem.run Try.prog (method (Try.prog.types.size + 100) 113 (.pointer (some ⟨hb, 0, none⟩)) "Swap") w = .ok (200, (.pointer (some ⟨hb, 0, none⟩))) w := fun _ => by kernel_rfl
  go_enter Try.func157, Try.ntmps157
  go_wp2
  go_loopw [7] (fun s7 wr => ∃ (i : Nat) (G : List Le), s7 = .int .i64 i ∧ i < H.length ∧ G.Perm H ∧ G.length = H.length ∧ DownInv G n i ∧ (∀ t, n ≤ t → G.getD t (0, 0, 0, 0) = H.getD t (0, 0, 0, 0)) ∧ Hp wr hb g cap G ∧ Keeps [g] w wr)
    (fun s7 _ => n - (intOf s7).toNat)
  case atStart => exact ⟨0, H, rfl, h00, List.Perm.refl _, rfl, hd0, fun _ _ => rfl, h, Keeps.refl _ _⟩
  case round =>
    obtain ⟨i, G, rfl, hil, hp, hlen, hdn, hbe, hh, hke⟩ := hrel
    have HDN := Lib.hid hdn
    have HBE := Lib.hid hbe
    have HH := Lib.hid hh
    have HP := Lib.hid hp
    have HLEN := Lib.hid hlen
    have HKE := Lib.hid hke
    clear hdn hbe hh hp hlen hke hd0
    obtain ⟨a, ha⟩ : ∃ a, 2 * i + 1 = a := ⟨_, rfl⟩
    have ha2 : 2 * (i : Int) + 1 = (a : Int) := by omega
    have hw1 : IntKind.i64.wrap (2 * (i : Int)) = 2 * (i : Int) := IntWalk.i64_in _ (by omega)
    have hw2 : IntKind.i64.wrap (a : Int) = (a : Int) := IntWalk.i64_in _ (by omega)
    have HA := Lib.hid ha
    by_cases han : a < n
    · have hiG : i < G.length := by rw [HLEN.out]; omega
      obtain ⟨b, hbb⟩ : ∃ b, a + 1 = b := ⟨_, rfl⟩
      have hb2 : (a : Int) + 1 = (b : Int) := by omega
      have hw3 : IntKind.i64.wrap (b : Int) = (b : Int) := IntWalk.i64_in _ (by omega)
      have HB := Lib.hid hbb
      have haG : a < G.length := by rw [HLEN.out]; omega
      clear ha hbb
      by_cases hbn : b < n
      · have hbG : b < G.length := by rw [HLEN.out]; omega
        have hcallb := Lib.hid (fun W hW => heapLess_any hb g cap G b a W hW hbG haG)
        go_wp2_with fail
        refine (hcallb.out _ (by exact HH.out)).mono ?_
        rintro e w4 ⟨rfl, hb4⟩
        have HH4 := Lib.hid (HH.out.below hb4)
        have HK4 := Lib.hid (HKE.out.trans (Keeps.of_below hb4))
        clear hb4
        by_cases hc : tl G b < tl G a
        · have hdc : decide (tl G b < tl G a) = true := decide_eq_true hc
          have HMN : Hid (∀ k, 0 < k → k < n → (k - 1) / 2 = i → tl G b ≤ tl G k) := Lib.hid (fun k h1 h2 h3 => by
            have h9 := HA.out
            have h8 := HB.out
            rcases (show k = a ∨ k = b by omega) with e | e
            · subst e; omega
            · subst e; exact Int.le_refl _)
          rw [hdc]
          clear hc hdc
          have hjG : b < G.length := by rw [HLEN.out]; omega
          have hcallj := Lib.hid (fun W hW => heapLess_any hb g cap G b i W hW hjG hiG)
          go_wp2_with fail
          refine (hcallj.out _ (by exact HH4.out)).mono ?_
          rintro e w5 ⟨rfl, hb5⟩
          have HH5 := Lib.hid (HH4.out.below hb5)
          have HK5 := Lib.hid (HK4.out.trans (Keeps.of_below hb5))
          clear hb5
          by_cases hl : tl G b < tl G i
          · have hd : decide (tl G b < tl G i) = true := decide_eq_true hl
            have HS := Lib.hid (HDN.out.step (j := b) (by rw [HLEN.out]; exact hn) (by omega) (by omega) (by have h9 := HA.out; have h8 := HB.out; omega) hl HMN.out)
            have HSW := Lib.hid (heapSwap_any hb g cap G i b w5 HH5.out hiG hjG)
            have HBY : Hid (∀ t, n ≤ t → (sw G i b).getD t (0, 0, 0, 0) = H.getD t (0, 0, 0, 0)) := Lib.hid (fun t ht => by
              have h9 := HA.out
              have h8 := HB.out
              rw [sw_getD hiG hjG t, if_neg (by omega), if_neg (by omega)]
              exact HBE.out t ht)
            have HPM := Lib.hid ((sw_perm hiG hjG).trans HP.out)
            have HL2 := Lib.hid ((sw_length G i b).trans HLEN.out)
            have hij : i < b := by have h9 := HA.out; have h8 := HB.out; omega
            rw [hd]
            clear hl hd
            go_wp2_with fail
            refine HSW.out.mono ?_
            rintro e w6 ⟨rfl, hh6, hke6⟩
            have HH6 := Lib.hid hh6
            have HK6 := Lib.hid (HK5.out.trans hke6)
            clear hh6 hke6
            go_wp2
            go_roundw
            case rel => exact ⟨b, _, rfl, by omega, HPM.out, HL2.out, HS.out, HBY.out, HH6.out, HK6.out⟩
            case measure => simp [intOf]; omega
          · have hd : decide (tl G b < tl G i) = false := decide_eq_false hl
            have hheap := Lib.hid (HDN.out.done (fun k h1 h2 h3 => Int.le_trans (by omega) (HMN.out k h1 h2 h3)))
            rw [hd]
            clear hl hd
            go_wp2
            go_ret
            exact ⟨⟨_, rfl⟩, G, HP.out, hheap.out, HBE.out, HH5.out, HK5.out⟩
        · have hdc : decide (tl G b < tl G a) = false := decide_eq_false hc
          have HMN : Hid (∀ k, 0 < k → k < n → (k - 1) / 2 = i → tl G a ≤ tl G k) := Lib.hid (fun k h1 h2 h3 => by
            have h9 := HA.out
            have h8 := HB.out
            rcases (show k = a ∨ k = b by omega) with e | e
            · subst e; exact Int.le_refl _
            · subst e; omega)
          rw [hdc]
          clear hc hdc
          have hjG : a < G.length := by rw [HLEN.out]; omega
          have hcallj := Lib.hid (fun W hW => heapLess_any hb g cap G a i W hW hjG hiG)
          go_wp2_with fail
          refine (hcallj.out _ (by exact HH4.out)).mono ?_
          rintro e w5 ⟨rfl, hb5⟩
          have HH5 := Lib.hid (HH4.out.below hb5)
          have HK5 := Lib.hid (HK4.out.trans (Keeps.of_below hb5))
          clear hb5
          by_cases hl : tl G a < tl G i
          · have hd : decide (tl G a < tl G i) = true := decide_eq_true hl
            have HS := Lib.hid (HDN.out.step (j := a) (by rw [HLEN.out]; exact hn) (by omega) (by omega) (by have h9 := HA.out; have h8 := HB.out; omega) hl HMN.out)
            have HSW := Lib.hid (heapSwap_any hb g cap G i a w5 HH5.out hiG hjG)
            have HBY : Hid (∀ t, n ≤ t → (sw G i a).getD t (0, 0, 0, 0) = H.getD t (0, 0, 0, 0)) := Lib.hid (fun t ht => by
              have h9 := HA.out
              have h8 := HB.out
              rw [sw_getD hiG hjG t, if_neg (by omega), if_neg (by omega)]
              exact HBE.out t ht)
            have HPM := Lib.hid ((sw_perm hiG hjG).trans HP.out)
            have HL2 := Lib.hid ((sw_length G i a).trans HLEN.out)
            have hij : i < a := by have h9 := HA.out; have h8 := HB.out; omega
            rw [hd]
            clear hl hd
            go_wp2_with fail
            refine HSW.out.mono ?_
            rintro e w6 ⟨rfl, hh6, hke6⟩
            have HH6 := Lib.hid hh6
            have HK6 := Lib.hid (HK5.out.trans hke6)
            clear hh6 hke6
            go_wp2
            go_roundw
            case rel => exact ⟨a, _, rfl, by omega, HPM.out, HL2.out, HS.out, HBY.out, HH6.out, HK6.out⟩
            case measure => simp [intOf]; omega
          · have hd : decide (tl G a < tl G i) = false := decide_eq_false hl
            have hheap := Lib.hid (HDN.out.done (fun k h1 h2 h3 => Int.le_trans (by omega) (HMN.out k h1 h2 h3)))
            rw [hd]
            clear hl hd
            go_wp2
            go_ret
            exact ⟨⟨_, rfl⟩, G, HP.out, hheap.out, HBE.out, HH5.out, HK5.out⟩
      · have HMN : Hid (∀ k, 0 < k → k < n → (k - 1) / 2 = i → tl G a ≤ tl G k) := Lib.hid (fun k h1 h2 h3 => by
          have h9 := HA.out
          have h8 := HB.out
          have e : k = a := by omega
          subst e; exact Int.le_refl _)
        have hjG : a < G.length := by rw [HLEN.out]; omega
        have hcallj := Lib.hid (fun W hW => heapLess_any hb g cap G a i W hW hjG hiG)
        go_wp2_with fail
        refine (hcallj.out _ (by exact HH.out)).mono ?_
        rintro e w5 ⟨rfl, hb5⟩
        have HH5 := Lib.hid (HH.out.below hb5)
        have HK5 := Lib.hid (HKE.out.trans (Keeps.of_below hb5))
        clear hb5
        by_cases hl : tl G a < tl G i
        · have hd : decide (tl G a < tl G i) = true := decide_eq_true hl
          have HS := Lib.hid (HDN.out.step (j := a) (by rw [HLEN.out]; exact hn) (by omega) (by omega) (by have h9 := HA.out; have h8 := HB.out; omega) hl HMN.out)
          have HSW := Lib.hid (heapSwap_any hb g cap G i a w5 HH5.out hiG hjG)
          have HBY : Hid (∀ t, n ≤ t → (sw G i a).getD t (0, 0, 0, 0) = H.getD t (0, 0, 0, 0)) := Lib.hid (fun t ht => by
            have h9 := HA.out
            have h8 := HB.out
            rw [sw_getD hiG hjG t, if_neg (by omega), if_neg (by omega)]
            exact HBE.out t ht)
          have HPM := Lib.hid ((sw_perm hiG hjG).trans HP.out)
          have HL2 := Lib.hid ((sw_length G i a).trans HLEN.out)
          have hij : i < a := by have h9 := HA.out; have h8 := HB.out; omega
          rw [hd]
          clear hl hd
          go_wp2_with fail
          refine HSW.out.mono ?_
          rintro e w6 ⟨rfl, hh6, hke6⟩
          have HH6 := Lib.hid hh6
          have HK6 := Lib.hid (HK5.out.trans hke6)
          clear hh6 hke6
          go_wp2
          go_roundw
          case rel => exact ⟨a, _, rfl, by omega, HPM.out, HL2.out, HS.out, HBY.out, HH6.out, HK6.out⟩
          case measure => simp [intOf]; omega
        · have hd : decide (tl G a < tl G i) = false := decide_eq_false hl
          have hheap := Lib.hid (HDN.out.done (fun k h1 h2 h3 => Int.le_trans (by omega) (HMN.out k h1 h2 h3)))
          rw [hd]
          clear hl hd
          go_wp2
          go_ret
          exact ⟨⟨_, rfl⟩, G, HP.out, hheap.out, HBE.out, HH5.out, HK5.out⟩
    · have hheap := Lib.hid (HDN.out.done (fun k h1 h2 h3 => by have h9 := HA.out; omega))
      clear ha
      go_wp2
      go_ret
      exact ⟨⟨_, rfl⟩, G, HP.out, hheap.out, HBE.out, HH.out, HKE.out⟩
end Go.Proofs.Ytgpjjolgpppeeaa

namespace Go.Proofs.Ytgpjjolgpppeeaa
open Go.RowKit P
set_option linter.unusedVariables false
set_option linter.unusedSimpArgs false
set_option maxRecDepth 100000

theorem RowL.take {w : World} {g : Nat} {es : List Le} (h : RowL w g es) (m : Nat) : RowL w g (es.take m) := by
  obtain ⟨cur, hc, hs, hv⟩ := h
  refine ⟨cur, hc, by rw [List.length_take]; omega, fun i hi => ?_⟩
  rw [List.length_take] at hi
  rw [List.getElem_take]
  exact hv i (by omega)

set_option maxHeartbeats 4000000 in
theorem heapPopM_any (hb g cap : Nat) (H : List Le) (m : Nat) (x y s t : Int) (w : World) (h : Hp w hb g cap H) (hm : H.length = m + 1) (hx : H[m]'(by omega) = (x, y, s, t)) (hl : H.length ≤ 1000000) :
    Calls Try.prog 198 #[.pointer (some ⟨hb, 0, none⟩)] w fun e w' => e = .returned (.iface 43 (.agg #[.int .i64 x, .int .i64 y, .int .i64 s, .int .i64 t])) ∧ Hp w' hb g cap (H.take m) ∧ Keeps [hb] w w' := by
  obtain ⟨x', y', s', t', e', k0, k1, k2, k3, _⟩ := h.at_ m (by omega)
  rw [hx] at e'
  simp only [Prod.mk.injEq] at e'
  obtain ⟨rfl, rfl, rfl, rfl⟩ := e'
  have hal := (Below.refl w.heap.size w).alloc (Nat.le_refl _) (.cells #[.int .i64 x, .int .i64 y, .int .i64 s, .int .i64 t] 43)
  have h1 := h.below hal
  have bx := Blk.new w #[.int .i64 x, .int .i64 y, .int .i64 s, .int .i64 t] 43
  have h0 : w.cell? ⟨hb, 0, none⟩ = some (.slice (some ⟨g, 0, none⟩) H.length cap) := h.hd.cell 0
  have hfz := h1.hd.frozen 0
  have h0' : (w.alloc (.cells #[.int .i64 x, .int .i64 y, .int .i64 s, .int .i64 t] 43)).cell? ⟨hb, 0, none⟩ = some (.slice (some ⟨g, 0, none⟩) H.length cap) := h1.hd.cell 0
  have zh := h.hd.lt
  have hne := h.ne
  have hq := h.hd.set 0 (.slice (some ⟨g, 0, none⟩) m cap)
  have hlen : (H.take m).length = m := by rw [List.length_take]; omega
  have hkeep : (w.setCell ⟨hb, 0, none⟩ (.slice (some ⟨g, 0, none⟩) m cap)).heap[g]? = w.heap[g]? := Below.heap_setCell _ _ _ _ (fun e => hne (by simpa using e.symm))
  have hfin0 : Hp (w.setCell ⟨hb, 0, none⟩ (.slice (some ⟨g, 0, none⟩) m cap)) hb g cap (H.take m) := by
    refine ⟨by rw [hlen]; simpa using hq, (h.row.keep hkeep).take m, ?_, hne, by rw [hlen]; have := h.le; omega, h.cm, fun l hl => h.in_ l (List.mem_of_mem_take hl)⟩
    obtain ⟨cur, c1, c2⟩ := h.sz
    exact ⟨cur, c1.of_block hkeep, c2⟩
  have hal2 := (Below.refl (w.setCell ⟨hb, 0, none⟩ (.slice (some ⟨g, 0, none⟩) m cap)).heap.size (w.setCell ⟨hb, 0, none⟩ (.slice (some ⟨g, 0, none⟩) m cap))).alloc (Nat.le_refl _) (.cells #[.int .i64 x, .int .i64 y, .int .i64 s, .int .i64 t] 43)
  have hfin := hfin0.below hal2
  have hkp := ((Keeps.refl [hb] w).put (List.mem_singleton.2 rfl) 0 (.slice (some ⟨g, 0, none⟩) m cap)).trans (Keeps.of_below hal2)
  have b0 := ((bx.setOther (a := ⟨hb, 0, none⟩) (by show w.heap.size ≠ hb; omega) (.slice (some ⟨g, 0, none⟩) m cap)).cell 0)
  have b1 := ((bx.setOther (a := ⟨hb, 0, none⟩) (by show w.heap.size ≠ hb; omega) (.slice (some ⟨g, 0, none⟩) m cap)).cell 1)
  have b2 := ((bx.setOther (a := ⟨hb, 0, none⟩) (by show w.heap.size ≠ hb; omega) (.slice (some ⟨g, 0, none⟩) m cap)).cell 2)
  have b3 := ((bx.setOther (a := ⟨hb, 0, none⟩) (by show w.heap.size ≠ hb; omega) (.slice (some ⟨g, 0, none⟩) m cap)).cell 3)
  have hS := slcLe_head g H.length cap m (by omega) h.le h.cm
  have hmi : (H.length : Int) - 1 = (m : Int) := by omega
  have hwm : IntKind.i64.wrap (m : Int) = (m : Int) := IntWalk.i64_in _ (by omega)
  have hm1 : (m : Int) < (H.length : Int) := by omega
  have HF := Lib.hid hfin
  have HK := Lib.hid hkp
  clear hfin hfin0 hkp h1 hq bx hal hal2 hlen hkeep hx hm
  go_enter Try.func198, Try.ntmps198
  go_wp2
  go_ret
  exact ⟨rfl, HF.out, HK.out⟩
end Go.Proofs.Ytgpjjolgpppeeaa

namespace Go.Proofs.Ytgpjjolgpppeeaa
open Go.RowKit P
set_option linter.unusedVariables false
set_option linter.unusedSimpArgs false
set_option maxRecDepth 100000

theorem IsHeap.take {G : List Le} {m : Nat} (h : IsHeap G m) (hm : m ≤ G.length) : IsHeap (G.take m) (G.take m).length := by
  have hl : (G.take m).length = m := by rw [List.length_take]; omega
  rw [hl]
  have T : ∀ k, k < m → tl (G.take m) k = tl G k := fun k hk => by
    unfold tl
    rw [List.getD_eq_getElem?_getD, List.getD_eq_getElem?_getD, List.getElem?_take, if_pos hk]
  intro i h0 hi
  rw [T _ (by omega), T _ hi]
  exact h i h0 hi
theorem IsHeap.least {H : List Le} (h : IsHeap H H.length) : ∀ l ∈ H, tl H 0 ≤ l.2.2.2 := by
  intro l hl
  obtain ⟨i, hi, rfl⟩ := List.getElem_of_mem hl
  have h1 := h.top i hi
  rw [tl_at hi] at h1
  exact h1
theorem last_perm {G : List Le} {m : Nat} (hm : G.length = m + 1) : (G[m]'(by omega) :: G.take m).Perm G := by
  have h1 : G.take m ++ [G[m]'(by omega)] = G := by
    have h2 := List.take_succ_eq_append_getElem (l := G) (i := m) (by omega)
    rw [← h2, List.take_of_length_le (by omega)]
  have h3 : (G[m]'(by omega) :: G.take m).Perm (G.take m ++ [G[m]'(by omega)]) := (List.perm_append_singleton _ _).symm
  rw [h1] at h3
  exact h3

set_option maxHeartbeats 4000000 in
theorem heapPop_any (hb g cap : Nat) (H : List Le) (w : World) (h : Hp w hb g cap H) (h0 : 0 < H.length) (hh : IsHeap H H.length) (hl : H.length ≤ 1000000) :
    Calls Try.prog 125 #[.iface 113 (.pointer (some ⟨hb, 0, none⟩))] w fun e w' => ∃ (x y s t : Int) (G : List Le), e = .returned (.iface 43 (.agg #[.int .i64 x, .int .i64 y, .int .i64 s, .int .i64 t])) ∧
      ((x, y, s, t) :: G).Perm H ∧ H[0]'h0 = (x, y, s, t) ∧ (∀ l ∈ H, t ≤ l.2.2.2) ∧ IsHeap G G.length ∧ Hp w' hb g cap G ∧ Keeps [hb, g] w w' := by
  have mL : ∀ w, Sem.run Try.prog (method (Try.prog.types.size + 100) 113 (.pointer (some ⟨hb, 0, none⟩)) "Len") w = .ok (124, .pointer (some ⟨hb, 0, none⟩)) w := fun _ => by kernel_rfl
  have mS : ∀ w, Sem.run Try.prog (method (Try.prog.types.size + 100) 113 (.pointer (some ⟨hb, 0, none⟩)) "Swap") w = .ok (200, .pointer (some ⟨hb, 0, none⟩)) w := fun _ => by kernel_rfl
  have mP : ∀ w, Sem.run Try.prog (method (Try.prog.types.size + 100) 113 (.pointer (some ⟨hb, 0, none⟩)) "Pop") w = .ok (198, .pointer (some ⟨hb, 0, none⟩)) w := fun _ => by kernel_rfl
  obtain ⟨m, hm⟩ : ∃ m, H.length = m + 1 := ⟨H.length - 1, by omega⟩
  have hmi : (H.length : Int) - 1 = (m : Int) := by omega
  have hwm : IntKind.i64.wrap (m : Int) = (m : Int) := IntWalk.i64_in _ (by omega)
  have hsw := sw_length H 0 m
  have hdn : DownInv (sw H 0 m) m 0 := by rw [hm] at hh; exact hh.down (by omega)
  have hlen := heapLen_any hb g cap H w h
  have hswap := heapSwap_any hb g cap H 0 m w h (by omega) (by omega)
  have HDN := Lib.hid hdn
  have HSW := Lib.hid hswap
  have HM := Lib.hid hm
  have HS := Lib.hid hsw
  clear hdn hswap hm hsw
  go_enter Try.func125, Try.ntmps125
  go_wp2_with fail
  refine hlen.mono ?_
  rintro e w1 ⟨rfl, rfl⟩
  clear hlen
  go_wp2_with fail
  refine HSW.out.mono ?_
  rintro e w2 ⟨rfl, hh2, hke2⟩
  have HK2 := Lib.hid hke2
  have hdown := heapDown_any hb g cap (sw H 0 m) m w2 hh2 (by rw [HS.out, HM.out]; omega) HDN.out (by rw [HS.out]; exact hl) (by rw [HS.out]; exact h0)
  clear hh2 hke2
  go_wp2_with fail
  refine hdown.mono ?_
  rintro e w3 ⟨⟨r, rfl⟩, G, hp3, hi3, hb3, hh3, hk3⟩
  have hGl : G.length = m + 1 := by rw [hp3.length_eq, HS.out, HM.out]
  have hGm : G[m]'(by omega) = H[0]'h0 := by
    have h9 := hb3 m (Nat.le_refl _)
    rw [sw_getD (by omega) (by rw [HM.out]; omega), if_pos rfl, List.getD_eq_getElem?_getD, List.getD_eq_getElem?_getD, List.getElem?_eq_getElem (by omega), List.getElem?_eq_getElem h0] at h9
    exact h9
  obtain ⟨⟨x, y, s, t⟩, hx⟩ : ∃ l, H[0]'h0 = l := ⟨_, rfl⟩
  have hpop := heapPopM_any hb g cap G m x y s t w3 hh3 hGl (hGm.trans hx) (by rw [hGl, ← HM.out]; exact hl)
  have hperm : ((x, y, s, t) :: G.take m).Perm H := by
    have h9 := last_perm hGl
    rw [hGm, hx] at h9
    exact (h9.trans hp3).trans (sw_perm h0 (by rw [HM.out]; omega))
  have hleast : ∀ l ∈ H, t ≤ l.2.2.2 := by
    intro l hl2
    have h9 := hh.least l hl2
    rw [tl_at h0, hx] at h9
    exact h9
  have HPM := Lib.hid hperm
  have HLS := Lib.hid hleast
  have HTK := Lib.hid (hi3.take (by omega))
  have HX := Lib.hid hx
  have HK3 := Lib.hid ((HK2.out.mono (fq := [hb, g]) (fun k hk => by simp at hk; simp [hk])).trans (hk3.mono (fun k hk => by simp at hk; simp [hk])))
  clear hp3 hi3 hb3 hh3 hk3 hGl hGm hx hperm hleast
  go_wp2_with fail
  refine hpop.mono ?_
  rintro e w4 ⟨rfl, hh4, hk4⟩
  have HH4 := Lib.hid hh4
  have HK4 := Lib.hid (HK3.out.trans (hk4.mono (fun k hk => by simp at hk; simp [hk])))
  clear hh4 hk4 hpop
  go_wp2
  go_ret
  exact ⟨x, y, s, t, _, rfl, HPM.out, HX.out, HLS.out, HTK.out, HH4.out, HK4.out⟩
end Go.Proofs.Ytgpjjolgpppeeaa

namespace Go.Proofs.Ytgpjjolgpppeeaa
open Go.RowKit P
set_option linter.unusedVariables false
set_option linter.unusedSimpArgs false
set_option maxRecDepth 100000

/-- The heap at hb, its leases in the slice v of the call's own. -/
structure Hq (w : World) (B hb : Nat) (v : Value) (H : List Le) : Prop where
  hd : Blk w hb #[v, .func (.func 138) #[] #[]] 150
  own : OwR w B v H
  ne : ∀ k ∈ v.ownBlock.toList, k ≠ hb
  hB : B ≤ hb

set_option maxHeartbeats 4000000 in
theorem heapPushM_any (B hb : Nat) (v : Value) (H : List Le) (x y s t : Int) (w : World) (h : Hq w B hb v H) (hin : leIn (x, y, s, t)) (hl : H.length ≤ 100000) (hBw : B ≤ w.heap.size) :
    Calls Try.prog 199 #[.pointer (some ⟨hb, 0, none⟩), .iface 43 (.agg #[.int .i64 x, .int .i64 y, .int .i64 s, .int .i64 t])] w fun e w' => e = .returned (.tuple #[]) ∧ ∃ v', Hq w' B hb v' (H ++ [(x, y, s, t)]) ∧ Below B w w' := by
  have hal := (Below.refl w.heap.size w).alloc (Nat.le_refl _) (.cells #[.int .i64 x, .int .i64 y, .int .i64 s, .int .i64 t] 43)
  have h0 : w.cell? ⟨hb, 0, none⟩ = some v := h.hd.cell 0
  have HD1 := Lib.hid (h.hd.below hal)
  have HO := Lib.hid (h.own.below hal)
  have HNE := Lib.hid h.ne
  have HNW : Hid (Ll (w.alloc (.cells #[.int .i64 x, .int .i64 y, .int .i64 s, .int .i64 t] 43)) (some ⟨w.heap.size, 0, none⟩) [(x, y, s, t)]) := Lib.hid (ll_new w hin)
  have zh := h.hd.lt
  have hBh := h.hB
  have hTA : ∀ W, (Instr.typeAssert (.iface 43 (.agg #[.int .i64 x, .int .i64 y, .int .i64 s, .int .i64 t])) 20 43 false).run Try.prog W = .ok (.agg #[.int .i64 x, .int .i64 y, .int .i64 s, .int .i64 t]) W := fun W => by kernel_rfl
  clear h hal
  go_enter Try.func199, Try.ntmps199
  go_wp2_with fail
  refine wp_region_held_drew (S := (fun V => True)) (by kernel_rfl) (by exact trivial) (fun hHeld => ?_)
  refine wpAnyH_take (i := 0) (oi := ?_) (v := ?_) ?_ ?_ ?_ ?_ ?_ ?_ (by exact hHeld) ?_
  rotate_left 2
  · (simp only [List.getElem?_toArray, List.getElem?_cons_zero]; try rfl)
  · kernel_rfl
  · kernel_rfl
  · kernel_rfl
  · exact fun _ _ _ h => h
  · refine Or.inl ⟨by rfl, ?_⟩
    (intro V hSV; (try dsimp only at hSV); obtain ⟨⟩ := hSV; go_simp; try with_reducible rfl)
  (try simp only [Act.put, List.setIfInBounds_toArray, List.set_cons_zero, List.set_cons_succ])
  refine wpAnyH_take (i := 1) (oi := ?_) (v := ?_) ?_ ?_ ?_ ?_ ?_ ?_ (by exact hHeld) ?_
  rotate_left 2
  · (simp only [List.getElem?_toArray, List.getElem?_cons_zero, List.getElem?_cons_succ]; try rfl)
  · kernel_rfl
  · kernel_rfl
  · kernel_rfl
  · exact fun _ _ _ h => h
  · refine Or.inl ⟨by rfl, ?_⟩
    (intro V hSV; (try dsimp only at hSV); obtain ⟨⟩ := hSV; go_simp; try with_reducible rfl)
  (try simp only [Act.put, List.setIfInBounds_toArray, List.set_cons_zero, List.set_cons_succ])
  refine wpAnyH_take (i := 2) (oi := ?_) (v := ?_) ?_ ?_ ?_ ?_ ?_ ?_ (by exact hHeld) ?_
  rotate_left 2
  · (simp only [List.getElem?_toArray, List.getElem?_cons_zero, List.getElem?_cons_succ]; try rfl)
  · kernel_rfl
  · kernel_rfl
  · kernel_rfl
  · exact fun _ _ _ h => h
  · refine Or.inl ⟨by rfl, ?_⟩
    (intro V hSV; (try dsimp only at hSV); obtain ⟨⟩ := hSV; go_simp; try with_reducible rfl)
  (try simp only [Act.put, List.setIfInBounds_toArray, List.set_cons_zero, List.set_cons_succ])
  refine wpAnyH_take (i := 3) (oi := ?_) (v := ?_) ?_ ?_ ?_ ?_ ?_ ?_ (by exact hHeld) ?_
  rotate_left 2
  · (simp only [List.getElem?_toArray, List.getElem?_cons_zero, List.getElem?_cons_succ]; try rfl)
  · kernel_rfl
  · kernel_rfl
  · kernel_rfl
  · exact fun _ _ _ h => h
  · refine Or.inl ⟨by rfl, ?_⟩
    (intro V hSV; (try dsimp only at hSV); obtain ⟨⟩ := hSV; go_simp; try with_reducible rfl)
  (try simp only [Act.put, List.setIfInBounds_toArray, List.set_cons_zero, List.set_cons_succ])
  refine wpAnyH_take (i := 5) (oi := ?_) (v := ?_) ?_ ?_ ?_ ?_ ?_ ?_ (by exact hHeld) ?_
  rotate_left 2
  · (simp only [List.getElem?_toArray, List.getElem?_cons_zero, List.getElem?_cons_succ]; try rfl)
  · kernel_rfl
  · kernel_rfl
  · kernel_rfl
  · exact fun _ _ _ h => h
  · refine Or.inl ⟨by rfl, ?_⟩
    (intro V hSV; (try dsimp only at hSV); obtain ⟨⟩ := hSV; go_simp; try with_reducible rfl)
  (try simp only [Act.put, List.setIfInBounds_toArray, List.set_cons_zero, List.set_cons_succ])
  refine wpAnyH_take (i := 6) (oi := ?_) (v := ?_) ?_ ?_ ?_ ?_ ?_ ?_ (by exact hHeld) ?_
  rotate_left 2
  · (simp only [List.getElem?_toArray, List.getElem?_cons_zero, List.getElem?_cons_succ]; try rfl)
  · kernel_rfl
  · kernel_rfl
  · kernel_rfl
  · exact fun _ _ _ h => h
  · refine Or.inl ⟨by rfl, ?_⟩
    (intro V hSV; (try dsimp only at hSV); obtain ⟨⟩ := hSV; go_simp; try with_reducible rfl)
  (try simp only [Act.put, List.setIfInBounds_toArray, List.set_cons_zero, List.set_cons_succ])
  refine wpAnyH_ready (rs := [4, 7]) (by kernel_rfl) (by simp) ?_
  refine AllReadyH.cons (o := ?_) ?_ (fun K hK => ?_) ?_
  rotate_left 1
  · (simp only [List.getElem?_toArray, List.getElem?_cons_zero, List.getElem?_cons_succ]; try rfl)
  · go_simp
    refine hK.out _ _ (by exact trivial) (fun hHeld => ?_)
    clear hK K
    (try simp only [Act.put, List.setIfInBounds_toArray, List.set_cons_zero, List.set_cons_succ])
    refine wpAnyH_ready (rs := [7]) (by kernel_rfl) (by simp) ?_
    refine AllReadyH.cons (o := ?_) ?_ (fun K hK => ?_) AllReadyH.nil
    rotate_left 1
    · (simp only [List.getElem?_toArray, List.getElem?_cons_zero, List.getElem?_cons_succ]; try rfl)
    go_simp
    refine hK.out _ _ (by exact trivial) (fun hHeld => ?_)
    clear hK K
    (try simp only [Act.put, List.setIfInBounds_toArray, List.set_cons_zero, List.set_cons_succ])
    refine wpAnyH_ready (rs := [8]) (by kernel_rfl) (by simp) ?_
    refine AllReadyH.cons (o := ?_) ?_ (fun K hK => ?_) AllReadyH.nil
    rotate_left 1
    · (simp only [List.getElem?_toArray, List.getElem?_cons_zero, List.getElem?_cons_succ]; try rfl)
    refine step_app_le rfl (.tmp 8) (.tmp 11) rfl B v H [(x, y, s, t)] (some ⟨w.heap.size, 0, none⟩) 1 1 rfl rfl rfl (by exact ⟨HO.out.row, HO.out.in_⟩) (by exact HNW.out) (by simp; omega) (by simp; omega) ?_
    intro v4 w4 hown4 hg4 hor
    have hg4 : (w.alloc (.cells #[.int .i64 x, .int .i64 y, .int .i64 s, .int .i64 t] 43)).grownBy w4 v.ownBlock := ⟨hg4.os, hg4.tape, hg4.output, hg4.size, hg4.block⟩
    obtain ⟨A4, d4, rfl, _, _, _⟩ := hown4.ll
    have H4 := Lib.hid hown4
    have HG := Lib.hid hg4
    have HOR := Lib.hid hor
    have hdb : w4.heap[hb]? = (w.alloc (.cells #[.int .i64 x, .int .i64 y, .int .i64 s, .int .i64 t] 43)).heap[hb]? := hg4.block hb HD1.out.lt (fun e => HNE.out hb (by rw [← e]; simp) rfl)
    have HD4 := Lib.hid (HD1.out.of_block hdb)
    have f4 := HD4.out.frozen 0
    have c4 := HD4.out.cell 0
    clear hown4 hg4 hor hdb
    (try go_simp)
    refine hK.out _ _ (by exact trivial) (fun hHeld => ?_)
    clear hK K
    (try simp only [Act.put, List.setIfInBounds_toArray, List.set_cons_zero, List.set_cons_succ])
    refine wpAnyH_take (i := 9) (oi := ?_) (v := ?_) ?_ ?_ ?_ ?_ ?_ ?_ (by exact hHeld) ?_
    rotate_left 2
    · (simp only [List.getElem?_toArray, List.getElem?_cons_zero, List.getElem?_cons_succ]; try rfl)
    · kernel_rfl
    · kernel_rfl
    · kernel_rfl
    · exact fun _ _ _ h => h
    · refine Or.inl ⟨by rfl, ?_⟩
      (intro V hSV; (try dsimp only at hSV); obtain ⟨⟩ := hSV; go_simp; try with_reducible rfl)
    (try simp only [Act.put, List.setIfInBounds_toArray, List.set_cons_zero, List.set_cons_succ])
    refine wpAnyH_take (i := 10) (oi := ?_) (v := ?_) ?_ ?_ ?_ ?_ ?_ ?_ (by exact hHeld) ?_
    rotate_left 2
    · (simp only [List.getElem?_toArray, List.getElem?_cons_zero, List.getElem?_cons_succ]; try rfl)
    · kernel_rfl
    · kernel_rfl
    · kernel_rfl
    · exact fun _ _ _ h => h
    · refine Or.inl ⟨by rfl, ?_⟩
      (intro V hSV; (try dsimp only at hSV); obtain ⟨⟩ := hSV; go_simp; try with_reducible rfl)
    (try simp only [Act.put, List.setIfInBounds_toArray, List.set_cons_zero, List.set_cons_succ])
    refine wpAnyH_ready (rs := [11]) (by kernel_rfl) (by simp) ?_
    refine AllReadyH.cons (o := ?_) ?_ (fun K hK => ?_) AllReadyH.nil
    rotate_left 1
    · (simp only [List.getElem?_toArray, List.getElem?_cons_zero, List.getElem?_cons_succ]; try rfl)
    go_simp
    refine hK.out _ _ (by exact trivial) (fun hHeld => ?_)
    clear hK K
    (try simp only [Act.put, List.setIfInBounds_toArray, List.set_cons_zero, List.set_cons_succ])
    refine wpAnyH_done (by kernel_rfl) ?_ _
    have q9 := HD4.out.set 0 (.slice A4 (H ++ [(x, y, s, t)]).length d4)
    have hdis : ∀ k ∈ (Value.slice A4 (H ++ [(x, y, s, t)]).length d4).ownBlock.toList, k ≠ hb := fun k hk => by
      rcases HOR.out with e | e
      · rw [e] at hk; exact HNE.out k hk
      · rw [e] at hk; simp at hk; omega
    have hown9 : OwR (w4.setCell ⟨hb, 0, none⟩ (.slice A4 (H ++ [(x, y, s, t)]).length d4)) B (.slice A4 (H ++ [(x, y, s, t)]).length d4) (H ++ [(x, y, s, t)]) :=
      ⟨ownsRow_setCell_other H4.out.row (a := ⟨hb, 0, none⟩) (fun e => hdis hb (by rw [e]; simp) rfl) _, H4.out.in_⟩
    have hbel := (((Below.refl w.heap.size w).alloc (Nat.le_refl _) (.cells #[.int .i64 x, .int .i64 y, .int .i64 s, .int .i64 t] 43)).mono hBw).grown HG.out (by simp; omega) (fun k hk => (World.ownsRow.lt HO.out.row k hk).1)
    have hb9 := hbel.setCell (p := ⟨hb, 0, none⟩) hBh (.slice A4 (H ++ [(x, y, s, t)]).length d4)
    have HQ9 := Lib.hid (show Hq (w4.setCell ⟨hb, 0, none⟩ (.slice A4 (H ++ [(x, y, s, t)]).length d4)) B hb (.slice A4 (H ++ [(x, y, s, t)]).length d4) (H ++ [(x, y, s, t)]) from ⟨by simpa using q9, hown9, hdis, hBh⟩)
    have HB9 := Lib.hid hb9
    clear q9 hdis hown9 hbel hb9
    (try go_wp2)
    go_end0
    have e9 : (H ++ [(x, y, s, t)]).length = H.length + 1 := by simp
    have g8 := HQ9.out
    have g9 := HB9.out
    rw [e9] at g8 g9
    exact ⟨rfl, _, g8, g9⟩
  refine AllReadyH.cons (o := ?_) ?_ (fun K hK => ?_) AllReadyH.nil
  rotate_left 1
  · (simp only [List.getElem?_toArray, List.getElem?_cons_zero, List.getElem?_cons_succ]; try rfl)
  go_simp
  refine hK.out _ _ (by exact trivial) (fun hHeld => ?_)
  clear hK K
  (try simp only [Act.put, List.setIfInBounds_toArray, List.set_cons_zero, List.set_cons_succ])
  refine wpAnyH_ready (rs := [4]) (by kernel_rfl) (by simp) ?_
  refine AllReadyH.cons (o := ?_) ?_ (fun K hK => ?_) AllReadyH.nil
  rotate_left 1
  · (simp only [List.getElem?_toArray, List.getElem?_cons_zero, List.getElem?_cons_succ]; try rfl)
  have c0 := HD1.out.cell 0
  go_simp
  clear c0
  refine hK.out _ _ (by exact trivial) (fun hHeld => ?_)
  clear hK K
  (try simp only [Act.put, List.setIfInBounds_toArray, List.set_cons_zero, List.set_cons_succ])
  refine wpAnyH_ready (rs := [8]) (by kernel_rfl) (by simp) ?_
  refine AllReadyH.cons (o := ?_) ?_ (fun K hK => ?_) AllReadyH.nil
  rotate_left 1
  · (simp only [List.getElem?_toArray, List.getElem?_cons_zero, List.getElem?_cons_succ]; try rfl)
  refine step_app_le rfl (.tmp 8) (.tmp 11) rfl B v H [(x, y, s, t)] (some ⟨w.heap.size, 0, none⟩) 1 1 rfl rfl rfl (by exact ⟨HO.out.row, HO.out.in_⟩) (by exact HNW.out) (by simp; omega) (by simp; omega) ?_
  intro v4 w4 hown4 hg4 hor
  have hg4 : (w.alloc (.cells #[.int .i64 x, .int .i64 y, .int .i64 s, .int .i64 t] 43)).grownBy w4 v.ownBlock := ⟨hg4.os, hg4.tape, hg4.output, hg4.size, hg4.block⟩
  obtain ⟨A4, d4, rfl, _, _, _⟩ := hown4.ll
  have H4 := Lib.hid hown4
  have HG := Lib.hid hg4
  have HOR := Lib.hid hor
  have hdb : w4.heap[hb]? = (w.alloc (.cells #[.int .i64 x, .int .i64 y, .int .i64 s, .int .i64 t] 43)).heap[hb]? := hg4.block hb HD1.out.lt (fun e => HNE.out hb (by rw [← e]; simp) rfl)
  have HD4 := Lib.hid (HD1.out.of_block hdb)
  have f4 := HD4.out.frozen 0
  have c4 := HD4.out.cell 0
  clear hown4 hg4 hor hdb
  (try go_simp)
  refine hK.out _ _ (by exact trivial) (fun hHeld => ?_)
  clear hK K
  (try simp only [Act.put, List.setIfInBounds_toArray, List.set_cons_zero, List.set_cons_succ])
  refine wpAnyH_take (i := 9) (oi := ?_) (v := ?_) ?_ ?_ ?_ ?_ ?_ ?_ (by exact hHeld) ?_
  rotate_left 2
  · (simp only [List.getElem?_toArray, List.getElem?_cons_zero, List.getElem?_cons_succ]; try rfl)
  · kernel_rfl
  · kernel_rfl
  · kernel_rfl
  · exact fun _ _ _ h => h
  · refine Or.inl ⟨by rfl, ?_⟩
    (intro V hSV; (try dsimp only at hSV); obtain ⟨⟩ := hSV; go_simp; try with_reducible rfl)
  (try simp only [Act.put, List.setIfInBounds_toArray, List.set_cons_zero, List.set_cons_succ])
  refine wpAnyH_take (i := 10) (oi := ?_) (v := ?_) ?_ ?_ ?_ ?_ ?_ ?_ (by exact hHeld) ?_
  rotate_left 2
  · (simp only [List.getElem?_toArray, List.getElem?_cons_zero, List.getElem?_cons_succ]; try rfl)
  · kernel_rfl
  · kernel_rfl
  · kernel_rfl
  · exact fun _ _ _ h => h
  · refine Or.inl ⟨by rfl, ?_⟩
    (intro V hSV; (try dsimp only at hSV); obtain ⟨⟩ := hSV; go_simp; try with_reducible rfl)
  (try simp only [Act.put, List.setIfInBounds_toArray, List.set_cons_zero, List.set_cons_succ])
  refine wpAnyH_ready (rs := [11]) (by kernel_rfl) (by simp) ?_
  refine AllReadyH.cons (o := ?_) ?_ (fun K hK => ?_) AllReadyH.nil
  rotate_left 1
  · (simp only [List.getElem?_toArray, List.getElem?_cons_zero, List.getElem?_cons_succ]; try rfl)
  go_simp
  refine hK.out _ _ (by exact trivial) (fun hHeld => ?_)
  clear hK K
  (try simp only [Act.put, List.setIfInBounds_toArray, List.set_cons_zero, List.set_cons_succ])
  refine wpAnyH_done (by kernel_rfl) ?_ _
  have q9 := HD4.out.set 0 (.slice A4 (H ++ [(x, y, s, t)]).length d4)
  have hdis : ∀ k ∈ (Value.slice A4 (H ++ [(x, y, s, t)]).length d4).ownBlock.toList, k ≠ hb := fun k hk => by
    rcases HOR.out with e | e
    · rw [e] at hk; exact HNE.out k hk
    · rw [e] at hk; simp at hk; omega
  have hown9 : OwR (w4.setCell ⟨hb, 0, none⟩ (.slice A4 (H ++ [(x, y, s, t)]).length d4)) B (.slice A4 (H ++ [(x, y, s, t)]).length d4) (H ++ [(x, y, s, t)]) :=
    ⟨ownsRow_setCell_other H4.out.row (a := ⟨hb, 0, none⟩) (fun e => hdis hb (by rw [e]; simp) rfl) _, H4.out.in_⟩
  have hbel := (((Below.refl w.heap.size w).alloc (Nat.le_refl _) (.cells #[.int .i64 x, .int .i64 y, .int .i64 s, .int .i64 t] 43)).mono hBw).grown HG.out (by simp; omega) (fun k hk => (World.ownsRow.lt HO.out.row k hk).1)
  have hb9 := hbel.setCell (p := ⟨hb, 0, none⟩) hBh (.slice A4 (H ++ [(x, y, s, t)]).length d4)
  have HQ9 := Lib.hid (show Hq (w4.setCell ⟨hb, 0, none⟩ (.slice A4 (H ++ [(x, y, s, t)]).length d4)) B hb (.slice A4 (H ++ [(x, y, s, t)]).length d4) (H ++ [(x, y, s, t)]) from ⟨by simpa using q9, hown9, hdis, hBh⟩)
  have HB9 := Lib.hid hb9
  clear q9 hdis hown9 hbel hb9
  (try go_wp2)
  go_end0
  have e9 : (H ++ [(x, y, s, t)]).length = H.length + 1 := by simp
  have g8 := HQ9.out
  have g9 := HB9.out
  rw [e9] at g8 g9
  exact ⟨rfl, _, g8, g9⟩
end Go.Proofs.Ytgpjjolgpppeeaa

namespace Go.Proofs.Ytgpjjolgpppeeaa
open Go.RowKit P
set_option linter.unusedVariables false
set_option linter.unusedSimpArgs false
set_option maxRecDepth 100000

theorem hp_of_hq {w : World} {B hb : Nat} {v : Value} {H : List Le} (h : Hq w B hb v H) (h0 : 0 < H.length) : ∃ g cap, v = .slice (some ⟨g, 0, none⟩) H.length cap ∧ B ≤ g ∧ Hp w hb g cap H := by
  obtain ⟨A, c, rfl, hOL⟩ := h.own.owL
  rcases rowL_of hOL with e | ⟨g, rfl, _, hrow, hin⟩
  · subst e; simp at h0
  rcases h.own.row.2 with ⟨e, _⟩ | ⟨g', cap, cur, e, hbg, hh, hn, hc, hs, _⟩
  · cases e
  · cases e
    exact ⟨g, c, rfl, hbg, h.hd, hrow, ⟨cur, hh, hs⟩, (h.ne g (by simp [Value.ownBlock])).symm, hn, hc, hin⟩
theorem hq_of_hp {w : World} {B hb g cap : Nat} {H : List Le} (h : Hp w hb g cap H) (h1 : B ≤ hb) (h2 : B ≤ g) : Hq w B hb (.slice (some ⟨g, 0, none⟩) H.length cap) H :=
  ⟨h.hd, own_of_row h.row h.sz h2 (Nat.le_refl _) (List.take_length) h.in_ h.le h.cm, fun k hk e => h.ne (by
    simp [Value.ownBlock] at hk
    omega), h1⟩

set_option maxHeartbeats 4000000 in
theorem heapPush_any (B hb : Nat) (v : Value) (H : List Le) (x y s t : Int) (w : World) (h : Hq w B hb v H) (hin : leIn (x, y, s, t)) (hh : IsHeap H H.length) (hl : H.length ≤ 100000) (hBw : B ≤ w.heap.size) :
    Calls Try.prog 139 #[.iface 113 (.pointer (some ⟨hb, 0, none⟩)), .iface 43 (.agg #[.int .i64 x, .int .i64 y, .int .i64 s, .int .i64 t])] w fun e w' => e = .returned (.tuple #[]) ∧ ∃ v' G, G.Perm (H ++ [(x, y, s, t)]) ∧ IsHeap G G.length ∧ Hq w' B hb v' G ∧ Below B w w' := by
  have mL : ∀ w, Sem.run Try.prog (method (Try.prog.types.size + 100) 113 (.pointer (some ⟨hb, 0, none⟩)) "Len") w = .ok (124, .pointer (some ⟨hb, 0, none⟩)) w := fun _ => by kernel_rfl
  have mP : ∀ w, Sem.run Try.prog (method (Try.prog.types.size + 100) 113 (.pointer (some ⟨hb, 0, none⟩)) "Push") w = .ok (199, .pointer (some ⟨hb, 0, none⟩)) w := fun _ => by kernel_rfl
  have hpush := heapPushM_any B hb v H x y s t w h hin hl hBw
  have hBh := h.hB
  clear h
  go_enter Try.func139, Try.ntmps139
  go_wp2_with fail
  refine hpush.mono ?_
  rintro e w1 ⟨rfl, v1, hq1, hb1⟩
  have hl1 : (H ++ [(x, y, s, t)]).length = H.length + 1 := by simp
  obtain ⟨g, cap, rfl, hBg, hp1⟩ := hp_of_hq hq1 (by omega)
  have hlen := heapLen_any hb g cap (H ++ [(x, y, s, t)]) w1 hp1
  have hup := heapUp_any hb g cap (H ++ [(x, y, s, t)]) H.length w1 hp1 (by rw [hl1]; exact hh.snoc) (by omega)
  rw [hl1] at hlen
  have hmi : ((H.length + 1 : Nat) : Int) - 1 = (H.length : Int) := by omega
  have hwm : IntKind.i64.wrap (H.length : Int) = (H.length : Int) := IntWalk.i64_in _ (by omega)
  have HUP := Lib.hid hup
  have HB1 := Lib.hid hb1
  have HL1 := Lib.hid hl1
  clear hpush hq1 hp1 hup hb1 hl1
  go_wp2_with fail
  refine hlen.mono ?_
  rintro e w2 ⟨rfl, rfl⟩
  clear hlen
  go_wp2_with fail
  refine HUP.out.mono ?_
  rintro e w3 ⟨rfl, G, hp3, hi3, hh3, hk3⟩
  have hGl : G.length = (H ++ [(x, y, s, t)]).length := hp3.length_eq
  have HI := Lib.hid (show IsHeap G G.length by rw [hGl]; exact hi3)
  have HPM := Lib.hid hp3
  have HQ3 := Lib.hid (hq_of_hp hh3 hBh hBg)
  have HB3 := Lib.hid (HB1.out.trans (hk3.below (B := B) (by have h9 := HB1.out.size; omega) (fun k hk => by simp at hk; omega)))
  clear hp3 hi3 hh3 hk3 hGl
  go_wp2
  go_end0
  exact ⟨rfl, _, G, HPM.out, HI.out, HQ3.out, HB3.out⟩
end Go.Proofs.Ytgpjjolgpppeeaa

namespace Go.Proofs.Ytgpjjolgpppeeaa
open Go.RowKit P
set_option linter.unusedVariables false
set_option linter.unusedSimpArgs false
set_option maxRecDepth 100000

set_option maxHeartbeats 4000000 in
theorem endingHeap_any (A : Option Addr) (es : List Le) (c : Nat) (w : World) (hl : es.length ≤ 10000) (hA : Ll w A es) :
    Calls Try.prog 88 #[.slice A es.length c] w fun e w' => ∃ hb v G, e = .returned (.pointer (some ⟨hb, 0, none⟩)) ∧ G.Perm es ∧ IsHeap G G.length ∧ Hq w' w.heap.size hb v G ∧ Below w.heap.size w w' := by
  have hal := (Below.refl w.heap.size w).alloc (Nat.le_refl _) (.cells #[.slice none 0 0, .func (.func 138) #[] #[]] 150)
  have hq0 : Hq (w.alloc (.cells #[.slice none 0 0, .func (.func 138) #[] #[]] 150)) w.heap.size w.heap.size (.slice none 0 0) [] :=
    ⟨Blk.new w _ _, OwR.nil _ _, (fun k hk => by simp [Value.ownBlock] at hk), Nat.le_refl _⟩
  go_enter Try.func88, Try.ntmps88
  go_wp2
  go_loopw [10] (fun i wr => ∃ (k : Nat) (v : Value) (G : List Le), k ≤ es.length ∧ i = .int .i64 k ∧ G.Perm (es.take k) ∧ IsHeap G G.length ∧ Hq wr w.heap.size w.heap.size v G ∧ Below w.heap.size w wr)
    (fun i _ => es.length - (intOf i).toNat)
  case atStart => exact ⟨0, _, [], Nat.zero_le _, rfl, by simp, fun i h0 hi => by simp at hi, hq0, hal⟩
  case round =>
    obtain ⟨k, v, G, hk, rfl, hp, hi, hq, hb⟩ := hrel
    have HP := Lib.hid hp
    have HI := Lib.hid hi
    have HQ := Lib.hid hq
    have HB := Lib.hid hb
    clear hp hi hq hq0 hal
    by_cases hlt : k < es.length
    · have hki0 : (0 : Int) ≤ (k : Int) := by omega
      have hki : (k : Int) < (es.length : Int) := by omega
      obtain ⟨b, off, x, y, s, t, rfl, hbl, hek, k0, k1, k2, k3, hin⟩ := (hA.below hb).at_ k hlt
      have hal2 := (Below.refl wr.heap.size wr).alloc (Nat.le_refl _) (.cells #[.int .i64 x, .int .i64 y, .int .i64 s, .int .i64 t] 43)
      have hq2 : Hq (wr.alloc (.cells #[.int .i64 x, .int .i64 y, .int .i64 s, .int .i64 t] 43)) w.heap.size w.heap.size v G := ⟨HQ.out.hd.below hal2, HQ.out.own.below hal2, HQ.out.ne, HQ.out.hB⟩
      have hlen : G.length = k := by rw [HP.out.length_eq, List.length_take]; omega
      have hzw := hb.size
      have hpush := heapPush_any w.heap.size w.heap.size v G x y s t _ hq2 hin HI.out (by omega) (by simp; omega)
      have bx := Blk.new wr #[.int .i64 x, .int .i64 y, .int .i64 s, .int .i64 t] 43
      have p0 := bx.cell 0
      have p1 := bx.cell 1
      have p2 := bx.cell 2
      have p3 := bx.cell 3
      have HPU := Lib.hid hpush
      have HEK := Lib.hid hek
      have HB2 := Lib.hid (below_then hb hal2)
      clear hpush hek hin hq2 hlen bx hal2 hb
      go_wp2_with fail
      refine HPU.out.mono ?_
      rintro e w1 ⟨rfl, v1, G1, hp1, hi1, hq1, hb1⟩
      have HP1 := Lib.hid (show G1.Perm (es.take (k + 1)) by
        rw [List.take_succ_eq_append_getElem hlt, HEK.out]
        exact hp1.trans (HP.out.append_right _))
      have HI1 := Lib.hid hi1
      have HQ1 := Lib.hid hq1
      have HB1 := Lib.hid (HB2.out.trans hb1)
      clear hp1 hi1 hq1 hb1 k0 k1 k2 k3 p0 p1 p2 p3
      go_wp2
      go_roundw
      case rel => exact ⟨k + 1, v1, G1, by omega, by go_num, HP1.out, HI1.out, HQ1.out, HB1.out⟩
      case measure => simp [intOf]; omega
    · have e : k = es.length := by omega
      have HP1 := Lib.hid (show G.Perm es by have h9 := HP.out; rw [e, List.take_length] at h9; exact h9)
      clear e hb
      go_wp2
      go_ret
      exact ⟨_, v, G, rfl, HP1.out, HI.out, HQ.out, HB.out⟩
end Go.Proofs.Ytgpjjolgpppeeaa
