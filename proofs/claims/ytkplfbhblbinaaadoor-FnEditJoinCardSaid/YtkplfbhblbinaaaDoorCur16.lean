/-
  Chapter 5's draw of two edits: contract. Own work.
-/
import Derived.Test.YtkplfbhblbinaaaDoorCur13
import Derived.Deep.RegionHeld3
namespace Go.Proofs.YtkplfbhblbinaaaDoor
open Go.RowKit P
set_option linter.unusedVariables false
set_option linter.unusedSimpArgs false
set_option maxRecDepth 100000

theorem own_bs19 {w : World} {base : Nat} {A : Option Addr} {n c : Nat} {l : List UInt8} (h : Own w base (.slice A n c) l) : Bs w A l := by
  obtain ⟨A', c', e, _, _, hB⟩ := h.form
  simp only [Value.slice.injEq] at e
  rw [e.1]
  exact hB

/-- What a draw of two edits ends in. -/
def DrawsEE (w : World) (e : Ending) (w' : World) : Prop :=
  ∃ a m A p c b n B q d, e = .returned (.tuple #[.agg #[.int .i64 a, .int .i64 m, .slice A p.length c], .agg #[.int .i64 b, .int .i64 n, .slice B q.length d]]) ∧
    (-9223372036854775808 ≤ a ∧ a ≤ 9223372036854775807) ∧ (-9223372036854775808 ≤ m ∧ m ≤ 9223372036854775807) ∧ p.length ≤ 500 ∧ p.length ≤ c ∧ c ≤ 9223372036854775807 ∧ Pl A c ∧
    (-9223372036854775808 ≤ b ∧ b ≤ 9223372036854775807) ∧ (-9223372036854775808 ≤ n ∧ n ≤ 9223372036854775807) ∧ q.length ≤ 500 ∧ q.length ≤ d ∧ d ≤ 9223372036854775807 ∧ Pl B d ∧ Bs w' A p ∧ Bs w' B q ∧ Below w.heap.size w w'

set_option maxHeartbeats 16000000 in
theorem drawEditJoin_any (A : Option Addr) (l : List UInt8) (c : Nat) (w : World) (hl : l.length ≤ 1048576) (hA : Bs w A l) :
    Calls Tryd.prog 25 #[.slice A l.length c] w (DrawsEE w) := by
  have hal := ((Below.refl w.heap.size w).alloc (Nat.le_refl _) (.cells #[.int .i64 0, .int .i64 0, .slice none 0 0] 25)).alloc (by simp) (.cells #[.int .i64 0, .int .i64 0, .slice none 0 0] 25)
  have bR1 := (EBox.new w 0 0 none 0 0).below ((Below.refl _ _).alloc (Nat.le_refl _) (.cells #[.int .i64 0, .int .i64 0, .slice none 0 0] 25))
  have bR2 := EBox.new (w.alloc (.cells #[.int .i64 0, .int .i64 0, .slice none 0 0] 25)) 0 0 none 0 0
  simp only [World.size_alloc] at bR2
  have hA0 := hA.below hal
  have hz0 : ((w.alloc (.cells #[.int .i64 0, .int .i64 0, .slice none 0 0] 25)).alloc (.cells #[.int .i64 0, .int .i64 0, .slice none 0 0] 25)).heap.size = w.heap.size + 2 := by simp
  go_enter Tryd.func25, Tryd.ntmps25
  go_wp2_with fail
  generalize (w.alloc (.cells #[.int .i64 0, .int .i64 0, .slice none 0 0] 25)).alloc (.cells #[.int .i64 0, .int .i64 0, .slice none 0 0] 25) = W0 at *
  refine (l01Open_any A l c _ hl (by exact hA0)).mono ?_
  rintro e w1 ⟨rfl, hc0, hb0⟩
  obtain ⟨g, hg⟩ : ∃ g, W0.heap.size = g := ⟨_, rfl⟩
  rw [hg] at hc0 hz0 ⊢
  have hwg : w.heap.size + 1 < g := by omega
  have bR1 := bR1.below hb0
  have bR2 := bR2.below hb0
  have hBB := hal.trans (hb0.mono (by omega))
  have hgl := hc0.lt
  clear hA0 hal hz0 hg hb0
  go_wp2_with fail
  refine (text_any g 0 40 _ (by omega) (by omega) (by exact hc0)).mono ?_
  rintro e w2 ⟨v2, t, rfl, hown2, ht, hc2, ho2⟩
  obtain ⟨A2, c2, rfl, hlc2, hcm2, hB2, _, _⟩ := own_plain9 hown2
  have bR1 := bR1.only ho2 (by omega)
  have bR2 := bR2.only ho2 (by omega)
  have hs2 := ho2.size
  have hBB := hBB.trans (ho2.below w.heap.size (by omega) (by omega))
  clear hc0 ho2
  go_wp2_with fail
  refine (edit_any g (0 + 1 + 3 * 40) A2 t c2 _ (by omega) hlc2 hcm2 (by exact hc2) (by exact hB2)).mono ?_
  rintro e w3 ⟨a, m, v3, p, rfl, hra, hrm, hO1, hp5, hc3, ho3⟩
  have HG1 := Lib.hid hO1.range
  obtain ⟨A3, c3, rfl, _, _, _⟩ := hO1.form
  have hal := (Below.refl w3.heap.size w3).alloc (Nat.le_refl _) (.cells #[.int .i64 a, .int .i64 m, .slice A3 p.length c3] 25)
  have bE1 := EBox.new w3 a m A3 p.length c3
  have bR1 := (bR1.only ho3 (by omega)).below hal
  have bR2 := (bR2.only ho3 (by omega)).below hal
  have hown2 := (hown2.only ho3 (by omega)).below hal
  have hO1 := hO1.below hal
  have hB3 := own_bs19 hO1
  have hc3 := hc3.only_new hal
  have hs3 := ho3.size
  have hs3' := hal.size
  have hBB := (hBB.trans (ho3.below w.heap.size (by omega) (by omega))).trans (hal.mono (by omega))
  have he1 : w3.heap.size < (w3.alloc (.cells #[.int .i64 a, .int .i64 m, .slice A3 p.length c3] 25)).heap.size := by simp
  obtain ⟨eb1, heb1⟩ : ∃ k, w3.heap.size = k := ⟨_, rfl⟩
  have hq3 : p.length ≤ c3 ∧ c3 ≤ 9223372036854775807 := by
    obtain ⟨_, _, e9, h1, h2, _⟩ := own_plain9 hO1
    cases e9
    exact ⟨h1, h2⟩
  clear hc2 ho3 hal hB2
  have e2 := bE1.c2
  go_wp2_with fail
  generalize w3.alloc (.cells #[.int .i64 a, .int .i64 m, .slice A3 p.length c3] 25) = W3 at *
  rw [heb1] at bE1 he1 HG1 hs3 hs3'
  clear heb1 e2
  refine (edit_any g (0 + 1 + 3 * 40 + 60) A3 p c3 _ (by omega) hq3.1 hq3.2 (by exact hc3) (by exact hB3)).mono ?_
  rintro e w4 ⟨b, n, v4, q, rfl, hrb0, hrn, hO2, hq5, hc4, ho4⟩
  have HG2 := Lib.hid hO2.range
  obtain ⟨A4, c4, rfl, _, _, _⟩ := hO2.form
  obtain ⟨s, hs, hrb⟩ : ∃ s, IntKind.i64.wrap (b + a) = s ∧ -9223372036854775808 ≤ s ∧ s ≤ 9223372036854775807 := ⟨_, rfl, by rw [IntWalk.i64_left]; exact (wrap64_bd _).1, by rw [IntWalk.i64_left]; exact (wrap64_bd _).2⟩
  have hs' : wrap64 (b + a) = s := by rw [← hs, IntWalk.i64_left]
  have hal := (Below.refl w4.heap.size w4).alloc (Nat.le_refl _) (.cells #[.int .i64 s, .int .i64 n, .slice A4 q.length c4] 25)
  have bE2 := EBox.new w4 s n A4 q.length c4
  have bE1 := bE1.only ho4 (by omega)
  have a0 := (bE1.below ((Below.refl _ _).alloc (Nat.le_refl _) (.cells #[.int .i64 b, .int .i64 n, .slice A4 q.length c4] 25))).c0
  have bE1 := bE1.below hal
  have bR1 := (bR1.only ho4 (by omega)).below hal
  have bR2 := (bR2.only ho4 (by omega)).below hal
  have hown2 := (hown2.only ho4 (by omega)).below hal
  have hO1 := (hO1.only ho4 (by have h9 := HG1.out; omega)).below hal
  have hO2 := hO2.below hal
  have hc4 := hc4.only_new hal
  have hs4 := ho4.size
  have hs4' := hal.size
  have hBB := (hBB.trans (ho4.below w.heap.size (by omega) (by omega))).trans (hal.mono (by omega))
  have he2 : w4.heap.size < (w4.alloc (.cells #[.int .i64 s, .int .i64 n, .slice A4 q.length c4] 25)).heap.size := by simp
  clear hc3 ho4 hal hB3
  have b0 := bE1.c0
  go_wp2_with fail
  generalize w4.alloc (.cells #[.int .i64 s, .int .i64 n, .slice A4 q.length c4] 25) = W4 at *
  obtain ⟨eb2, heb2⟩ : ∃ k, w4.heap.size = k := ⟨_, rfl⟩
  rw [heb2] at bE2 he2 HG2 hs4 hs4'
  clear hs hs' a0 b0
  refine (pick_any g (0 + 1 + 3 * 40 + 60 + 60) 9 _ (by omega) (by omega) (by exact hc4)).mono ?_
  rintro e w5 ⟨x, rfl, hx0, hx1, hc5, ho5⟩
  have bE1 := bE1.only ho5 (by omega)
  have bE2 := bE2.only ho5 (by omega)
  have bR1 := bR1.only ho5 (by omega)
  have bR2 := bR2.only ho5 (by omega)
  have hown2 := hown2.only ho5 (by omega)
  have hO1 := hO1.only ho5 (by have h9 := HG1.out; omega)
  have hO2 := hO2.only ho5 (by have h9 := HG2.out; omega)
  have hs5 := ho5.size
  have hBB := hBB.trans (ho5.below w.heap.size (by omega) (by omega))
  have hB2 := own_bs19 hown2
  have hn11 : ∀ k ∈ (Value.slice A3 p.length c3).ownBlock.toList, w.heap.size ≠ k := fun k hk => by have h1 := HG1.out k hk; omega
  have hn21 : ∀ k ∈ (Value.slice A3 p.length c3).ownBlock.toList, w.heap.size + 1 ≠ k := fun k hk => by have h1 := HG1.out k hk; omega
  have hm1 : ∀ k ∈ (Value.slice A3 p.length c3).ownBlock.toList, eb1 ≠ k ∧ eb2 ≠ k := fun k hk => by have h1 := HG1.out k hk; omega
  have hn12 : ∀ k ∈ (Value.slice A4 q.length c4).ownBlock.toList, w.heap.size ≠ k := fun k hk => by have h1 := HG2.out k hk; omega
  have hn22 : ∀ k ∈ (Value.slice A4 q.length c4).ownBlock.toList, w.heap.size + 1 ≠ k := fun k hk => by have h1 := HG2.out k hk; omega
  have hm2 : ∀ k ∈ (Value.slice A4 q.length c4).ownBlock.toList, eb1 ≠ k ∧ eb2 ≠ k := fun k hk => by have h1 := HG2.out k hk; omega
  have le1 : w.heap.size ≤ eb1 := by omega
  have le2 : w.heap.size ≤ eb2 := by omega
  clear hc4 ho5 HG1 HG2 hown2
  by_cases q0 : x = 0
  · subst q0
    go_wp2_with fail
    refine (edit_any g (0 + 1 + 3 * 40 + 60 + 60 + 1) A2 t c2 _ (by omega) hlc2 hcm2 (by exact hc5) (by exact hB2)).mono ?_
    rintro e w6 ⟨b3, n3, v6, q6, rfl, hrb, hrn, hO6, hq6, hc6, ho6⟩
    have HG6 := Lib.hid hO6.range
    obtain ⟨A6, c6, rfl, _, _, _⟩ := hO6.form
    have bE1 := bE1.only ho6 (by omega)
    have bE2 := bE2.only ho6 (by omega)
    have bR1 := bR1.only ho6 (by omega)
    have bR2 := bR2.only ho6 (by omega)
    have hO1 := hO1.only ho6 (by omega)
    have hs6 := ho6.size
    have hBB := hBB.trans (ho6.below w.heap.size (by omega) (by omega))
    have hn12 : ∀ k ∈ (Value.slice A6 q6.length c6).ownBlock.toList, w.heap.size ≠ k := fun k hk => by have h1 := HG6.out k hk; omega
    have hn22 : ∀ k ∈ (Value.slice A6 q6.length c6).ownBlock.toList, w.heap.size + 1 ≠ k := fun k hk => by have h1 := HG6.out k hk; omega
    have hm6 : ∀ k ∈ (Value.slice A6 q6.length c6).ownBlock.toList, eb2 ≠ k := fun k hk => by have h1 := HG6.out k hk; omega
    have hO2 := ownSet9 (ownSet9 (ownSet9 hO6 hm6 0 (.int .i64 b3)) hm6 1 (.int .i64 n3)) hm6 2 (.slice A6 q6.length c6)
    have bE1' := bE1
    have hE9 : EBox (((w6.setCell ⟨eb2, 0, none⟩ (.int .i64 b3)).setCell ⟨eb2, 1, none⟩ (.int .i64 n3)).setCell ⟨eb2, 2, none⟩ (.slice A6 q6.length c6)) eb2 b3 n3 A6 q6.length c6 := ((bE2.set0 b3).set1 n3).set2 A6 q6.length c6
    have hF9 := (show EBox (((w6.setCell ⟨eb2, 0, none⟩ (.int .i64 b3)).setCell ⟨eb2, 1, none⟩ (.int .i64 n3)).setCell ⟨eb2, 2, none⟩ (.slice A6 q6.length c6)) _ _ _ _ _ _ from ⟨(((bE1.blk.setFar (d := eb2) (by omega) 0 (.int .i64 b3)).setFar (d := eb2) (by omega) 1 (.int .i64 n3)).setFar (d := eb2) (by omega) 2 (.slice A6 q6.length c6))⟩)
    have bR1 := (show EBox (((w6.setCell ⟨eb2, 0, none⟩ (.int .i64 b3)).setCell ⟨eb2, 1, none⟩ (.int .i64 n3)).setCell ⟨eb2, 2, none⟩ (.slice A6 q6.length c6)) _ _ _ _ _ _ from ⟨(((bR1.blk.setFar (d := eb2) (by omega) 0 (.int .i64 b3)).setFar (d := eb2) (by omega) 1 (.int .i64 n3)).setFar (d := eb2) (by omega) 2 (.slice A6 q6.length c6))⟩)
    have bR2 := (show EBox (((w6.setCell ⟨eb2, 0, none⟩ (.int .i64 b3)).setCell ⟨eb2, 1, none⟩ (.int .i64 n3)).setCell ⟨eb2, 2, none⟩ (.slice A6 q6.length c6)) _ _ _ _ _ _ from ⟨(((bR2.blk.setFar (d := eb2) (by omega) 0 (.int .i64 b3)).setFar (d := eb2) (by omega) 1 (.int .i64 n3)).setFar (d := eb2) (by omega) 2 (.slice A6 q6.length c6))⟩)
    have hmm1 : ∀ k ∈ (Value.slice A3 p.length c3).ownBlock.toList, eb2 ≠ k := fun k hk => (hm1 k hk).2
    have hO1 := ownSet9 (ownSet9 (ownSet9 hO1 hmm1 0 (.int .i64 b3)) hmm1 1 (.int .i64 n3)) hmm1 2 (.slice A6 q6.length c6)

    have hBB := (((hBB.setCell (p := ⟨eb2, 0, none⟩) le2 (.int .i64 b3)).setCell (p := ⟨eb2, 1, none⟩) le2 (.int .i64 n3)).setCell (p := ⟨eb2, 2, none⟩) le2 (.slice A6 q6.length c6))
    have g0 := bE2.c0
    have g1 := bE2.c1
    have g2 := bE2.c2
    have f0 := bE2.f 0
    have f1 := bE2.f 1
    have f2 := bE2.f 2
    have bE2' := hE9
    have bE1' := hF9
    have zE1 := hF9
    have zE2 := hE9
    clear hm1 hm2
    go_upto_region 13 with fail
    generalize (((w6.setCell ⟨eb2, 0, none⟩ (.int .i64 b3)).setCell ⟨eb2, 1, none⟩ (.int .i64 n3)).setCell ⟨eb2, 2, none⟩ (.slice A6 q6.length c6)) = W8 at *
    clear g0 g1 g2 f0 f1 f2
    have bE1 := zE1
    have bE2 := zE2
    have hE1 := bE1
    have hE2 := bE2
    have e0 := hE1.c0
    have e1 := hE1.c1
    have e2 := hE1.c2
    have k0 := hE2.c0
    have k1 := hE2.c1
    have k2 := hE2.c2
    go_wp2_with fail
    refine wp_region_held_drew (S := (fun V => V.cell? ⟨eb1, 0, none⟩ = some (.int .i64 a) ∧ V.cell? ⟨eb1, 1, none⟩ = some (.int .i64 m) ∧ V.cell? ⟨eb1, 2, none⟩ = some (.slice A3 p.length c3) ∧ V.cell? ⟨eb2, 0, none⟩ = some (.int .i64 b3) ∧ V.cell? ⟨eb2, 1, none⟩ = some (.int .i64 n3) ∧ V.cell? ⟨eb2, 2, none⟩ = some (.slice A6 q6.length c6))) (by kernel_rfl) (by exact ⟨e0, e1, e2, k0, k1, k2⟩) (fun hHeld => ?_)
    clear e0 e1 e2 k0 k1 k2
    refine wpAnyH_take (i := 0) (oi := ?_) (v := ?_) ?_ ?_ ?_ ?_ ?_ ?_ (by exact hHeld) ?_
    rotate_left 2
    · (simp only [List.getElem?_toArray, List.getElem?_cons_zero]; try rfl)
    · kernel_rfl
    · kernel_rfl
    · kernel_rfl
    · exact fun _ _ _ h => h
    · refine Or.inl ⟨by rfl, ?_⟩
      (intro V hSV; (try dsimp only at hSV); obtain ⟨q0, q1, q2, q3, q4, q5⟩ := hSV; go_simp; try with_reducible rfl)
    (try simp only [Act.put, List.setIfInBounds_toArray, List.set_cons_zero, List.set_cons_succ])
    refine wpAnyH_take (i := 1) (oi := ?_) (v := ?_) ?_ ?_ ?_ ?_ ?_ ?_ (by exact hHeld) ?_
    rotate_left 2
    · (simp only [List.getElem?_toArray, List.getElem?_cons_zero, List.getElem?_cons_succ]; try rfl)
    · kernel_rfl
    · kernel_rfl
    · kernel_rfl
    · exact fun _ _ _ h => h
    · refine Or.inl ⟨by rfl, ?_⟩
      (intro V hSV; (try dsimp only at hSV); obtain ⟨q0, q1, q2, q3, q4, q5⟩ := hSV; go_simp; try with_reducible rfl)
    (try simp only [Act.put, List.setIfInBounds_toArray, List.set_cons_zero, List.set_cons_succ])
    refine wpAnyH_ready (rs := [2]) (by kernel_rfl) (by simp) ?_
    refine AllReadyH.cons (o := ?_) ?_ (fun K hK => ?_) AllReadyH.nil
    rotate_left 1
    · (simp only [List.getElem?_toArray, List.getElem?_cons_zero, List.getElem?_cons_succ]; try rfl)
    have r0 := bR1.c0
    have r1 := bR1.c1
    have r2 := bR1.c2
    have f0 := bR1.f 0
    have f1 := bR1.f 1
    have f2 := bR1.f 2
    have z1 : EBox (((W8.setCell ⟨w.heap.size, 0, none⟩ (.int .i64 a)).setCell ⟨w.heap.size, 1, none⟩ (.int .i64 m)).setCell ⟨w.heap.size, 2, none⟩ (.slice A3 p.length c3)) eb1 a m A3 p.length c3 := ⟨(((hE1.blk.setFar (d := w.heap.size) (by omega) 0 (.int .i64 a)).setFar (d := w.heap.size) (by omega) 1 (.int .i64 m)).setFar (d := w.heap.size) (by omega) 2 (.slice A3 p.length c3))⟩
    have z2 : EBox (((W8.setCell ⟨w.heap.size, 0, none⟩ (.int .i64 a)).setCell ⟨w.heap.size, 1, none⟩ (.int .i64 m)).setCell ⟨w.heap.size, 2, none⟩ (.slice A3 p.length c3)) eb2 b3 n3 A6 q6.length c6 := ⟨(((hE2.blk.setFar (d := w.heap.size) (by omega) 0 (.int .i64 a)).setFar (d := w.heap.size) (by omega) 1 (.int .i64 m)).setFar (d := w.heap.size) (by omega) 2 (.slice A3 p.length c3))⟩
    have bR1 : EBox (((W8.setCell ⟨w.heap.size, 0, none⟩ (.int .i64 a)).setCell ⟨w.heap.size, 1, none⟩ (.int .i64 m)).setCell ⟨w.heap.size, 2, none⟩ (.slice A3 p.length c3)) w.heap.size a m A3 p.length c3 := (((bR1.set0 a).set1 m).set2 A3 p.length c3)
    have bR2 := (show EBox (((W8.setCell ⟨w.heap.size, 0, none⟩ (.int .i64 a)).setCell ⟨w.heap.size, 1, none⟩ (.int .i64 m)).setCell ⟨w.heap.size, 2, none⟩ (.slice A3 p.length c3)) _ _ _ _ _ _ from ⟨(((bR2.blk.setFar (d := w.heap.size) (by omega) 0 (.int .i64 a)).setFar (d := w.heap.size) (by omega) 1 (.int .i64 m)).setFar (d := w.heap.size) (by omega) 2 (.slice A3 p.length c3))⟩)
    have hE1 := z1
    have hE2 := z2
    have hO1 := ownSet9 (ownSet9 (ownSet9 hO1 hn11 0 (.int .i64 a)) hn11 1 (.int .i64 m)) hn11 2 (.slice A3 p.length c3)
    have hO2 := ownSet9 (ownSet9 (ownSet9 hO2 hn12 0 (.int .i64 a)) hn12 1 (.int .i64 m)) hn12 2 (.slice A3 p.length c3)
    have hBB := ((hBB.setCell (p := ⟨w.heap.size, 0, none⟩) (Nat.le_refl _) (.int .i64 a)).setCell (p := ⟨w.heap.size, 1, none⟩) (Nat.le_refl _) (.int .i64 m)).setCell (p := ⟨w.heap.size, 2, none⟩) (Nat.le_refl _) (.slice A3 p.length c3)
    go_simp
    refine hK.out _ _ (by exact ⟨hE1.c0, hE1.c1, hE1.c2, hE2.c0, hE2.c1, hE2.c2⟩) (fun hHeld => ?_)
    clear hK K r0 r1 r2 f0 f1 f2 z1 z2
    (try simp only [Act.put, List.setIfInBounds_toArray, List.set_cons_zero, List.set_cons_succ])
    generalize (((W8.setCell ⟨w.heap.size, 0, none⟩ (.int .i64 a)).setCell ⟨w.heap.size, 1, none⟩ (.int .i64 m)).setCell ⟨w.heap.size, 2, none⟩ (.slice A3 p.length c3)) = Wx at *
    refine wpAnyH_ready (rs := [3]) (by kernel_rfl) (by simp) ?_
    refine AllReadyH.cons (o := ?_) ?_ (fun K hK => ?_) AllReadyH.nil
    rotate_left 1
    · (simp only [List.getElem?_toArray, List.getElem?_cons_zero, List.getElem?_cons_succ]; try rfl)
    have r0 := bR2.c0
    have r1 := bR2.c1
    have r2 := bR2.c2
    have f0 := bR2.f 0
    have f1 := bR2.f 1
    have f2 := bR2.f 2
    have z1 : EBox (((Wx.setCell ⟨(w.heap.size + 1), 0, none⟩ (.int .i64 b3)).setCell ⟨(w.heap.size + 1), 1, none⟩ (.int .i64 n3)).setCell ⟨(w.heap.size + 1), 2, none⟩ (.slice A6 q6.length c6)) eb1 a m A3 p.length c3 := ⟨(((hE1.blk.setFar (d := (w.heap.size + 1)) (by omega) 0 (.int .i64 b3)).setFar (d := (w.heap.size + 1)) (by omega) 1 (.int .i64 n3)).setFar (d := (w.heap.size + 1)) (by omega) 2 (.slice A6 q6.length c6))⟩
    have z2 : EBox (((Wx.setCell ⟨(w.heap.size + 1), 0, none⟩ (.int .i64 b3)).setCell ⟨(w.heap.size + 1), 1, none⟩ (.int .i64 n3)).setCell ⟨(w.heap.size + 1), 2, none⟩ (.slice A6 q6.length c6)) eb2 b3 n3 A6 q6.length c6 := ⟨(((hE2.blk.setFar (d := (w.heap.size + 1)) (by omega) 0 (.int .i64 b3)).setFar (d := (w.heap.size + 1)) (by omega) 1 (.int .i64 n3)).setFar (d := (w.heap.size + 1)) (by omega) 2 (.slice A6 q6.length c6))⟩
    have bR2 : EBox (((Wx.setCell ⟨(w.heap.size + 1), 0, none⟩ (.int .i64 b3)).setCell ⟨(w.heap.size + 1), 1, none⟩ (.int .i64 n3)).setCell ⟨(w.heap.size + 1), 2, none⟩ (.slice A6 q6.length c6)) (w.heap.size + 1) b3 n3 A6 q6.length c6 := (((bR2.set0 b3).set1 n3).set2 A6 q6.length c6)
    have bR1 := (show EBox (((Wx.setCell ⟨(w.heap.size + 1), 0, none⟩ (.int .i64 b3)).setCell ⟨(w.heap.size + 1), 1, none⟩ (.int .i64 n3)).setCell ⟨(w.heap.size + 1), 2, none⟩ (.slice A6 q6.length c6)) _ _ _ _ _ _ from ⟨(((bR1.blk.setFar (d := (w.heap.size + 1)) (by omega) 0 (.int .i64 b3)).setFar (d := (w.heap.size + 1)) (by omega) 1 (.int .i64 n3)).setFar (d := (w.heap.size + 1)) (by omega) 2 (.slice A6 q6.length c6))⟩)
    have hE1 := z1
    have hE2 := z2
    have hO1 := ownSet9 (ownSet9 (ownSet9 hO1 hn21 0 (.int .i64 b3)) hn21 1 (.int .i64 n3)) hn21 2 (.slice A6 q6.length c6)
    have hO2 := ownSet9 (ownSet9 (ownSet9 hO2 hn22 0 (.int .i64 b3)) hn22 1 (.int .i64 n3)) hn22 2 (.slice A6 q6.length c6)
    have hBB := ((hBB.setCell (p := ⟨(w.heap.size + 1), 0, none⟩) (Nat.le_succ _) (.int .i64 b3)).setCell (p := ⟨(w.heap.size + 1), 1, none⟩) (Nat.le_succ _) (.int .i64 n3)).setCell (p := ⟨(w.heap.size + 1), 2, none⟩) (Nat.le_succ _) (.slice A6 q6.length c6)
    go_simp
    refine hK.out _ _ (by exact ⟨hE1.c0, hE1.c1, hE1.c2, hE2.c0, hE2.c1, hE2.c2⟩) (fun hHeld => ?_)
    clear hK K r0 r1 r2 f0 f1 f2 z1 z2
    (try simp only [Act.put, List.setIfInBounds_toArray, List.set_cons_zero, List.set_cons_succ])
    generalize (((Wx.setCell ⟨(w.heap.size + 1), 0, none⟩ (.int .i64 b3)).setCell ⟨(w.heap.size + 1), 1, none⟩ (.int .i64 n3)).setCell ⟨(w.heap.size + 1), 2, none⟩ (.slice A6 q6.length c6)) = Wy at *
    refine wpAnyH_done (by kernel_rfl) ?_ _
    have r0 := bR1.c0
    have r1 := bR1.c1
    have r2 := bR1.c2
    have s0 := bR2.c0
    have s1 := bR2.c1
    have s2 := bR2.c2
    obtain ⟨_, _, e9, hl9, hm9, hB9, hp9, hq9⟩ := own_plain9 hO1
    cases e9
    obtain ⟨_, _, e8, hl8, hm8, hB8, hp8, hq8⟩ := own_plain9 hO2
    cases e8
    go_wp2
    refine bodyPost_ret (v := .tuple #[.agg #[.int .i64 a, .int .i64 m, .slice A3 p.length c3], .agg #[.int .i64 b3, .int .i64 n3, .slice A6 q6.length c6]]) (by simp [results, Tryd.results25, go_sem, r0, r1, r2, s0, s1, s2]) rfl ?_
    exact ⟨a, m, A3, p, c3, b3, n3, A6, q6, c6, rfl, hra, hrm, by omega, hl9, hm9, by unfold Pl; exact ⟨hp9, hq9⟩, hrb, hrn, by omega, hl8, hm8, by unfold Pl; exact ⟨hp8, hq8⟩, hB9, hB8, (by first | exact hBB | exact hBB.drew)⟩
  by_cases q1 : x = 1
  · subst q1
    go_wp2_with fail
    refine (raw_any g (0 + 1 + 3 * 40 + 60 + 60 + 1) _ (by omega) (by exact hc5)).mono ?_
    rintro e w6 ⟨r, rfl, hr0, hr1, hc6, ho6⟩
    have bE1 := bE1.only ho6 (by omega)
    have bE2 := bE2.only ho6 (by omega)
    have bR1 := bR1.only ho6 (by omega)
    have bR2 := bR2.only ho6 (by omega)
    have hO1 := hO1.only ho6 (by omega)
    have hO2 := hO2.only ho6 (by omega)
    have hs6 := ho6.size
    have hBB := hBB.trans (ho6.below w.heap.size (by omega) (by omega))
    have hrm : -9223372036854775808 ≤ r ∧ r ≤ 9223372036854775807 := ⟨by omega, by omega⟩
    have bE1' := bE1
    have hE9 : EBox (w6.setCell ⟨eb1, 1, none⟩ (.int .i64 r)) eb1 a r A3 p.length c3 := bE1.set1 r
    have hF9 := (show EBox (w6.setCell ⟨eb1, 1, none⟩ (.int .i64 r)) _ _ _ _ _ _ from ⟨(bE2.blk.setFar (d := eb1) (by omega) 1 (.int .i64 r))⟩)
    have bR1 := (show EBox (w6.setCell ⟨eb1, 1, none⟩ (.int .i64 r)) _ _ _ _ _ _ from ⟨(bR1.blk.setFar (d := eb1) (by omega) 1 (.int .i64 r))⟩)
    have bR2 := (show EBox (w6.setCell ⟨eb1, 1, none⟩ (.int .i64 r)) _ _ _ _ _ _ from ⟨(bR2.blk.setFar (d := eb1) (by omega) 1 (.int .i64 r))⟩)
    have hmm1 : ∀ k ∈ (Value.slice A3 p.length c3).ownBlock.toList, eb1 ≠ k := fun k hk => (hm1 k hk).1
    have hO1 := ownSet9 hO1 hmm1 1 (.int .i64 r)
    have hmm2 : ∀ k ∈ (Value.slice A4 q.length c4).ownBlock.toList, eb1 ≠ k := fun k hk => (hm2 k hk).1
    have hO2 := ownSet9 hO2 hmm2 1 (.int .i64 r)
    have hBB := (hBB.setCell (p := ⟨eb1, 1, none⟩) le1 (.int .i64 r))
    have g0 := bE1.c0
    have g1 := bE1.c1
    have g2 := bE1.c2
    have f0 := bE1.f 0
    have f1 := bE1.f 1
    have f2 := bE1.f 2
    have bE1' := hE9
    have bE2' := hF9
    have zE1 := hE9
    have zE2 := hF9
    clear hm1 hm2
    go_upto_region 13 with fail
    generalize (w6.setCell ⟨eb1, 1, none⟩ (.int .i64 r)) = W8 at *
    clear g0 g1 g2 f0 f1 f2
    have bE1 := zE1
    have bE2 := zE2
    have hE1 := bE1
    have hE2 := bE2
    have e0 := hE1.c0
    have e1 := hE1.c1
    have e2 := hE1.c2
    have k0 := hE2.c0
    have k1 := hE2.c1
    have k2 := hE2.c2
    go_wp2_with fail
    refine wp_region_held_drew (S := (fun V => V.cell? ⟨eb1, 0, none⟩ = some (.int .i64 a) ∧ V.cell? ⟨eb1, 1, none⟩ = some (.int .i64 r) ∧ V.cell? ⟨eb1, 2, none⟩ = some (.slice A3 p.length c3) ∧ V.cell? ⟨eb2, 0, none⟩ = some (.int .i64 s) ∧ V.cell? ⟨eb2, 1, none⟩ = some (.int .i64 n) ∧ V.cell? ⟨eb2, 2, none⟩ = some (.slice A4 q.length c4))) (by kernel_rfl) (by exact ⟨e0, e1, e2, k0, k1, k2⟩) (fun hHeld => ?_)
    clear e0 e1 e2 k0 k1 k2
    refine wpAnyH_take (i := 0) (oi := ?_) (v := ?_) ?_ ?_ ?_ ?_ ?_ ?_ (by exact hHeld) ?_
    rotate_left 2
    · (simp only [List.getElem?_toArray, List.getElem?_cons_zero]; try rfl)
    · kernel_rfl
    · kernel_rfl
    · kernel_rfl
    · exact fun _ _ _ h => h
    · refine Or.inl ⟨by rfl, ?_⟩
      (intro V hSV; (try dsimp only at hSV); obtain ⟨q0, q1, q2, q3, q4, q5⟩ := hSV; go_simp; try with_reducible rfl)
    (try simp only [Act.put, List.setIfInBounds_toArray, List.set_cons_zero, List.set_cons_succ])
    refine wpAnyH_take (i := 1) (oi := ?_) (v := ?_) ?_ ?_ ?_ ?_ ?_ ?_ (by exact hHeld) ?_
    rotate_left 2
    · (simp only [List.getElem?_toArray, List.getElem?_cons_zero, List.getElem?_cons_succ]; try rfl)
    · kernel_rfl
    · kernel_rfl
    · kernel_rfl
    · exact fun _ _ _ h => h
    · refine Or.inl ⟨by rfl, ?_⟩
      (intro V hSV; (try dsimp only at hSV); obtain ⟨q0, q1, q2, q3, q4, q5⟩ := hSV; go_simp; try with_reducible rfl)
    (try simp only [Act.put, List.setIfInBounds_toArray, List.set_cons_zero, List.set_cons_succ])
    refine wpAnyH_ready (rs := [2]) (by kernel_rfl) (by simp) ?_
    refine AllReadyH.cons (o := ?_) ?_ (fun K hK => ?_) AllReadyH.nil
    rotate_left 1
    · (simp only [List.getElem?_toArray, List.getElem?_cons_zero, List.getElem?_cons_succ]; try rfl)
    have r0 := bR1.c0
    have r1 := bR1.c1
    have r2 := bR1.c2
    have f0 := bR1.f 0
    have f1 := bR1.f 1
    have f2 := bR1.f 2
    have z1 : EBox (((W8.setCell ⟨w.heap.size, 0, none⟩ (.int .i64 a)).setCell ⟨w.heap.size, 1, none⟩ (.int .i64 r)).setCell ⟨w.heap.size, 2, none⟩ (.slice A3 p.length c3)) eb1 a r A3 p.length c3 := ⟨(((hE1.blk.setFar (d := w.heap.size) (by omega) 0 (.int .i64 a)).setFar (d := w.heap.size) (by omega) 1 (.int .i64 r)).setFar (d := w.heap.size) (by omega) 2 (.slice A3 p.length c3))⟩
    have z2 : EBox (((W8.setCell ⟨w.heap.size, 0, none⟩ (.int .i64 a)).setCell ⟨w.heap.size, 1, none⟩ (.int .i64 r)).setCell ⟨w.heap.size, 2, none⟩ (.slice A3 p.length c3)) eb2 s n A4 q.length c4 := ⟨(((hE2.blk.setFar (d := w.heap.size) (by omega) 0 (.int .i64 a)).setFar (d := w.heap.size) (by omega) 1 (.int .i64 r)).setFar (d := w.heap.size) (by omega) 2 (.slice A3 p.length c3))⟩
    have bR1 : EBox (((W8.setCell ⟨w.heap.size, 0, none⟩ (.int .i64 a)).setCell ⟨w.heap.size, 1, none⟩ (.int .i64 r)).setCell ⟨w.heap.size, 2, none⟩ (.slice A3 p.length c3)) w.heap.size a r A3 p.length c3 := (((bR1.set0 a).set1 r).set2 A3 p.length c3)
    have bR2 := (show EBox (((W8.setCell ⟨w.heap.size, 0, none⟩ (.int .i64 a)).setCell ⟨w.heap.size, 1, none⟩ (.int .i64 r)).setCell ⟨w.heap.size, 2, none⟩ (.slice A3 p.length c3)) _ _ _ _ _ _ from ⟨(((bR2.blk.setFar (d := w.heap.size) (by omega) 0 (.int .i64 a)).setFar (d := w.heap.size) (by omega) 1 (.int .i64 r)).setFar (d := w.heap.size) (by omega) 2 (.slice A3 p.length c3))⟩)
    have hE1 := z1
    have hE2 := z2
    have hO1 := ownSet9 (ownSet9 (ownSet9 hO1 hn11 0 (.int .i64 a)) hn11 1 (.int .i64 r)) hn11 2 (.slice A3 p.length c3)
    have hO2 := ownSet9 (ownSet9 (ownSet9 hO2 hn12 0 (.int .i64 a)) hn12 1 (.int .i64 r)) hn12 2 (.slice A3 p.length c3)
    have hBB := ((hBB.setCell (p := ⟨w.heap.size, 0, none⟩) (Nat.le_refl _) (.int .i64 a)).setCell (p := ⟨w.heap.size, 1, none⟩) (Nat.le_refl _) (.int .i64 r)).setCell (p := ⟨w.heap.size, 2, none⟩) (Nat.le_refl _) (.slice A3 p.length c3)
    go_simp
    refine hK.out _ _ (by exact ⟨hE1.c0, hE1.c1, hE1.c2, hE2.c0, hE2.c1, hE2.c2⟩) (fun hHeld => ?_)
    clear hK K r0 r1 r2 f0 f1 f2 z1 z2
    (try simp only [Act.put, List.setIfInBounds_toArray, List.set_cons_zero, List.set_cons_succ])
    generalize (((W8.setCell ⟨w.heap.size, 0, none⟩ (.int .i64 a)).setCell ⟨w.heap.size, 1, none⟩ (.int .i64 r)).setCell ⟨w.heap.size, 2, none⟩ (.slice A3 p.length c3)) = Wx at *
    refine wpAnyH_ready (rs := [3]) (by kernel_rfl) (by simp) ?_
    refine AllReadyH.cons (o := ?_) ?_ (fun K hK => ?_) AllReadyH.nil
    rotate_left 1
    · (simp only [List.getElem?_toArray, List.getElem?_cons_zero, List.getElem?_cons_succ]; try rfl)
    have r0 := bR2.c0
    have r1 := bR2.c1
    have r2 := bR2.c2
    have f0 := bR2.f 0
    have f1 := bR2.f 1
    have f2 := bR2.f 2
    have z1 : EBox (((Wx.setCell ⟨(w.heap.size + 1), 0, none⟩ (.int .i64 s)).setCell ⟨(w.heap.size + 1), 1, none⟩ (.int .i64 n)).setCell ⟨(w.heap.size + 1), 2, none⟩ (.slice A4 q.length c4)) eb1 a r A3 p.length c3 := ⟨(((hE1.blk.setFar (d := (w.heap.size + 1)) (by omega) 0 (.int .i64 s)).setFar (d := (w.heap.size + 1)) (by omega) 1 (.int .i64 n)).setFar (d := (w.heap.size + 1)) (by omega) 2 (.slice A4 q.length c4))⟩
    have z2 : EBox (((Wx.setCell ⟨(w.heap.size + 1), 0, none⟩ (.int .i64 s)).setCell ⟨(w.heap.size + 1), 1, none⟩ (.int .i64 n)).setCell ⟨(w.heap.size + 1), 2, none⟩ (.slice A4 q.length c4)) eb2 s n A4 q.length c4 := ⟨(((hE2.blk.setFar (d := (w.heap.size + 1)) (by omega) 0 (.int .i64 s)).setFar (d := (w.heap.size + 1)) (by omega) 1 (.int .i64 n)).setFar (d := (w.heap.size + 1)) (by omega) 2 (.slice A4 q.length c4))⟩
    have bR2 : EBox (((Wx.setCell ⟨(w.heap.size + 1), 0, none⟩ (.int .i64 s)).setCell ⟨(w.heap.size + 1), 1, none⟩ (.int .i64 n)).setCell ⟨(w.heap.size + 1), 2, none⟩ (.slice A4 q.length c4)) (w.heap.size + 1) s n A4 q.length c4 := (((bR2.set0 s).set1 n).set2 A4 q.length c4)
    have bR1 := (show EBox (((Wx.setCell ⟨(w.heap.size + 1), 0, none⟩ (.int .i64 s)).setCell ⟨(w.heap.size + 1), 1, none⟩ (.int .i64 n)).setCell ⟨(w.heap.size + 1), 2, none⟩ (.slice A4 q.length c4)) _ _ _ _ _ _ from ⟨(((bR1.blk.setFar (d := (w.heap.size + 1)) (by omega) 0 (.int .i64 s)).setFar (d := (w.heap.size + 1)) (by omega) 1 (.int .i64 n)).setFar (d := (w.heap.size + 1)) (by omega) 2 (.slice A4 q.length c4))⟩)
    have hE1 := z1
    have hE2 := z2
    have hO1 := ownSet9 (ownSet9 (ownSet9 hO1 hn21 0 (.int .i64 s)) hn21 1 (.int .i64 n)) hn21 2 (.slice A4 q.length c4)
    have hO2 := ownSet9 (ownSet9 (ownSet9 hO2 hn22 0 (.int .i64 s)) hn22 1 (.int .i64 n)) hn22 2 (.slice A4 q.length c4)
    have hBB := ((hBB.setCell (p := ⟨(w.heap.size + 1), 0, none⟩) (Nat.le_succ _) (.int .i64 s)).setCell (p := ⟨(w.heap.size + 1), 1, none⟩) (Nat.le_succ _) (.int .i64 n)).setCell (p := ⟨(w.heap.size + 1), 2, none⟩) (Nat.le_succ _) (.slice A4 q.length c4)
    go_simp
    refine hK.out _ _ (by exact ⟨hE1.c0, hE1.c1, hE1.c2, hE2.c0, hE2.c1, hE2.c2⟩) (fun hHeld => ?_)
    clear hK K r0 r1 r2 f0 f1 f2 z1 z2
    (try simp only [Act.put, List.setIfInBounds_toArray, List.set_cons_zero, List.set_cons_succ])
    generalize (((Wx.setCell ⟨(w.heap.size + 1), 0, none⟩ (.int .i64 s)).setCell ⟨(w.heap.size + 1), 1, none⟩ (.int .i64 n)).setCell ⟨(w.heap.size + 1), 2, none⟩ (.slice A4 q.length c4)) = Wy at *
    refine wpAnyH_done (by kernel_rfl) ?_ _
    have r0 := bR1.c0
    have r1 := bR1.c1
    have r2 := bR1.c2
    have s0 := bR2.c0
    have s1 := bR2.c1
    have s2 := bR2.c2
    obtain ⟨_, _, e9, hl9, hm9, hB9, hp9, hq9⟩ := own_plain9 hO1
    cases e9
    obtain ⟨_, _, e8, hl8, hm8, hB8, hp8, hq8⟩ := own_plain9 hO2
    cases e8
    go_wp2
    refine bodyPost_ret (v := .tuple #[.agg #[.int .i64 a, .int .i64 r, .slice A3 p.length c3], .agg #[.int .i64 s, .int .i64 n, .slice A4 q.length c4]]) (by simp [results, Tryd.results25, go_sem, r0, r1, r2, s0, s1, s2]) rfl ?_
    exact ⟨a, r, A3, p, c3, s, n, A4, q, c4, rfl, hra, hrm, by omega, hl9, hm9, by unfold Pl; exact ⟨hp9, hq9⟩, hrb, hrn, by omega, hl8, hm8, by unfold Pl; exact ⟨hp8, hq8⟩, hB9, hB8, (by first | exact hBB | exact hBB.drew)⟩
  by_cases q2 : x = 2
  · subst q2
    go_wp2_with fail
    refine (pick_any g (0 + 1 + 3 * 40 + 60 + 60 + 1) 9 _ (by omega) (by omega) (by exact hc5)).mono ?_
    rintro e w6 ⟨y1, rfl, hy0, hy1, hc6, ho6⟩
    have bE1 := bE1.only ho6 (by omega)
    have bE2 := bE2.only ho6 (by omega)
    have bR1 := bR1.only ho6 (by omega)
    have bR2 := bR2.only ho6 (by omega)
    have hO1 := hO1.only ho6 (by omega)
    have hs6 := ho6.size
    have hBB := hBB.trans (ho6.below w.heap.size (by omega) (by omega))
    go_wp2_with fail
    refine (pick_any g (0 + 1 + 3 * 40 + 60 + 60 + 1 + 1) 9 _ (by omega) (by omega) (by exact hc6)).mono ?_
    rintro e w7 ⟨y2, rfl, hz0, hz1, hc7, ho7⟩
    have bE1 := bE1.only ho7 (by omega)
    have bE2 := bE2.only ho7 (by omega)
    have bR1 := bR1.only ho7 (by omega)
    have bR2 := bR2.only ho7 (by omega)
    have hO1 := hO1.only ho7 (by omega)
    have hs7 := ho7.size
    have hBB := hBB.trans (ho7.below w.heap.size (by omega) (by omega))
    obtain ⟨nn, hnn⟩ : ∃ n : Nat, 400 - y1 + y2 = (n : Int) := ⟨(400 - y1 + y2).toNat, by omega⟩
    have hn4 : nn ≤ 410 := by omega
    have hmk : ∀ W, (Instr.makeSlice 22 (.int .i64 (400 - y1 + y2)) (.int .i64 (400 - y1 + y2))).run Tryd.prog W = .ok (.slice (some ⟨W.heap.size, 0, none⟩) nn nn) (W.alloc (.cells (madeCells #[.int .u8 0] nn) 5)) := fun W => by
      rw [hnn]
      have := run_mk (P := Tryd.prog) 22 5 (.int .u8 0) 1 1 Tryd.underlying22 Tryd.infoB nn (by omega) (by omega) W
      rw [Nat.mul_one] at this
      exact this
    have HNN := Lib.hid hnn
    clear hnn
    obtain ⟨q7, hq7⟩ : ∃ l : List UInt8, List.replicate nn (0 : UInt8) = l := ⟨_, rfl⟩
    have hz9 : ∀ W : World, Own (W.alloc (.cells (madeCells #[.int .u8 0] nn) 5)) W.heap.size (.slice (some ⟨W.heap.size, 0, none⟩) nn nn) q7 := fun W => by rw [← hq7]; exact own_zeros W nn (by omega)
    have hl9 : nn = q7.length := by rw [← hq7, List.length_replicate]
    clear hq7
    subst hl9
    have hqn : q7.length ≤ 500 := by omega
    have hszq : (w7.setCell ⟨eb2, 2, none⟩ (.slice (some ⟨w7.heap.size, 0, none⟩) q7.length q7.length)).heap.size = w7.heap.size := by simp
    have hown7 := hz9 (w7.setCell ⟨eb2, 2, none⟩ (.slice (some ⟨w7.heap.size, 0, none⟩) q7.length q7.length))
    rw [hszq] at hown7
    have hal := (Below.refl (w7.setCell ⟨eb2, 2, none⟩ (.slice (some ⟨w7.heap.size, 0, none⟩) q7.length q7.length)).heap.size (w7.setCell ⟨eb2, 2, none⟩ (.slice (some ⟨w7.heap.size, 0, none⟩) q7.length q7.length))).alloc (Nat.le_refl _) (.cells (madeCells #[.int .u8 0] q7.length) 5)
    have k0 := bE2.c0
    have k1 := bE2.c1
    have k2 := bE2.c2
    have kf2 := bE2.f 2
    have hlt9 := bE2.lt
    have hlt8 := bE1.lt
    have zE1 := (show EBox (w7.setCell ⟨eb2, 2, none⟩ (.slice (some ⟨w7.heap.size, 0, none⟩) q7.length q7.length)) _ _ _ _ _ _ from ⟨bE1.blk.setFar (d := eb2) (by omega) 2 _⟩).below hal
    have zE2 := (bE2.set2 (some ⟨w7.heap.size, 0, none⟩) q7.length q7.length).below hal
    have bR1 := (show EBox (w7.setCell ⟨eb2, 2, none⟩ (.slice (some ⟨w7.heap.size, 0, none⟩) q7.length q7.length)) _ _ _ _ _ _ from ⟨bR1.blk.setFar (d := eb2) (by omega) 2 _⟩).below hal
    have bR2 := (show EBox (w7.setCell ⟨eb2, 2, none⟩ (.slice (some ⟨w7.heap.size, 0, none⟩) q7.length q7.length)) _ _ _ _ _ _ from ⟨bR2.blk.setFar (d := eb2) (by omega) 2 _⟩).below hal
    have hmm1 : ∀ k ∈ (Value.slice A3 p.length c3).ownBlock.toList, eb2 ≠ k := fun k hk => (hm1 k hk).2
    have hO1 := (ownSet9 hO1 hmm1 2 (.slice (some ⟨w7.heap.size, 0, none⟩) q7.length q7.length)).below hal
    have hBB := (hBB.setCell (p := ⟨eb2, 2, none⟩) le2 (.slice (some ⟨w7.heap.size, 0, none⟩) q7.length q7.length)).trans (hal.mono (by rw [hszq]; omega))
    have hrg := hown7.range
    have hn12 : ∀ k ∈ (Value.slice (some ⟨w7.heap.size, 0, none⟩) q7.length q7.length).ownBlock.toList, w.heap.size ≠ k := fun k hk => by have h1 := hrg k hk; omega
    have hn22 : ∀ k ∈ (Value.slice (some ⟨w7.heap.size, 0, none⟩) q7.length q7.length).ownBlock.toList, w.heap.size + 1 ≠ k := fun k hk => by have h1 := hrg k hk; omega
    have hO2 := hown7
    have HZ9 := Lib.hid hz9
    have HSQ := Lib.hid hszq
    clear hown7 hz9 hal hrg hm1 hm2 bE1 bE2 hszq
    go_upto_region 13 with fail
    generalize (w7.setCell ⟨eb2, 2, none⟩ (.slice (some ⟨w7.heap.size, 0, none⟩) q7.length q7.length)).alloc (.cells (madeCells #[.int .u8 0] q7.length) 5) = W8 at *
    generalize w7.heap.size = zb at *
    clear k0 k1 k2 kf2
    have bE1 := zE1
    have bE2 := zE2
    have hE1 := bE1
    have hE2 := bE2
    have e0 := hE1.c0
    have e1 := hE1.c1
    have e2 := hE1.c2
    have k0 := hE2.c0
    have k1 := hE2.c1
    have k2 := hE2.c2
    go_wp2_with fail
    refine wp_region_held_drew (S := (fun V => V.cell? ⟨eb1, 0, none⟩ = some (.int .i64 a) ∧ V.cell? ⟨eb1, 1, none⟩ = some (.int .i64 m) ∧ V.cell? ⟨eb1, 2, none⟩ = some (.slice A3 p.length c3) ∧ V.cell? ⟨eb2, 0, none⟩ = some (.int .i64 s) ∧ V.cell? ⟨eb2, 1, none⟩ = some (.int .i64 n) ∧ V.cell? ⟨eb2, 2, none⟩ = some (.slice (some ⟨zb, 0, none⟩) q7.length q7.length))) (by kernel_rfl) (by exact ⟨e0, e1, e2, k0, k1, k2⟩) (fun hHeld => ?_)
    clear e0 e1 e2 k0 k1 k2
    refine wpAnyH_take (i := 0) (oi := ?_) (v := ?_) ?_ ?_ ?_ ?_ ?_ ?_ (by exact hHeld) ?_
    rotate_left 2
    · (simp only [List.getElem?_toArray, List.getElem?_cons_zero]; try rfl)
    · kernel_rfl
    · kernel_rfl
    · kernel_rfl
    · exact fun _ _ _ h => h
    · refine Or.inl ⟨by rfl, ?_⟩
      (intro V hSV; (try dsimp only at hSV); obtain ⟨q0, q1, q2, q3, q4, q5⟩ := hSV; go_simp; try with_reducible rfl)
    (try simp only [Act.put, List.setIfInBounds_toArray, List.set_cons_zero, List.set_cons_succ])
    refine wpAnyH_take (i := 1) (oi := ?_) (v := ?_) ?_ ?_ ?_ ?_ ?_ ?_ (by exact hHeld) ?_
    rotate_left 2
    · (simp only [List.getElem?_toArray, List.getElem?_cons_zero, List.getElem?_cons_succ]; try rfl)
    · kernel_rfl
    · kernel_rfl
    · kernel_rfl
    · exact fun _ _ _ h => h
    · refine Or.inl ⟨by rfl, ?_⟩
      (intro V hSV; (try dsimp only at hSV); obtain ⟨q0, q1, q2, q3, q4, q5⟩ := hSV; go_simp; try with_reducible rfl)
    (try simp only [Act.put, List.setIfInBounds_toArray, List.set_cons_zero, List.set_cons_succ])
    refine wpAnyH_ready (rs := [2]) (by kernel_rfl) (by simp) ?_
    refine AllReadyH.cons (o := ?_) ?_ (fun K hK => ?_) AllReadyH.nil
    rotate_left 1
    · (simp only [List.getElem?_toArray, List.getElem?_cons_zero, List.getElem?_cons_succ]; try rfl)
    have r0 := bR1.c0
    have r1 := bR1.c1
    have r2 := bR1.c2
    have f0 := bR1.f 0
    have f1 := bR1.f 1
    have f2 := bR1.f 2
    have z1 : EBox (((W8.setCell ⟨w.heap.size, 0, none⟩ (.int .i64 a)).setCell ⟨w.heap.size, 1, none⟩ (.int .i64 m)).setCell ⟨w.heap.size, 2, none⟩ (.slice A3 p.length c3)) eb1 a m A3 p.length c3 := ⟨(((hE1.blk.setFar (d := w.heap.size) (by omega) 0 (.int .i64 a)).setFar (d := w.heap.size) (by omega) 1 (.int .i64 m)).setFar (d := w.heap.size) (by omega) 2 (.slice A3 p.length c3))⟩
    have z2 : EBox (((W8.setCell ⟨w.heap.size, 0, none⟩ (.int .i64 a)).setCell ⟨w.heap.size, 1, none⟩ (.int .i64 m)).setCell ⟨w.heap.size, 2, none⟩ (.slice A3 p.length c3)) eb2 s n (some ⟨zb, 0, none⟩) q7.length q7.length := ⟨(((hE2.blk.setFar (d := w.heap.size) (by omega) 0 (.int .i64 a)).setFar (d := w.heap.size) (by omega) 1 (.int .i64 m)).setFar (d := w.heap.size) (by omega) 2 (.slice A3 p.length c3))⟩
    have bR1 : EBox (((W8.setCell ⟨w.heap.size, 0, none⟩ (.int .i64 a)).setCell ⟨w.heap.size, 1, none⟩ (.int .i64 m)).setCell ⟨w.heap.size, 2, none⟩ (.slice A3 p.length c3)) w.heap.size a m A3 p.length c3 := (((bR1.set0 a).set1 m).set2 A3 p.length c3)
    have bR2 := (show EBox (((W8.setCell ⟨w.heap.size, 0, none⟩ (.int .i64 a)).setCell ⟨w.heap.size, 1, none⟩ (.int .i64 m)).setCell ⟨w.heap.size, 2, none⟩ (.slice A3 p.length c3)) _ _ _ _ _ _ from ⟨(((bR2.blk.setFar (d := w.heap.size) (by omega) 0 (.int .i64 a)).setFar (d := w.heap.size) (by omega) 1 (.int .i64 m)).setFar (d := w.heap.size) (by omega) 2 (.slice A3 p.length c3))⟩)
    have hE1 := z1
    have hE2 := z2
    have hO1 := ownSet9 (ownSet9 (ownSet9 hO1 hn11 0 (.int .i64 a)) hn11 1 (.int .i64 m)) hn11 2 (.slice A3 p.length c3)
    have hO2 := ownSet9 (ownSet9 (ownSet9 hO2 hn12 0 (.int .i64 a)) hn12 1 (.int .i64 m)) hn12 2 (.slice A3 p.length c3)
    have hBB := ((hBB.setCell (p := ⟨w.heap.size, 0, none⟩) (Nat.le_refl _) (.int .i64 a)).setCell (p := ⟨w.heap.size, 1, none⟩) (Nat.le_refl _) (.int .i64 m)).setCell (p := ⟨w.heap.size, 2, none⟩) (Nat.le_refl _) (.slice A3 p.length c3)
    go_simp
    refine hK.out _ _ (by exact ⟨hE1.c0, hE1.c1, hE1.c2, hE2.c0, hE2.c1, hE2.c2⟩) (fun hHeld => ?_)
    clear hK K r0 r1 r2 f0 f1 f2 z1 z2
    (try simp only [Act.put, List.setIfInBounds_toArray, List.set_cons_zero, List.set_cons_succ])
    generalize (((W8.setCell ⟨w.heap.size, 0, none⟩ (.int .i64 a)).setCell ⟨w.heap.size, 1, none⟩ (.int .i64 m)).setCell ⟨w.heap.size, 2, none⟩ (.slice A3 p.length c3)) = Wx at *
    refine wpAnyH_ready (rs := [3]) (by kernel_rfl) (by simp) ?_
    refine AllReadyH.cons (o := ?_) ?_ (fun K hK => ?_) AllReadyH.nil
    rotate_left 1
    · (simp only [List.getElem?_toArray, List.getElem?_cons_zero, List.getElem?_cons_succ]; try rfl)
    have r0 := bR2.c0
    have r1 := bR2.c1
    have r2 := bR2.c2
    have f0 := bR2.f 0
    have f1 := bR2.f 1
    have f2 := bR2.f 2
    have z1 : EBox (((Wx.setCell ⟨(w.heap.size + 1), 0, none⟩ (.int .i64 s)).setCell ⟨(w.heap.size + 1), 1, none⟩ (.int .i64 n)).setCell ⟨(w.heap.size + 1), 2, none⟩ (.slice (some ⟨zb, 0, none⟩) q7.length q7.length)) eb1 a m A3 p.length c3 := ⟨(((hE1.blk.setFar (d := (w.heap.size + 1)) (by omega) 0 (.int .i64 s)).setFar (d := (w.heap.size + 1)) (by omega) 1 (.int .i64 n)).setFar (d := (w.heap.size + 1)) (by omega) 2 (.slice (some ⟨zb, 0, none⟩) q7.length q7.length))⟩
    have z2 : EBox (((Wx.setCell ⟨(w.heap.size + 1), 0, none⟩ (.int .i64 s)).setCell ⟨(w.heap.size + 1), 1, none⟩ (.int .i64 n)).setCell ⟨(w.heap.size + 1), 2, none⟩ (.slice (some ⟨zb, 0, none⟩) q7.length q7.length)) eb2 s n (some ⟨zb, 0, none⟩) q7.length q7.length := ⟨(((hE2.blk.setFar (d := (w.heap.size + 1)) (by omega) 0 (.int .i64 s)).setFar (d := (w.heap.size + 1)) (by omega) 1 (.int .i64 n)).setFar (d := (w.heap.size + 1)) (by omega) 2 (.slice (some ⟨zb, 0, none⟩) q7.length q7.length))⟩
    have bR2 : EBox (((Wx.setCell ⟨(w.heap.size + 1), 0, none⟩ (.int .i64 s)).setCell ⟨(w.heap.size + 1), 1, none⟩ (.int .i64 n)).setCell ⟨(w.heap.size + 1), 2, none⟩ (.slice (some ⟨zb, 0, none⟩) q7.length q7.length)) (w.heap.size + 1) s n (some ⟨zb, 0, none⟩) q7.length q7.length := (((bR2.set0 s).set1 n).set2 (some ⟨zb, 0, none⟩) q7.length q7.length)
    have bR1 := (show EBox (((Wx.setCell ⟨(w.heap.size + 1), 0, none⟩ (.int .i64 s)).setCell ⟨(w.heap.size + 1), 1, none⟩ (.int .i64 n)).setCell ⟨(w.heap.size + 1), 2, none⟩ (.slice (some ⟨zb, 0, none⟩) q7.length q7.length)) _ _ _ _ _ _ from ⟨(((bR1.blk.setFar (d := (w.heap.size + 1)) (by omega) 0 (.int .i64 s)).setFar (d := (w.heap.size + 1)) (by omega) 1 (.int .i64 n)).setFar (d := (w.heap.size + 1)) (by omega) 2 (.slice (some ⟨zb, 0, none⟩) q7.length q7.length))⟩)
    have hE1 := z1
    have hE2 := z2
    have hO1 := ownSet9 (ownSet9 (ownSet9 hO1 hn21 0 (.int .i64 s)) hn21 1 (.int .i64 n)) hn21 2 (.slice (some ⟨zb, 0, none⟩) q7.length q7.length)
    have hO2 := ownSet9 (ownSet9 (ownSet9 hO2 hn22 0 (.int .i64 s)) hn22 1 (.int .i64 n)) hn22 2 (.slice (some ⟨zb, 0, none⟩) q7.length q7.length)
    have hBB := ((hBB.setCell (p := ⟨(w.heap.size + 1), 0, none⟩) (Nat.le_succ _) (.int .i64 s)).setCell (p := ⟨(w.heap.size + 1), 1, none⟩) (Nat.le_succ _) (.int .i64 n)).setCell (p := ⟨(w.heap.size + 1), 2, none⟩) (Nat.le_succ _) (.slice (some ⟨zb, 0, none⟩) q7.length q7.length)
    go_simp
    refine hK.out _ _ (by exact ⟨hE1.c0, hE1.c1, hE1.c2, hE2.c0, hE2.c1, hE2.c2⟩) (fun hHeld => ?_)
    clear hK K r0 r1 r2 f0 f1 f2 z1 z2
    (try simp only [Act.put, List.setIfInBounds_toArray, List.set_cons_zero, List.set_cons_succ])
    generalize (((Wx.setCell ⟨(w.heap.size + 1), 0, none⟩ (.int .i64 s)).setCell ⟨(w.heap.size + 1), 1, none⟩ (.int .i64 n)).setCell ⟨(w.heap.size + 1), 2, none⟩ (.slice (some ⟨zb, 0, none⟩) q7.length q7.length)) = Wy at *
    refine wpAnyH_done (by kernel_rfl) ?_ _
    have r0 := bR1.c0
    have r1 := bR1.c1
    have r2 := bR1.c2
    have s0 := bR2.c0
    have s1 := bR2.c1
    have s2 := bR2.c2
    obtain ⟨_, _, e9, hl9, hm9, hB9, hp9, hq9⟩ := own_plain9 hO1
    cases e9
    obtain ⟨_, _, e8, hl8, hm8, hB8, hp8, hq8⟩ := own_plain9 hO2
    cases e8
    go_wp2
    refine bodyPost_ret (v := .tuple #[.agg #[.int .i64 a, .int .i64 m, .slice A3 p.length c3], .agg #[.int .i64 s, .int .i64 n, .slice (some ⟨zb, 0, none⟩) q7.length q7.length]]) (by simp [results, Tryd.results25, go_sem, r0, r1, r2, s0, s1, s2]) rfl ?_
    exact ⟨a, m, A3, p, c3, s, n, (some ⟨zb, 0, none⟩), q7, q7.length, rfl, hra, hrm, by omega, hl9, hm9, by unfold Pl; exact ⟨hp9, hq9⟩, hrb, hrn, by omega, hl8, hm8, by unfold Pl; exact ⟨hp8, hq8⟩, hB9, hB8, (by first | exact hBB | exact hBB.drew)⟩
  have b0 : (x == 0) = false := by simpa using q0
  have b1 : (x == 1) = false := by simpa using q1
  have b2 : (x == 2) = false := by simpa using q2
  have hE1 := bE1
  have hE2 := bE2
  have e0 := hE1.c0
  have e1 := hE1.c1
  have e2 := hE1.c2
  have k0 := hE2.c0
  have k1 := hE2.c1
  have k2 := hE2.c2
  go_wp2_with fail
  refine wp_region_held_drew (S := (fun V => V.cell? ⟨eb1, 0, none⟩ = some (.int .i64 a) ∧ V.cell? ⟨eb1, 1, none⟩ = some (.int .i64 m) ∧ V.cell? ⟨eb1, 2, none⟩ = some (.slice A3 p.length c3) ∧ V.cell? ⟨eb2, 0, none⟩ = some (.int .i64 s) ∧ V.cell? ⟨eb2, 1, none⟩ = some (.int .i64 n) ∧ V.cell? ⟨eb2, 2, none⟩ = some (.slice A4 q.length c4))) (by kernel_rfl) (by exact ⟨e0, e1, e2, k0, k1, k2⟩) (fun hHeld => ?_)
  clear e0 e1 e2 k0 k1 k2
  refine wpAnyH_take (i := 0) (oi := ?_) (v := ?_) ?_ ?_ ?_ ?_ ?_ ?_ (by exact hHeld) ?_
  rotate_left 2
  · (simp only [List.getElem?_toArray, List.getElem?_cons_zero]; try rfl)
  · kernel_rfl
  · kernel_rfl
  · kernel_rfl
  · exact fun _ _ _ h => h
  · refine Or.inl ⟨by rfl, ?_⟩
    (intro V hSV; (try dsimp only at hSV); obtain ⟨q0, q1, q2, q3, q4, q5⟩ := hSV; go_simp; try with_reducible rfl)
  (try simp only [Act.put, List.setIfInBounds_toArray, List.set_cons_zero, List.set_cons_succ])
  refine wpAnyH_take (i := 1) (oi := ?_) (v := ?_) ?_ ?_ ?_ ?_ ?_ ?_ (by exact hHeld) ?_
  rotate_left 2
  · (simp only [List.getElem?_toArray, List.getElem?_cons_zero, List.getElem?_cons_succ]; try rfl)
  · kernel_rfl
  · kernel_rfl
  · kernel_rfl
  · exact fun _ _ _ h => h
  · refine Or.inl ⟨by rfl, ?_⟩
    (intro V hSV; (try dsimp only at hSV); obtain ⟨q0, q1, q2, q3, q4, q5⟩ := hSV; go_simp; try with_reducible rfl)
  (try simp only [Act.put, List.setIfInBounds_toArray, List.set_cons_zero, List.set_cons_succ])
  refine wpAnyH_ready (rs := [2]) (by kernel_rfl) (by simp) ?_
  refine AllReadyH.cons (o := ?_) ?_ (fun K hK => ?_) AllReadyH.nil
  rotate_left 1
  · (simp only [List.getElem?_toArray, List.getElem?_cons_zero, List.getElem?_cons_succ]; try rfl)
  have r0 := bR1.c0
  have r1 := bR1.c1
  have r2 := bR1.c2
  have f0 := bR1.f 0
  have f1 := bR1.f 1
  have f2 := bR1.f 2
  have z1 : EBox (((w5.setCell ⟨w.heap.size, 0, none⟩ (.int .i64 a)).setCell ⟨w.heap.size, 1, none⟩ (.int .i64 m)).setCell ⟨w.heap.size, 2, none⟩ (.slice A3 p.length c3)) eb1 a m A3 p.length c3 := ⟨(((hE1.blk.setFar (d := w.heap.size) (by omega) 0 (.int .i64 a)).setFar (d := w.heap.size) (by omega) 1 (.int .i64 m)).setFar (d := w.heap.size) (by omega) 2 (.slice A3 p.length c3))⟩
  have z2 : EBox (((w5.setCell ⟨w.heap.size, 0, none⟩ (.int .i64 a)).setCell ⟨w.heap.size, 1, none⟩ (.int .i64 m)).setCell ⟨w.heap.size, 2, none⟩ (.slice A3 p.length c3)) eb2 s n A4 q.length c4 := ⟨(((hE2.blk.setFar (d := w.heap.size) (by omega) 0 (.int .i64 a)).setFar (d := w.heap.size) (by omega) 1 (.int .i64 m)).setFar (d := w.heap.size) (by omega) 2 (.slice A3 p.length c3))⟩
  have bR1 : EBox (((w5.setCell ⟨w.heap.size, 0, none⟩ (.int .i64 a)).setCell ⟨w.heap.size, 1, none⟩ (.int .i64 m)).setCell ⟨w.heap.size, 2, none⟩ (.slice A3 p.length c3)) w.heap.size a m A3 p.length c3 := (((bR1.set0 a).set1 m).set2 A3 p.length c3)
  have bR2 := (show EBox (((w5.setCell ⟨w.heap.size, 0, none⟩ (.int .i64 a)).setCell ⟨w.heap.size, 1, none⟩ (.int .i64 m)).setCell ⟨w.heap.size, 2, none⟩ (.slice A3 p.length c3)) _ _ _ _ _ _ from ⟨(((bR2.blk.setFar (d := w.heap.size) (by omega) 0 (.int .i64 a)).setFar (d := w.heap.size) (by omega) 1 (.int .i64 m)).setFar (d := w.heap.size) (by omega) 2 (.slice A3 p.length c3))⟩)
  have hE1 := z1
  have hE2 := z2
  have hO1 := ownSet9 (ownSet9 (ownSet9 hO1 hn11 0 (.int .i64 a)) hn11 1 (.int .i64 m)) hn11 2 (.slice A3 p.length c3)
  have hO2 := ownSet9 (ownSet9 (ownSet9 hO2 hn12 0 (.int .i64 a)) hn12 1 (.int .i64 m)) hn12 2 (.slice A3 p.length c3)
  have hBB := ((hBB.setCell (p := ⟨w.heap.size, 0, none⟩) (Nat.le_refl _) (.int .i64 a)).setCell (p := ⟨w.heap.size, 1, none⟩) (Nat.le_refl _) (.int .i64 m)).setCell (p := ⟨w.heap.size, 2, none⟩) (Nat.le_refl _) (.slice A3 p.length c3)
  go_simp
  refine hK.out _ _ (by exact ⟨hE1.c0, hE1.c1, hE1.c2, hE2.c0, hE2.c1, hE2.c2⟩) (fun hHeld => ?_)
  clear hK K r0 r1 r2 f0 f1 f2 z1 z2
  (try simp only [Act.put, List.setIfInBounds_toArray, List.set_cons_zero, List.set_cons_succ])
  generalize (((w5.setCell ⟨w.heap.size, 0, none⟩ (.int .i64 a)).setCell ⟨w.heap.size, 1, none⟩ (.int .i64 m)).setCell ⟨w.heap.size, 2, none⟩ (.slice A3 p.length c3)) = Wx at *
  refine wpAnyH_ready (rs := [3]) (by kernel_rfl) (by simp) ?_
  refine AllReadyH.cons (o := ?_) ?_ (fun K hK => ?_) AllReadyH.nil
  rotate_left 1
  · (simp only [List.getElem?_toArray, List.getElem?_cons_zero, List.getElem?_cons_succ]; try rfl)
  have r0 := bR2.c0
  have r1 := bR2.c1
  have r2 := bR2.c2
  have f0 := bR2.f 0
  have f1 := bR2.f 1
  have f2 := bR2.f 2
  have z1 : EBox (((Wx.setCell ⟨(w.heap.size + 1), 0, none⟩ (.int .i64 s)).setCell ⟨(w.heap.size + 1), 1, none⟩ (.int .i64 n)).setCell ⟨(w.heap.size + 1), 2, none⟩ (.slice A4 q.length c4)) eb1 a m A3 p.length c3 := ⟨(((hE1.blk.setFar (d := (w.heap.size + 1)) (by omega) 0 (.int .i64 s)).setFar (d := (w.heap.size + 1)) (by omega) 1 (.int .i64 n)).setFar (d := (w.heap.size + 1)) (by omega) 2 (.slice A4 q.length c4))⟩
  have z2 : EBox (((Wx.setCell ⟨(w.heap.size + 1), 0, none⟩ (.int .i64 s)).setCell ⟨(w.heap.size + 1), 1, none⟩ (.int .i64 n)).setCell ⟨(w.heap.size + 1), 2, none⟩ (.slice A4 q.length c4)) eb2 s n A4 q.length c4 := ⟨(((hE2.blk.setFar (d := (w.heap.size + 1)) (by omega) 0 (.int .i64 s)).setFar (d := (w.heap.size + 1)) (by omega) 1 (.int .i64 n)).setFar (d := (w.heap.size + 1)) (by omega) 2 (.slice A4 q.length c4))⟩
  have bR2 : EBox (((Wx.setCell ⟨(w.heap.size + 1), 0, none⟩ (.int .i64 s)).setCell ⟨(w.heap.size + 1), 1, none⟩ (.int .i64 n)).setCell ⟨(w.heap.size + 1), 2, none⟩ (.slice A4 q.length c4)) (w.heap.size + 1) s n A4 q.length c4 := (((bR2.set0 s).set1 n).set2 A4 q.length c4)
  have bR1 := (show EBox (((Wx.setCell ⟨(w.heap.size + 1), 0, none⟩ (.int .i64 s)).setCell ⟨(w.heap.size + 1), 1, none⟩ (.int .i64 n)).setCell ⟨(w.heap.size + 1), 2, none⟩ (.slice A4 q.length c4)) _ _ _ _ _ _ from ⟨(((bR1.blk.setFar (d := (w.heap.size + 1)) (by omega) 0 (.int .i64 s)).setFar (d := (w.heap.size + 1)) (by omega) 1 (.int .i64 n)).setFar (d := (w.heap.size + 1)) (by omega) 2 (.slice A4 q.length c4))⟩)
  have hE1 := z1
  have hE2 := z2
  have hO1 := ownSet9 (ownSet9 (ownSet9 hO1 hn21 0 (.int .i64 s)) hn21 1 (.int .i64 n)) hn21 2 (.slice A4 q.length c4)
  have hO2 := ownSet9 (ownSet9 (ownSet9 hO2 hn22 0 (.int .i64 s)) hn22 1 (.int .i64 n)) hn22 2 (.slice A4 q.length c4)
  have hBB := ((hBB.setCell (p := ⟨(w.heap.size + 1), 0, none⟩) (Nat.le_succ _) (.int .i64 s)).setCell (p := ⟨(w.heap.size + 1), 1, none⟩) (Nat.le_succ _) (.int .i64 n)).setCell (p := ⟨(w.heap.size + 1), 2, none⟩) (Nat.le_succ _) (.slice A4 q.length c4)
  go_simp
  refine hK.out _ _ (by exact ⟨hE1.c0, hE1.c1, hE1.c2, hE2.c0, hE2.c1, hE2.c2⟩) (fun hHeld => ?_)
  clear hK K r0 r1 r2 f0 f1 f2 z1 z2
  (try simp only [Act.put, List.setIfInBounds_toArray, List.set_cons_zero, List.set_cons_succ])
  generalize (((Wx.setCell ⟨(w.heap.size + 1), 0, none⟩ (.int .i64 s)).setCell ⟨(w.heap.size + 1), 1, none⟩ (.int .i64 n)).setCell ⟨(w.heap.size + 1), 2, none⟩ (.slice A4 q.length c4)) = Wy at *
  refine wpAnyH_done (by kernel_rfl) ?_ _
  have r0 := bR1.c0
  have r1 := bR1.c1
  have r2 := bR1.c2
  have s0 := bR2.c0
  have s1 := bR2.c1
  have s2 := bR2.c2
  obtain ⟨_, _, e9, hl9, hm9, hB9, hp9, hq9⟩ := own_plain9 hO1
  cases e9
  obtain ⟨_, _, e8, hl8, hm8, hB8, hp8, hq8⟩ := own_plain9 hO2
  cases e8
  go_wp2
  refine bodyPost_ret (v := .tuple #[.agg #[.int .i64 a, .int .i64 m, .slice A3 p.length c3], .agg #[.int .i64 s, .int .i64 n, .slice A4 q.length c4]]) (by simp [results, Tryd.results25, go_sem, r0, r1, r2, s0, s1, s2]) rfl ?_
  exact ⟨a, m, A3, p, c3, s, n, A4, q, c4, rfl, hra, hrm, by omega, hl9, hm9, by unfold Pl; exact ⟨hp9, hq9⟩, hrb, hrn, by omega, hl8, hm8, by unfold Pl; exact ⟨hp8, hq8⟩, hB9, hB8, (by first | exact hBB | exact hBB.drew)⟩
end Go.Proofs.YtkplfbhblbinaaaDoor
