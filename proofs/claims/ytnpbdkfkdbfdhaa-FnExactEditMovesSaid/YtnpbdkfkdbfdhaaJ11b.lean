/-
  Chapter 6, an edit moved by a list: contract of the model. Own work.
-/
import Derived.Test.YtnpbdkfkdbfdhaaJ11
import Derived.Deep.RegionHeld3
import Derived.Deep.DeepCutAuto
namespace Go.Proofs.Ytnpbdkfkdbfdhaa
open Go.RowKit P
set_option linter.unusedVariables false
set_option linter.unusedSimpArgs false
set_option maxRecDepth 100000

theorem ownSet19 {w : World} {B b : Nat} {v : Value} {l : List UInt8} (h : Own w B v l) (hne : ∀ k ∈ v.ownBlock.toList, b ≠ k) (i : Nat) (u : Value) : Own (w.setCell ⟨b, i, none⟩ u) B v l :=
  h.heap (fun k hk => Below.heap_setCell _ _ _ _ (fun e => hne k hk (by simpa using e.symm)))
/-- Bytes of the call's own do not lie in the variable of an edit. -/
theorem own_ne_box {w : World} {B b : Nat} {v : Value} {l : List UInt8} {a m : Int} {A : Option Addr} {n c : Nat} (h : Own w B v l) (hX : EBox w b a m A n c) : ∀ k ∈ v.ownBlock.toList, b ≠ k := by
  intro k hk e
  subst e
  obtain ⟨h1, h2⟩ := h
  rcases h2 with ⟨rfl, _⟩ | ⟨g, cap, cur, rfl, hb, hh, _⟩
  · simp [Value.ownBlock] at hk
  · simp [Value.ownBlock] at hk
    subst hk
    have hx := hX.blk
    unfold Blk at hx
    rw [hx] at hh
    simp at hh

set_option maxHeartbeats 16000000 in
theorem specEditMoves_any (a m : Int) (A : Option Addr) (p : List UInt8) (c : Nat) (B : Option Addr) (es : List Ed) (d : Nat) (w : World) (hp9 : p.length ≤ 9223372036854775807) (hn9 : es.length ≤ 9223372036854775807) (hA : Bs w A p) (hE : Es w B es) :
    Calls Try.prog 14 #[.agg #[.int .i64 a, .int .i64 m, .slice A p.length c], .slice B es.length d] w (MakesEd (moves (a, m, p) es).1.1 (moves (a, m, p) es).1.2.1 (moves (a, m, p) es).1.2.2 (moves (a, m, p) es).2 w) := by
  have hal := ((Below.refl w.heap.size w).alloc (Nat.le_refl _) (.cells #[.int .i64 a, .int .i64 m, .slice A p.length c] 28)).alloc (by simp) (.cells #[.int .i64 0, .int .i64 0, .slice none 0 0] 28)
  have bE := (EBox.new w a m A p.length c).below ((Below.refl _ _).alloc (Nat.le_refl _) (.cells #[.int .i64 0, .int .i64 0, .slice none 0 0] 28))
  have bR := EBox.new (w.alloc (.cells #[.int .i64 a, .int .i64 m, .slice A p.length c] 28)) 0 0 none 0 0
  simp only [World.size_alloc] at bR
  obtain ⟨z, hz⟩ : ∃ z, edSmall a m p = z := ⟨_, rfl⟩
  obtain ⟨V, hV⟩ : ∃ V, moves (a, m, p) es = V := ⟨_, rfl⟩
  have hno : z = false → V = ((0, 0, []), false) := fun h => by
    rw [← hV]; unfold moves
    rw [if_neg (by show ¬ edSmall a m p = true; rw [hz, h]; simp)]
  have hyes : z = true → V = mvRun (a, m, p) es ∧ MvRun (a, m, p) es 0 (a, m, p) := fun h => by
    have h9 : edSmall a m p = true := hz.trans h
    refine ⟨?_, MvRun.start es h9⟩
    rw [← hV]; unfold moves
    rw [if_pos (by exact h9)]
  rw [hV]
  have HZ := Lib.hid hz
  have HNO := Lib.hid hno
  have HYES := Lib.hid hyes
  clear hz hV hno hyes
  go_enter Try.func14, Try.ntmps14
  go_wp2_with fail
  generalize (w.alloc (.cells #[.int .i64 a, .int .i64 m, .slice A p.length c] 28)).alloc (.cells #[.int .i64 0, .int .i64 0, .slice none 0 0] 28) = W1 at *
  refine (l05Small_any a m A p c _ hp9).mono ?_
  rintro e w2 ⟨rfl, hb2⟩
  rw [HZ.out]
  have bE := bE.below hb2
  have bR := bR.below hb2
  have hb2 := below_then hal hb2
  clear hal
  cases z
  · have r0 := bR.c0
    have r1 := bR.c1
    have r2 := bR.c2
    have f0 := bR.blk.frozen 0
    have f1 := bR.blk.frozen 1
    have f2 := bR.blk.frozen 2
    have hv := HNO.out rfl
    subst hv
    go_wp2
    refine bodyPost_ret (v := .tuple #[.agg #[.int .i64 0, .int .i64 0, .slice none 0 0], .bool false]) (by simp [results, Try.results14, go_sem, r0, r1, r2]) rfl ⟨.slice none 0 0, rfl, Own.nil _ _, ?_⟩
    (repeat (first | exact Below.refl _ _ | assumption | refine Below.setCell ?_ (by first | (simp; done) | (simp; omega) | omega) _ | refine Below.drew ?_ | refine below_drewN ?_ _ | refine Below.alloc ?_ (by first | (simp; done) | (simp; omega) | omega) _))
  obtain ⟨hv, hst⟩ := HYES.out (by trivial)
  have hp4 : p.length ≤ 400 := hst.l
  have HV := Lib.hid hv
  have HST := Lib.hid hst
  have hE2 := bE
  have hA2 := hA.below hb2
  have k0 := bE.c0
  have k1 := bE.c1
  have k2 := bE.c2
  have hltE := bE.lt
  have hltR := bR.lt
  clear hv hst HNO HYES
  go_upto_region 3 with fail
  go_cut [6] (fun t wx => ∃ (b : Nat) (A5 : Option Addr) (c5 : Nat), t = .pointer (some ⟨b, 0, none⟩) ∧ EBox wx b a m A5 p.length c5 ∧ Own wx (w.heap.size + 2) (.slice A5 p.length c5) p ∧ w2.heap.size ≤ b ∧ Below w2.heap.size w2 wx)
  case first =>
    have hB : Below w2.heap.size w2 w2.drew := (Below.refl w2.heap.size w2).drew
    have hE := hE2.below hB
    refine wp_region_noPanic ?_
    refine wp_region_held_drew (S := (fun V => V.cell? ⟨w.heap.size, 0, none⟩ = some (.int .i64 a) ∧ V.cell? ⟨w.heap.size, 1, none⟩ = some (.int .i64 m) ∧ V.cell? ⟨w.heap.size, 2, none⟩ = some (.slice A p.length c))) (by kernel_rfl) (by exact ⟨k0, k1, k2⟩) (fun hHeld => ?_)
    clear k0 k1 k2
    refine wpAnyH_take (i := 0) (oi := ?_) (v := ?_) ?_ ?_ ?_ ?_ ?_ ?_ (by exact hHeld) ?_
    rotate_left 2
    · (simp only [List.getElem?_toArray, List.getElem?_cons_zero]; try rfl)
    · kernel_rfl
    · kernel_rfl
    · kernel_rfl
    · exact fun _ _ _ h => h
    · refine Or.inl ⟨by rfl, ?_⟩
      (intro V hSV; (try dsimp only at hSV); obtain ⟨q0, q1, q2⟩ := hSV; go_simp; try with_reducible rfl)
    (try simp only [Act.put, List.setIfInBounds_toArray, List.set_cons_zero, List.set_cons_succ])
    refine wpAnyH_take (i := 1) (oi := ?_) (v := ?_) ?_ ?_ ?_ ?_ ?_ ?_ (by exact hHeld) ?_
    rotate_left 2
    · (simp only [List.getElem?_toArray, List.getElem?_cons_zero, List.getElem?_cons_succ]; try rfl)
    · kernel_rfl
    · kernel_rfl
    · kernel_rfl
    · exact fun _ _ _ h => h
    · refine Or.inl ⟨by rfl, ?_⟩
      (intro V hSV; (try dsimp only at hSV); obtain ⟨q0, q1, q2⟩ := hSV; go_simp; try with_reducible rfl)
    (try simp only [Act.put, List.setIfInBounds_toArray, List.set_cons_zero, List.set_cons_succ])
    refine wpAnyH_take (i := 2) (oi := ?_) (v := ?_) ?_ ?_ ?_ ?_ ?_ ?_ (by exact hHeld) ?_
    rotate_left 2
    · (simp only [List.getElem?_toArray, List.getElem?_cons_zero, List.getElem?_cons_succ]; try rfl)
    · kernel_rfl
    · kernel_rfl
    · kernel_rfl
    · exact fun _ _ _ h => h
    · refine Or.inl ⟨by rfl, ?_⟩
      (intro V hSV; (try dsimp only at hSV); obtain ⟨q0, q1, q2⟩ := hSV; go_simp; try with_reducible rfl)
    (try simp only [Act.put, List.setIfInBounds_toArray, List.set_cons_zero, List.set_cons_succ])
    refine wpAnyH_take (i := 3) (oi := ?_) (v := ?_) ?_ ?_ ?_ ?_ ?_ ?_ (by exact hHeld) ?_
    rotate_left 2
    · (simp only [List.getElem?_toArray, List.getElem?_cons_zero, List.getElem?_cons_succ]; try rfl)
    · kernel_rfl
    · kernel_rfl
    · kernel_rfl
    · exact fun _ _ _ h => h
    · refine Or.inl ⟨by rfl, ?_⟩
      (intro V hSV; (try dsimp only at hSV); obtain ⟨q0, q1, q2⟩ := hSV; go_simp; try with_reducible rfl)
    (try simp only [Act.put, List.setIfInBounds_toArray, List.set_cons_zero, List.set_cons_succ])
    refine wpAnyH_take (i := 5) (oi := ?_) (v := ?_) ?_ ?_ ?_ ?_ ?_ ?_ (by exact hHeld) ?_
    rotate_left 2
    · (simp only [List.getElem?_toArray, List.getElem?_cons_zero, List.getElem?_cons_succ]; try rfl)
    · kernel_rfl
    · kernel_rfl
    · kernel_rfl
    · exact fun _ _ _ h => h
    · refine Or.inl ⟨by rfl, ?_⟩
      (intro V hSV; (try dsimp only at hSV); obtain ⟨q0, q1, q2⟩ := hSV; go_simp; try with_reducible rfl)
    (try simp only [Act.put, List.setIfInBounds_toArray, List.set_cons_zero, List.set_cons_succ])
    refine wpAnyH_take (i := 6) (oi := ?_) (v := ?_) ?_ ?_ ?_ ?_ ?_ ?_ (by exact hHeld) ?_
    rotate_left 2
    · (simp only [List.getElem?_toArray, List.getElem?_cons_zero, List.getElem?_cons_succ]; try rfl)
    · kernel_rfl
    · kernel_rfl
    · kernel_rfl
    · exact fun _ _ _ h => h
    · refine Or.inl ⟨by rfl, ?_⟩
      (intro V hSV; (try dsimp only at hSV); obtain ⟨q0, q1, q2⟩ := hSV; go_simp; try with_reducible rfl)
    (try simp only [Act.put, List.setIfInBounds_toArray, List.set_cons_zero, List.set_cons_succ])
    refine wpAnyH_ready (rs := [4, 9]) (by kernel_rfl) (by simp) ?_
    refine AllReadyH.cons (o := ?_) ?_ (fun K hK => ?_) ?_
    rotate_left 1
    · (simp only [List.getElem?_toArray, List.getElem?_cons_zero, List.getElem?_cons_succ]; try rfl)
    · have hO : Own (w2.drew.alloc (.cells #[] 5)) w2.heap.size (.slice (some ⟨w2.heap.size, 0, none⟩) 0 0) [] := World.ownsRow_made w2.drew #[] 0 (Nat.le_refl _) (by unfold maxLen; omega) rfl
      have hzb := hB.size
      have hzw : w2.heap.size ≤ (w2.drew.alloc (.cells #[] 5)).heap.size := by simp
      have hB := hB.alloc (by first | exact hzb | simpa using hzb) (.cells #[] 5)
      have hE := hE2.below hB
      go_simp
      refine hK.out _ _ (by exact ⟨hE.c0, hE.c1, hE.c2⟩) (fun hHeld => ?_)
      clear hK K
      (try simp only [Act.put, List.setIfInBounds_toArray, List.set_cons_zero, List.set_cons_succ])
      have hzl : w2.heap.size ≤ w2.heap.size := by first | exact Nat.le_refl _ | omega
      have hO : Own ((w2.alloc (.cells #[] 5)).drew) w2.heap.size (.slice (some ⟨w2.heap.size, 0, none⟩) 0 0) [] := hO
      have hE : EBox ((w2.alloc (.cells #[] 5)).drew) w.heap.size a m A p.length c := hE
      have hB : Below w2.heap.size w2 ((w2.alloc (.cells #[] 5)).drew) := hB
      have hzw : w2.heap.size ≤ (((w2.alloc (.cells #[] 5)).drew)).heap.size := hzw
      generalize (w2.alloc (.cells #[] 5)).drew = y1 at *
      have hnbl : w2.heap.size < y1.heap.size := by have h9 := (World.ownsRow.lt hO w2.heap.size (by simp [Value.ownBlock])).2; exact h9
      refine wpAnyH_ready (rs := [7, 9]) (by kernel_rfl) (by simp) ?_
      refine AllReadyH.cons (o := ?_) ?_ (fun K hK => ?_) ?_
      rotate_left 1
      · (simp only [List.getElem?_toArray, List.getElem?_cons_zero, List.getElem?_cons_succ]; try rfl)
      · have hA' := hA2.below hB
        refine step_app_bytes9 rfl (.tmp 18) (.tmp 20) rfl w2.heap.size (.slice (some ⟨w2.heap.size, 0, none⟩) 0 0) [] p A p.length c rfl rfl rfl (by exact hO) (by exact hA') (by simp; omega) (by omega) ?_
        intro v7 v7w hown7 hg _
        have hg : y1.grownBy v7w (Value.slice (some ⟨w2.heap.size, 0, none⟩) 0 0).ownBlock := ⟨hg.os, hg.tape, hg.output, hg.size, hg.block⟩
        have hrg := World.ownsRow.lt hO
        have hB := hB.grown hg (by omega) (fun j hj => Nat.le_trans hzl (World.ownsRow.lt hO j hj).1)
        have hO7 : Own v7w (w2.heap.size) v7 p := hown7
        obtain ⟨A7, c7, rfl, _, _, _⟩ := hO7.form
        have hE := hE2.below hB
        have hzv := hg.size
        (try go_simp)
        refine hK.out _ _ (by exact ⟨hE.c0, hE.c1, hE.c2⟩) (fun hHeld => ?_)
        clear hK K
        (try simp only [Act.put, List.setIfInBounds_toArray, List.set_cons_zero, List.set_cons_succ])
        refine wpAnyH_take (i := 8) (oi := ?_) (v := ?_) ?_ ?_ ?_ ?_ ?_ ?_ (by exact hHeld) ?_
        rotate_left 2
        · (simp only [List.getElem?_toArray, List.getElem?_cons_zero, List.getElem?_cons_succ]; try rfl)
        · kernel_rfl
        · kernel_rfl
        · kernel_rfl
        · exact fun _ _ _ h => h
        · refine Or.inl ⟨by rfl, ?_⟩
          (intro V hSV; (try dsimp only at hSV); obtain ⟨q0, q1, q2⟩ := hSV; go_simp; try with_reducible rfl)
        (try simp only [Act.put, List.setIfInBounds_toArray, List.set_cons_zero, List.set_cons_succ])
        refine wpAnyH_ready (rs := [9]) (by kernel_rfl) (by simp) ?_
        refine AllReadyH.cons (o := ?_) ?_ (fun K hK => ?_) AllReadyH.nil
        rotate_left 1
        · (simp only [List.getElem?_toArray, List.getElem?_cons_zero, List.getElem?_cons_succ]; try rfl)
        have hB0 := hB
        have hX : EBox (v7w.alloc (.cells #[.int .i64 0, .int .i64 0, .slice none 0 0] 28)) v7w.heap.size 0 0 none 0 0 := EBox.new v7w 0 0 none 0 0
        have hzb := hB.size
        have hB := hB.alloc (by first | exact hzb | simpa using hzb) (.cells #[.int .i64 0, .int .i64 0, .slice none 0 0] 28)
        have hE := hE2.below hB
        have hxl : w2.heap.size ≤ v7w.heap.size := by first | exact Nat.le_refl _ | (have := hzb; omega)
        go_simp
        refine hK.out _ _ (by exact ⟨hE.c0, hE.c1, hE.c2⟩) (fun hHeld => ?_)
        clear hK K
        (try simp only [Act.put, List.setIfInBounds_toArray, List.set_cons_zero, List.set_cons_succ])
        have hX9 := EBox.new v7w a m A7 p.length c7
        have hB9 := hB0.alloc (by exact hB0.size) (.cells #[.int .i64 a, .int .i64 m, .slice A7 p.length c7] 28)
        have hE := hE2.below hB9
        have hO9 := hO7.below ((Below.refl _ _).alloc (Nat.le_refl _) (.cells #[.int .i64 a, .int .i64 m, .slice A7 p.length c7] 28))
        have hzz0 := hB0.size
        refine wpAnyH_ready (rs := [10]) (by kernel_rfl) (by simp) ?_
        refine AllReadyH.cons (o := ?_) ?_ (fun K hK => ?_) AllReadyH.nil
        rotate_left 1
        · (simp only [List.getElem?_toArray, List.getElem?_cons_zero, List.getElem?_cons_succ]; try rfl)
        go_simp
        refine hK.out _ _ (by exact ⟨hE.c0, hE.c1, hE.c2⟩) (fun hHeld => ?_)
        clear hK K
        (try simp only [Act.put, List.setIfInBounds_toArray, List.set_cons_zero, List.set_cons_succ])
        refine wpAnyH_done (by kernel_rfl) ?_ _
        refine NoPanic.normal ?_
        go_wp2_with fail
        go_meet
        exact ⟨v7w.heap.size, A7, c7, rfl, hX9, hO9.mono (by omega), by omega, hB9⟩
      refine AllReadyH.cons (o := ?_) ?_ (fun K hK => ?_) AllReadyH.nil
      rotate_left 1
      · (simp only [List.getElem?_toArray, List.getElem?_cons_zero, List.getElem?_cons_succ]; try rfl)
      have hX : EBox (y1.alloc (.cells #[.int .i64 0, .int .i64 0, .slice none 0 0] 28)) y1.heap.size 0 0 none 0 0 := EBox.new y1 0 0 none 0 0
      have hzb := hB.size
      have hB := hB.alloc (by first | exact hzb | simpa using hzb) (.cells #[.int .i64 0, .int .i64 0, .slice none 0 0] 28)
      have hE := hE2.below hB
      have hxl : w2.heap.size ≤ y1.heap.size := by first | exact Nat.le_refl _ | (have := hzb; omega)
      have hO := hO.below ((Below.refl _ _).alloc (Nat.le_refl _) (.cells #[.int .i64 0, .int .i64 0, .slice none 0 0] 28))
      have hne : w2.heap.size ≠ y1.heap.size := by have := hnbl; omega
      have hzw : w2.heap.size ≤ (y1.alloc (.cells #[.int .i64 0, .int .i64 0, .slice none 0 0] 28)).heap.size := by simp; omega
      go_simp
      refine hK.out _ _ (by exact ⟨hE.c0, hE.c1, hE.c2⟩) (fun hHeld => ?_)
      clear hK K
      (try simp only [Act.put, List.setIfInBounds_toArray, List.set_cons_zero, List.set_cons_succ])
      generalize y1.alloc (.cells #[.int .i64 0, .int .i64 0, .slice none 0 0] 28) = y2 at *
      refine wpAnyH_ready (rs := [7]) (by kernel_rfl) (by simp) ?_
      refine AllReadyH.cons (o := ?_) ?_ (fun K hK => ?_) AllReadyH.nil
      rotate_left 1
      · (simp only [List.getElem?_toArray, List.getElem?_cons_zero, List.getElem?_cons_succ]; try rfl)
      have hA' := hA2.below hB
      refine step_app_bytes9 rfl (.tmp 18) (.tmp 20) rfl w2.heap.size (.slice (some ⟨w2.heap.size, 0, none⟩) 0 0) [] p A p.length c rfl rfl rfl (by exact hO) (by exact hA') (by simp; omega) (by omega) ?_
      intro v7 v7w hown7 hg _
      have hg : y2.grownBy v7w (Value.slice (some ⟨w2.heap.size, 0, none⟩) 0 0).ownBlock := ⟨hg.os, hg.tape, hg.output, hg.size, hg.block⟩
      have hrg := World.ownsRow.lt hO
      have hB := hB.grown hg (by omega) (fun j hj => Nat.le_trans hzl (World.ownsRow.lt hO j hj).1)
      have hO7 : Own v7w (w2.heap.size) v7 p := hown7
      obtain ⟨A7, c7, rfl, _, _, _⟩ := hO7.form
      have hE := hE2.below hB
      have hzv := hg.size
      have hX := (show EBox v7w y1.heap.size 0 0 none 0 0 from ⟨hX.blk.of_block (hg.block _ hX.lt (fun e => by simp [Value.ownBlock] at e; omega))⟩)
      (try go_simp)
      refine hK.out _ _ (by exact ⟨hE.c0, hE.c1, hE.c2⟩) (fun hHeld => ?_)
      clear hK K
      (try simp only [Act.put, List.setIfInBounds_toArray, List.set_cons_zero, List.set_cons_succ])
      refine wpAnyH_take (i := 8) (oi := ?_) (v := ?_) ?_ ?_ ?_ ?_ ?_ ?_ (by exact hHeld) ?_
      rotate_left 2
      · (simp only [List.getElem?_toArray, List.getElem?_cons_zero, List.getElem?_cons_succ]; try rfl)
      · kernel_rfl
      · kernel_rfl
      · kernel_rfl
      · exact fun _ _ _ h => h
      · refine Or.inl ⟨by rfl, ?_⟩
        (intro V hSV; (try dsimp only at hSV); obtain ⟨q0, q1, q2⟩ := hSV; go_simp; try with_reducible rfl)
      (try simp only [Act.put, List.setIfInBounds_toArray, List.set_cons_zero, List.set_cons_succ])
      have r0 := hX.c0
      have r1 := hX.c1
      have r2 := hX.c2
      have f0 := hX.f 0
      have f1 := hX.f 1
      have f2 := hX.f 2
      have hE9 : EBox (((v7w.setCell ⟨y1.heap.size, 0, none⟩ (.int .i64 a)).setCell ⟨y1.heap.size, 1, none⟩ (.int .i64 m)).setCell ⟨y1.heap.size, 2, none⟩ (.slice A7 p.length c7)) w.heap.size a m A p.length c := ⟨((hE.blk.setFar (by omega) 0 _).setFar (by omega) 1 _).setFar (by omega) 2 _⟩
      have hX9 : EBox (((v7w.setCell ⟨y1.heap.size, 0, none⟩ (.int .i64 a)).setCell ⟨y1.heap.size, 1, none⟩ (.int .i64 m)).setCell ⟨y1.heap.size, 2, none⟩ (.slice A7 p.length c7)) y1.heap.size a m A7 p.length c7 := ((hX.set0 a).set1 m).set2 A7 p.length c7
      have hnk := own_ne_box hO7 hX
      have hO9 := ownSet19 (ownSet19 (ownSet19 hO7 hnk 0 (.int .i64 a)) hnk 1 (.int .i64 m)) hnk 2 (.slice A7 p.length c7)
      have hB9 := ((hB.setCell (p := ⟨y1.heap.size, 0, none⟩) hxl (.int .i64 a)).setCell (p := ⟨y1.heap.size, 1, none⟩) hxl (.int .i64 m)).setCell (p := ⟨y1.heap.size, 2, none⟩) hxl (.slice A7 p.length c7)
      refine wpAnyH_ready (rs := [10]) (by kernel_rfl) (by simp) ?_
      refine AllReadyH.cons (o := ?_) ?_ (fun K hK => ?_) AllReadyH.nil
      rotate_left 1
      · (simp only [List.getElem?_toArray, List.getElem?_cons_zero, List.getElem?_cons_succ]; try rfl)
      go_simp
      refine hK.out _ _ (by exact ⟨hE9.c0, hE9.c1, hE9.c2⟩) (fun hHeld => ?_)
      clear hK K
      (try simp only [Act.put, List.setIfInBounds_toArray, List.set_cons_zero, List.set_cons_succ])
      refine wpAnyH_done (by kernel_rfl) ?_ _
      refine NoPanic.normal ?_
      go_wp2_with fail
      go_meet
      exact ⟨y1.heap.size, A7, c7, rfl, hX9, hO9.mono (by omega), by omega, hB9⟩
    refine AllReadyH.cons (o := ?_) ?_ (fun K hK => ?_) AllReadyH.nil
    rotate_left 1
    · (simp only [List.getElem?_toArray, List.getElem?_cons_zero, List.getElem?_cons_succ]; try rfl)
    have hX : EBox (w2.drew.alloc (.cells #[.int .i64 0, .int .i64 0, .slice none 0 0] 28)) w2.heap.size 0 0 none 0 0 := EBox.new w2.drew 0 0 none 0 0
    have hzb := hB.size
    have hB := hB.alloc (by first | exact hzb | simpa using hzb) (.cells #[.int .i64 0, .int .i64 0, .slice none 0 0] 28)
    have hE := hE2.below hB
    have hxl : w2.heap.size ≤ w2.heap.size := by first | exact Nat.le_refl _ | (have := hzb; omega)
    go_simp
    refine hK.out _ _ (by exact ⟨hE.c0, hE.c1, hE.c2⟩) (fun hHeld => ?_)
    clear hK K
    (try simp only [Act.put, List.setIfInBounds_toArray, List.set_cons_zero, List.set_cons_succ])
    have hX : EBox ((w2.alloc (.cells #[.int .i64 0, .int .i64 0, .slice none 0 0] 28)).drew) w2.heap.size 0 0 none 0 0 := hX
    have hE : EBox ((w2.alloc (.cells #[.int .i64 0, .int .i64 0, .slice none 0 0] 28)).drew) w.heap.size a m A p.length c := hE
    have hB : Below w2.heap.size w2 ((w2.alloc (.cells #[.int .i64 0, .int .i64 0, .slice none 0 0] 28)).drew) := hB
    generalize (w2.alloc (.cells #[.int .i64 0, .int .i64 0, .slice none 0 0] 28)).drew = y1 at *
    have hxlt := hX.lt
    refine wpAnyH_ready (rs := [4]) (by kernel_rfl) (by simp) ?_
    refine AllReadyH.cons (o := ?_) ?_ (fun K hK => ?_) AllReadyH.nil
    rotate_left 1
    · (simp only [List.getElem?_toArray, List.getElem?_cons_zero, List.getElem?_cons_succ]; try rfl)
    have hO : Own (y1.alloc (.cells #[] 5)) y1.heap.size (.slice (some ⟨y1.heap.size, 0, none⟩) 0 0) [] := World.ownsRow_made y1 #[] 0 (Nat.le_refl _) (by unfold maxLen; omega) rfl
    have hzb := hB.size
    have hzw : y1.heap.size ≤ (y1.alloc (.cells #[] 5)).heap.size := by simp
    have hB := hB.alloc (by first | exact hzb | simpa using hzb) (.cells #[] 5)
    have hE := hE2.below hB
    have hX := hX.below ((Below.refl _ _).alloc (Nat.le_refl _) (.cells #[] 5))
    go_simp
    refine hK.out _ _ (by exact ⟨hE.c0, hE.c1, hE.c2⟩) (fun hHeld => ?_)
    clear hK K
    (try simp only [Act.put, List.setIfInBounds_toArray, List.set_cons_zero, List.set_cons_succ])
    have hzl : w2.heap.size ≤ y1.heap.size := by first | exact Nat.le_refl _ | omega
    generalize y1.alloc (.cells #[] 5) = y2 at *
    have hne : y1.heap.size ≠ w2.heap.size := by omega
    refine wpAnyH_ready (rs := [7]) (by kernel_rfl) (by simp) ?_
    refine AllReadyH.cons (o := ?_) ?_ (fun K hK => ?_) AllReadyH.nil
    rotate_left 1
    · (simp only [List.getElem?_toArray, List.getElem?_cons_zero, List.getElem?_cons_succ]; try rfl)
    have hA' := hA2.below hB
    refine step_app_bytes9 rfl (.tmp 18) (.tmp 20) rfl y1.heap.size (.slice (some ⟨y1.heap.size, 0, none⟩) 0 0) [] p A p.length c rfl rfl rfl (by exact hO) (by exact hA') (by simp; omega) (by omega) ?_
    intro v7 v7w hown7 hg _
    have hg : y2.grownBy v7w (Value.slice (some ⟨y1.heap.size, 0, none⟩) 0 0).ownBlock := ⟨hg.os, hg.tape, hg.output, hg.size, hg.block⟩
    have hrg := World.ownsRow.lt hO
    have hB := hB.grown hg (by omega) (fun j hj => Nat.le_trans hzl (World.ownsRow.lt hO j hj).1)
    have hO7 : Own v7w (y1.heap.size) v7 p := hown7
    obtain ⟨A7, c7, rfl, _, _, _⟩ := hO7.form
    have hE := hE2.below hB
    have hzv := hg.size
    have hX := (show EBox v7w w2.heap.size 0 0 none 0 0 from ⟨hX.blk.of_block (hg.block _ hX.lt (fun e => by simp [Value.ownBlock] at e; omega))⟩)
    (try go_simp)
    refine hK.out _ _ (by exact ⟨hE.c0, hE.c1, hE.c2⟩) (fun hHeld => ?_)
    clear hK K
    (try simp only [Act.put, List.setIfInBounds_toArray, List.set_cons_zero, List.set_cons_succ])
    refine wpAnyH_take (i := 8) (oi := ?_) (v := ?_) ?_ ?_ ?_ ?_ ?_ ?_ (by exact hHeld) ?_
    rotate_left 2
    · (simp only [List.getElem?_toArray, List.getElem?_cons_zero, List.getElem?_cons_succ]; try rfl)
    · kernel_rfl
    · kernel_rfl
    · kernel_rfl
    · exact fun _ _ _ h => h
    · refine Or.inl ⟨by rfl, ?_⟩
      (intro V hSV; (try dsimp only at hSV); obtain ⟨q0, q1, q2⟩ := hSV; go_simp; try with_reducible rfl)
    (try simp only [Act.put, List.setIfInBounds_toArray, List.set_cons_zero, List.set_cons_succ])
    have r0 := hX.c0
    have r1 := hX.c1
    have r2 := hX.c2
    have f0 := hX.f 0
    have f1 := hX.f 1
    have f2 := hX.f 2
    have hE9 : EBox (((v7w.setCell ⟨w2.heap.size, 0, none⟩ (.int .i64 a)).setCell ⟨w2.heap.size, 1, none⟩ (.int .i64 m)).setCell ⟨w2.heap.size, 2, none⟩ (.slice A7 p.length c7)) w.heap.size a m A p.length c := ⟨((hE.blk.setFar (by omega) 0 _).setFar (by omega) 1 _).setFar (by omega) 2 _⟩
    have hX9 : EBox (((v7w.setCell ⟨w2.heap.size, 0, none⟩ (.int .i64 a)).setCell ⟨w2.heap.size, 1, none⟩ (.int .i64 m)).setCell ⟨w2.heap.size, 2, none⟩ (.slice A7 p.length c7)) w2.heap.size a m A7 p.length c7 := ((hX.set0 a).set1 m).set2 A7 p.length c7
    have hnk := own_ne_box hO7 hX
    have hO9 := ownSet19 (ownSet19 (ownSet19 hO7 hnk 0 (.int .i64 a)) hnk 1 (.int .i64 m)) hnk 2 (.slice A7 p.length c7)
    have hB9 := ((hB.setCell (p := ⟨w2.heap.size, 0, none⟩) hxl (.int .i64 a)).setCell (p := ⟨w2.heap.size, 1, none⟩) hxl (.int .i64 m)).setCell (p := ⟨w2.heap.size, 2, none⟩) hxl (.slice A7 p.length c7)
    refine wpAnyH_ready (rs := [10]) (by kernel_rfl) (by simp) ?_
    refine AllReadyH.cons (o := ?_) ?_ (fun K hK => ?_) AllReadyH.nil
    rotate_left 1
    · (simp only [List.getElem?_toArray, List.getElem?_cons_zero, List.getElem?_cons_succ]; try rfl)
    go_simp
    refine hK.out _ _ (by exact ⟨hE9.c0, hE9.c1, hE9.c2⟩) (fun hHeld => ?_)
    clear hK K
    (try simp only [Act.put, List.setIfInBounds_toArray, List.set_cons_zero, List.set_cons_succ])
    refine wpAnyH_done (by kernel_rfl) ?_ _
    refine NoPanic.normal ?_
    go_wp2_with fail
    go_meet
    exact ⟨w2.heap.size, A7, c7, rfl, hX9, hO9.mono (by omega), by omega, hB9⟩
  case rest =>
    obtain ⟨xb, A4, c4, rfl, bX, hown4, hxl, hcb⟩ := hcut
    have bR4 := bR.below hcb
    have hwn : w.heap.size + 2 ≤ wc.heap.size := by have := hcb.size; omega
    have hb5 := below_then hb2 hcb
    have hxw : w.heap.size + 2 ≤ xb := by omega
    clear k0 k1 k2 hcb bR bE hE2
    go_upto_region 5 with fail
    go_loopw [7] (fun i wr => ∃ (k : Nat) (x y : Int) (q : List UInt8) (A' : Option Addr) (c' : Nat), i = .int .i64 k ∧ k ≤ es.length ∧ EBox wr xb x y A' q.length c' ∧ EBox wr (w.heap.size + 1) 0 0 none 0 0 ∧ Own wr (w.heap.size + 2) (.slice A' q.length c') q ∧ w.heap.size + 2 ≤ wr.heap.size ∧ Hid (MvRun (a, m, p) es k (x, y, q)) ∧ Below w.heap.size w wr) (fun i _ => es.length - (intOf i).toNat)
    case atStart => exact ⟨0, a, m, p, A4, c4, rfl, Nat.zero_le _, bX, bR4, hown4, hwn, HST, hb5⟩
    case round =>
      obtain ⟨k, x, y, q, A', c', rfl, hk, bX, bR, hown, hwn, HR, hb⟩ := hrel
      by_cases hlt' : k < es.length
      · obtain ⟨bb, off, b, n, Bp, s, ds, rfl, hbl, hek, k0, k1, k2, hbr, hnr, hsd, hsm, hBs⟩ := (hE.below hb).at_ k hlt'
        have hs9 : s.length ≤ 9223372036854775807 := by unfold maxLen at hsm; omega
        have hq4 : q.length ≤ 400 := HR.out.l
        have hq9 : q.length ≤ 9223372036854775807 := by omega
        obtain ⟨ok, hok⟩ : ∃ z, moveOk x y q b n s = z := ⟨_, rfl⟩
        obtain ⟨ra, hra⟩ : ∃ z, moveA x y q b n s = z := ⟨_, rfl⟩
        obtain ⟨rm, hrm⟩ : ∃ z, moveM x y q b n s = z := ⟨_, rfl⟩
        obtain ⟨R, hR⟩ : ∃ z, moveP x y q b n s = z := ⟨_, rfl⟩
        have HOK := Lib.hid hok
        have HRA := Lib.hid hra
        have HRM := Lib.hid hrm
        have HRP := Lib.hid hR
        have HEK := Lib.hid hek
        have HX := Lib.hid bX.blk
        have HQ := Lib.hid (own_bs9 hown)
        have x0 := bX.c0
        have x1 := bX.c1
        have x2 := bX.c2
        have hki : (k : Int) < (es.length : Int) := by omega
        clear hok hra hrm hR hek
        go_upto_region 7 with fail
        go_cut [8, 9] from 23 to 41 (fun t ok' wx => ∃ (b : Nat) (A5 : Option Addr) (c5 : Nat), t = .pointer (some ⟨b, 0, none⟩) ∧ ok' = .bool ok ∧ Blk wx b #[.int .i64 ra, .int .i64 rm, .slice A5 R.length c5] 28 ∧ Own wx wr.heap.size (.slice A5 R.length c5) R ∧ wr.heap.size ≤ b ∧ Below wr.heap.size wr wx)
        case first =>
          have fH0 : Hid (Below wr.heap.size wr wr.drew) := Lib.hid (Below.refl wr.heap.size wr).drew
          have fz0 : wr.drew.heap.size = wr.heap.size := World.size_drew wr
          refine wp_region_noPanic ?_
          refine wp_region_held_drew (S := (fun V => V.cell? ⟨xb, 0, none⟩ = some (.int .i64 x) ∧ V.cell? ⟨xb, 1, none⟩ = some (.int .i64 y) ∧ V.cell? ⟨xb, 2, none⟩ = some (.slice A' q.length c') ∧ V.cell? ⟨bb, off + k * 3, none⟩ = some (.int .i64 b) ∧ V.cell? ⟨bb, off + k * 3 + 1, none⟩ = some (.int .i64 n) ∧ V.cell? ⟨bb, off + k * 3 + 2, none⟩ = some (.slice Bp s.length ds))) (by kernel_rfl) (by exact ⟨x0, x1, x2, k0, k1, k2⟩) (fun hHeld => ?_)
          refine wpAnyH_take (i := 0) (oi := ?_) (v := ?_) ?_ ?_ ?_ ?_ ?_ ?_ (by exact hHeld) ?_
          rotate_left 2
          · (simp only [List.getElem?_toArray, List.getElem?_cons_zero]; try rfl)
          · kernel_rfl
          · kernel_rfl
          · kernel_rfl
          · exact fun _ _ _ h => h
          · refine Or.inl ⟨by rfl, ?_⟩
            (intro V hSV; (try dsimp only at hSV); obtain ⟨q0, q1, q2, q3, q4, q5⟩ := hSV; go_simp; try with_reducible rfl)
          (try simp only [Act.put, List.setIfInBounds_toArray, List.set_cons_zero, List.set_cons_succ])
          refine wpAnyH_take (i := 1) (oi := ?_) (v := ?_) ?_ ?_ ?_ ?_ ?_ ?_ (by exact hHeld) ?_
          rotate_left 2
          · (simp only [List.getElem?_toArray, List.getElem?_cons_zero, List.getElem?_cons_succ]; try rfl)
          · kernel_rfl
          · kernel_rfl
          · kernel_rfl
          · exact fun _ _ _ h => h
          · refine Or.inl ⟨by rfl, ?_⟩
            (intro V hSV; (try dsimp only at hSV); obtain ⟨q0, q1, q2, q3, q4, q5⟩ := hSV; go_simp; try with_reducible rfl)
          (try simp only [Act.put, List.setIfInBounds_toArray, List.set_cons_zero, List.set_cons_succ])
          refine wpAnyH_take (i := 2) (oi := ?_) (v := ?_) ?_ ?_ ?_ ?_ ?_ ?_ (by exact hHeld) ?_
          rotate_left 2
          · (simp only [List.getElem?_toArray, List.getElem?_cons_zero, List.getElem?_cons_succ]; try rfl)
          · kernel_rfl
          · kernel_rfl
          · kernel_rfl
          · exact fun _ _ _ h => h
          · refine Or.inl ⟨by rfl, ?_⟩
            (intro V hSV; (try dsimp only at hSV); obtain ⟨q0, q1, q2, q3, q4, q5⟩ := hSV; go_simp; try with_reducible rfl)
          (try simp only [Act.put, List.setIfInBounds_toArray, List.set_cons_zero, List.set_cons_succ])
          refine wpAnyH_take (i := 3) (oi := ?_) (v := ?_) ?_ ?_ ?_ ?_ ?_ ?_ (by exact hHeld) ?_
          rotate_left 2
          · (simp only [List.getElem?_toArray, List.getElem?_cons_zero, List.getElem?_cons_succ]; try rfl)
          · kernel_rfl
          · kernel_rfl
          · kernel_rfl
          · exact fun _ _ _ h => h
          · refine Or.inl ⟨by rfl, ?_⟩
            (intro V hSV; (try dsimp only at hSV); obtain ⟨q0, q1, q2, q3, q4, q5⟩ := hSV; go_simp; try with_reducible rfl)
          (try simp only [Act.put, List.setIfInBounds_toArray, List.set_cons_zero, List.set_cons_succ])
          refine wpAnyH_take (i := 4) (oi := ?_) (v := ?_) ?_ ?_ ?_ ?_ ?_ ?_ (by exact hHeld) ?_
          rotate_left 2
          · (simp only [List.getElem?_toArray, List.getElem?_cons_zero, List.getElem?_cons_succ]; try rfl)
          · kernel_rfl
          · kernel_rfl
          · kernel_rfl
          · exact fun _ _ _ h => h
          · refine Or.inl ⟨by rfl, ?_⟩
            (intro V hSV; (try dsimp only at hSV); obtain ⟨q0, q1, q2, q3, q4, q5⟩ := hSV; go_simp; try with_reducible rfl)
          (try simp only [Act.put, List.setIfInBounds_toArray, List.set_cons_zero, List.set_cons_succ])
          refine wpAnyH_ready (rs := [5, 9]) (by kernel_rfl) (by simp) ?_
          refine AllReadyH.cons (o := ?_) ?_ (fun K hK => ?_) ?_
          rotate_left 1
          · (simp only [List.getElem?_toArray, List.getElem?_cons_zero, List.getElem?_cons_succ]; try rfl)
          · go_simp
            refine (specEditMove_any x y A' q c' b n Bp s ds _ hq9 hs9 (by have h9 := HQ.out.below fH0.out; exact h9)).mono ?_
            rintro e fy1 ⟨v, rfl, hown9, hb⟩
            rw [HOK.out, HRA.out, HRM.out]
            rw [HRP.out] at hown9
            obtain ⟨A6, c6, rfl, _, _, _⟩ := hown9.form
            have zq9 := (fH0.out).size
            have OO := Lib.hid (hown9.mono (base' := wr.heap.size) (by first | exact zq9 | omega))
            have OR := Lib.hid hown9.range
            clear hown9
            have zY1 := fH0.out.size
            have fH1 := Lib.hid (below_then fH0.out hb)
            clear hb
            go_wp2_with fail
            refine hK.out _ _ (by exact ⟨(HX.out.below fH1.out).cell 0, (HX.out.below fH1.out).cell 1, (HX.out.below fH1.out).cell 2, ((fH1.out).cell (p := ⟨bb, off + k * 3, none⟩) hbl).trans k0, ((fH1.out).cell (p := ⟨bb, off + k * 3 + 1, none⟩) hbl).trans k1, ((fH1.out).cell (p := ⟨bb, off + k * 3 + 2, none⟩) hbl).trans k2⟩) (fun hHeld => ?_)
            clear hK K
            (try simp only [Act.put, List.setIfInBounds_toArray, List.set_cons_zero, List.set_cons_succ])
            refine wpAnyH_take (i := 6) (oi := ?_) (v := ?_) ?_ ?_ ?_ ?_ ?_ ?_ (by exact hHeld) ?_
            rotate_left 2
            · (simp only [List.getElem?_toArray, List.getElem?_cons_zero, List.getElem?_cons_succ]; try rfl)
            · kernel_rfl
            · kernel_rfl
            · kernel_rfl
            · exact fun _ _ _ h => h
            · refine Or.inl ⟨by rfl, ?_⟩
              (intro V hSV; (try dsimp only at hSV); obtain ⟨q0, q1, q2, q3, q4, q5⟩ := hSV; go_simp; try with_reducible rfl)
            (try simp only [Act.put, List.setIfInBounds_toArray, List.set_cons_zero, List.set_cons_succ])
            refine wpAnyH_take (i := 7) (oi := ?_) (v := ?_) ?_ ?_ ?_ ?_ ?_ ?_ (by exact hHeld) ?_
            rotate_left 2
            · (simp only [List.getElem?_toArray, List.getElem?_cons_zero, List.getElem?_cons_succ]; try rfl)
            · kernel_rfl
            · kernel_rfl
            · kernel_rfl
            · exact fun _ _ _ h => h
            · refine Or.inl ⟨by rfl, ?_⟩
              (intro V hSV; (try dsimp only at hSV); obtain ⟨q0, q1, q2, q3, q4, q5⟩ := hSV; go_simp; try with_reducible rfl)
            (try simp only [Act.put, List.setIfInBounds_toArray, List.set_cons_zero, List.set_cons_succ])
            refine wpAnyH_take (i := 8) (oi := ?_) (v := ?_) ?_ ?_ ?_ ?_ ?_ ?_ (by exact hHeld) ?_
            rotate_left 2
            · (simp only [List.getElem?_toArray, List.getElem?_cons_zero, List.getElem?_cons_succ]; try rfl)
            · kernel_rfl
            · kernel_rfl
            · kernel_rfl
            · exact fun _ _ _ h => h
            · refine Or.inl ⟨by rfl, ?_⟩
              (intro V hSV; (try dsimp only at hSV); obtain ⟨q0, q1, q2, q3, q4, q5⟩ := hSV; go_simp; try with_reducible rfl)
            (try simp only [Act.put, List.setIfInBounds_toArray, List.set_cons_zero, List.set_cons_succ])
            refine wpAnyH_ready (rs := [9]) (by kernel_rfl) (by simp) ?_
            refine AllReadyH.cons (o := ?_) ?_ (fun K hK => ?_) AllReadyH.nil
            rotate_left 1
            · (simp only [List.getElem?_toArray, List.getElem?_cons_zero, List.getElem?_cons_succ]; try rfl)
            have zA := fH1.out.size
            have fH2 := Lib.hid (fH1.out.alloc fH1.out.size (.cells #[.int .i64 0, .int .i64 0, .slice none 0 0] 28))
            go_simp
            refine hK.out _ _ (by exact ⟨(HX.out.below fH2.out).cell 0, (HX.out.below fH2.out).cell 1, (HX.out.below fH2.out).cell 2, ((fH2.out).cell (p := ⟨bb, off + k * 3, none⟩) hbl).trans k0, ((fH2.out).cell (p := ⟨bb, off + k * 3 + 1, none⟩) hbl).trans k1, ((fH2.out).cell (p := ⟨bb, off + k * 3 + 2, none⟩) hbl).trans k2⟩) (fun hHeld => ?_)
            clear hK K
            (try simp only [Act.put, List.setIfInBounds_toArray, List.set_cons_zero, List.set_cons_succ])
            refine wpAnyH_ready (rs := [10]) (by kernel_rfl) (by simp) ?_
            refine AllReadyH.cons (o := ?_) ?_ (fun K hK => ?_) AllReadyH.nil
            rotate_left 1
            · (simp only [List.getElem?_toArray, List.getElem?_cons_zero, List.getElem?_cons_succ]; try rfl)
            have HF := Lib.hid (fH1.out.alloc fH1.out.size (.cells #[.int .i64 ra, .int .i64 rm, .slice A6 R.length c6] 28))
            go_simp
            refine hK.out _ _ (by exact ⟨(HX.out.below HF.out).cell 0, (HX.out.below HF.out).cell 1, (HX.out.below HF.out).cell 2, ((HF.out).cell (p := ⟨bb, off + k * 3, none⟩) hbl).trans k0, ((HF.out).cell (p := ⟨bb, off + k * 3 + 1, none⟩) hbl).trans k1, ((HF.out).cell (p := ⟨bb, off + k * 3 + 2, none⟩) hbl).trans k2⟩) (fun hHeld => ?_)
            clear hK K
            (try simp only [Act.put, List.setIfInBounds_toArray, List.set_cons_zero, List.set_cons_succ])
            refine wpAnyH_take (i := 11) (oi := ?_) (v := ?_) ?_ ?_ ?_ ?_ ?_ ?_ (by exact hHeld) ?_
            rotate_left 2
            · (simp only [List.getElem?_toArray, List.getElem?_cons_zero, List.getElem?_cons_succ]; try rfl)
            · kernel_rfl
            · kernel_rfl
            · kernel_rfl
            · exact fun _ _ _ h => h
            · refine Or.inl ⟨by rfl, ?_⟩
              (intro V hSV; (try dsimp only at hSV); obtain ⟨q0, q1, q2, q3, q4, q5⟩ := hSV; go_simp; try with_reducible rfl)
            (try simp only [Act.put, List.setIfInBounds_toArray, List.set_cons_zero, List.set_cons_succ])
            refine wpAnyH_done (by kernel_rfl) ?_ _
            refine NoPanic.normal ?_
            go_wp2_with fail
            go_meet
            have BF := Lib.hid (Blk.new fy1 #[.int .i64 ra, .int .i64 rm, .slice A6 R.length c6] 28)
            have zF := fH1.out.size
            have hn9 := OO.out.below ((Below.refl _ _).alloc (Nat.le_refl _) (.cells #[.int .i64 ra, .int .i64 rm, .slice A6 R.length c6] 28))
            exact ⟨fy1.heap.size, A6, c6, rfl, rfl, BF.out, hn9, by omega, HF.out⟩
          refine AllReadyH.cons (o := ?_) ?_ (fun K hK => ?_) AllReadyH.nil
          rotate_left 1
          · (simp only [List.getElem?_toArray, List.getElem?_cons_zero, List.getElem?_cons_succ]; try rfl)
          have zA := fH0.out.size
          have fH1 := Lib.hid (fH0.out.alloc fH0.out.size (.cells #[.int .i64 0, .int .i64 0, .slice none 0 0] 28))
          have BX := Lib.hid (Blk.new (wr.drew) #[.int .i64 0, .int .i64 0, .slice none 0 0] 28)
          have BX := Lib.hid (show Blk (wr.drew.alloc (.cells #[.int .i64 0, .int .i64 0, .slice none 0 0] 28)) wr.heap.size #[.int .i64 0, .int .i64 0, .slice none 0 0] 28 from by have h9 := BX.out; rw [World.size_drew] at h9; exact h9)
          go_simp
          refine hK.out _ _ (by exact ⟨(HX.out.below fH1.out).cell 0, (HX.out.below fH1.out).cell 1, (HX.out.below fH1.out).cell 2, ((fH1.out).cell (p := ⟨bb, off + k * 3, none⟩) hbl).trans k0, ((fH1.out).cell (p := ⟨bb, off + k * 3 + 1, none⟩) hbl).trans k1, ((fH1.out).cell (p := ⟨bb, off + k * 3 + 2, none⟩) hbl).trans k2⟩) (fun hHeld => ?_)
          clear hK K
          (try simp only [Act.put, List.setIfInBounds_toArray, List.set_cons_zero, List.set_cons_succ])
          refine wpAnyH_ready (rs := [5]) (by kernel_rfl) (by simp) ?_
          refine AllReadyH.cons (o := ?_) ?_ (fun K hK => ?_) AllReadyH.nil
          rotate_left 1
          · (simp only [List.getElem?_toArray, List.getElem?_cons_zero, List.getElem?_cons_succ]; try rfl)
          go_simp
          refine (specEditMove_any x y A' q c' b n Bp s ds _ hq9 hs9 (by have h9 := HQ.out.below fH1.out; exact h9)).mono ?_
          rintro e fy1 ⟨v, rfl, hown9, hb⟩
          rw [HOK.out, HRA.out, HRM.out]
          rw [HRP.out] at hown9
          obtain ⟨A6, c6, rfl, _, _, _⟩ := hown9.form
          have zq9 := (fH1.out).size
          have OO := Lib.hid (hown9.mono (base' := wr.heap.size) (by first | exact zq9 | omega))
          have OR := Lib.hid hown9.range
          clear hown9
          have zY2 := fH1.out.size
          have fH2 := Lib.hid (below_then fH1.out hb)
          have BX := Lib.hid (BX.out.below hb)
          clear hb
          go_wp2_with fail
          refine hK.out _ _ (by exact ⟨(HX.out.below fH2.out).cell 0, (HX.out.below fH2.out).cell 1, (HX.out.below fH2.out).cell 2, ((fH2.out).cell (p := ⟨bb, off + k * 3, none⟩) hbl).trans k0, ((fH2.out).cell (p := ⟨bb, off + k * 3 + 1, none⟩) hbl).trans k1, ((fH2.out).cell (p := ⟨bb, off + k * 3 + 2, none⟩) hbl).trans k2⟩) (fun hHeld => ?_)
          clear hK K
          (try simp only [Act.put, List.setIfInBounds_toArray, List.set_cons_zero, List.set_cons_succ])
          refine wpAnyH_take (i := 6) (oi := ?_) (v := ?_) ?_ ?_ ?_ ?_ ?_ ?_ (by exact hHeld) ?_
          rotate_left 2
          · (simp only [List.getElem?_toArray, List.getElem?_cons_zero, List.getElem?_cons_succ]; try rfl)
          · kernel_rfl
          · kernel_rfl
          · kernel_rfl
          · exact fun _ _ _ h => h
          · refine Or.inl ⟨by rfl, ?_⟩
            (intro V hSV; (try dsimp only at hSV); obtain ⟨q0, q1, q2, q3, q4, q5⟩ := hSV; go_simp; try with_reducible rfl)
          (try simp only [Act.put, List.setIfInBounds_toArray, List.set_cons_zero, List.set_cons_succ])
          refine wpAnyH_take (i := 7) (oi := ?_) (v := ?_) ?_ ?_ ?_ ?_ ?_ ?_ (by exact hHeld) ?_
          rotate_left 2
          · (simp only [List.getElem?_toArray, List.getElem?_cons_zero, List.getElem?_cons_succ]; try rfl)
          · kernel_rfl
          · kernel_rfl
          · kernel_rfl
          · exact fun _ _ _ h => h
          · refine Or.inl ⟨by rfl, ?_⟩
            (intro V hSV; (try dsimp only at hSV); obtain ⟨q0, q1, q2, q3, q4, q5⟩ := hSV; go_simp; try with_reducible rfl)
          (try simp only [Act.put, List.setIfInBounds_toArray, List.set_cons_zero, List.set_cons_succ])
          refine wpAnyH_take (i := 8) (oi := ?_) (v := ?_) ?_ ?_ ?_ ?_ ?_ ?_ (by exact hHeld) ?_
          rotate_left 2
          · (simp only [List.getElem?_toArray, List.getElem?_cons_zero, List.getElem?_cons_succ]; try rfl)
          · kernel_rfl
          · kernel_rfl
          · kernel_rfl
          · exact fun _ _ _ h => h
          · refine Or.inl ⟨by rfl, ?_⟩
            (intro V hSV; (try dsimp only at hSV); obtain ⟨q0, q1, q2, q3, q4, q5⟩ := hSV; go_simp; try with_reducible rfl)
          (try simp only [Act.put, List.setIfInBounds_toArray, List.set_cons_zero, List.set_cons_succ])
          have zB := BX.out.lt
          have nb0 := HX.out.lt
          have g0 := BX.out.cell 0
          have f0 := BX.out.frozen 0
          have g1 := BX.out.cell 1
          have f1 := BX.out.frozen 1
          have g2 := BX.out.cell 2
          have f2 := BX.out.frozen 2
          have zz9 : wr.heap.size ≤ wr.heap.size := by first | exact Nat.le_refl _ | omega
          have BF : Hid (Blk ((((fy1.setCell ⟨wr.heap.size, 0, none⟩ (.int .i64 ra)).setCell ⟨wr.heap.size, 1, none⟩ (.int .i64 rm)).setCell ⟨wr.heap.size, 2, none⟩ (.slice A6 R.length c6))) wr.heap.size #[.int .i64 ra, .int .i64 rm, .slice A6 R.length c6] 28) := Lib.hid (by simpa using (((BX.out.set 0 (.int .i64 ra)).set 1 (.int .i64 rm)).set 2 (.slice A6 R.length c6)))
          have HF : Hid (Below wr.heap.size wr ((((fy1.setCell ⟨wr.heap.size, 0, none⟩ (.int .i64 ra)).setCell ⟨wr.heap.size, 1, none⟩ (.int .i64 rm)).setCell ⟨wr.heap.size, 2, none⟩ (.slice A6 R.length c6)))) := Lib.hid (((fH2.out.setCell (p := ⟨wr.heap.size, 0, none⟩) (by omega) (.int .i64 ra)).setCell (p := ⟨wr.heap.size, 1, none⟩) (by omega) (.int .i64 rm)).setCell (p := ⟨wr.heap.size, 2, none⟩) (by omega) (.slice A6 R.length c6))
          refine wpAnyH_ready (rs := [10]) (by kernel_rfl) (by simp) ?_
          refine AllReadyH.cons (o := ?_) ?_ (fun K hK => ?_) AllReadyH.nil
          rotate_left 1
          · (simp only [List.getElem?_toArray, List.getElem?_cons_zero, List.getElem?_cons_succ]; try rfl)
          go_simp
          refine hK.out _ _ (by exact ⟨(HX.out.below HF.out).cell 0, (HX.out.below HF.out).cell 1, (HX.out.below HF.out).cell 2, ((HF.out).cell (p := ⟨bb, off + k * 3, none⟩) hbl).trans k0, ((HF.out).cell (p := ⟨bb, off + k * 3 + 1, none⟩) hbl).trans k1, ((HF.out).cell (p := ⟨bb, off + k * 3 + 2, none⟩) hbl).trans k2⟩) (fun hHeld => ?_)
          clear hK K
          (try simp only [Act.put, List.setIfInBounds_toArray, List.set_cons_zero, List.set_cons_succ])
          refine wpAnyH_take (i := 11) (oi := ?_) (v := ?_) ?_ ?_ ?_ ?_ ?_ ?_ (by exact hHeld) ?_
          rotate_left 2
          · (simp only [List.getElem?_toArray, List.getElem?_cons_zero, List.getElem?_cons_succ]; try rfl)
          · kernel_rfl
          · kernel_rfl
          · kernel_rfl
          · exact fun _ _ _ h => h
          · refine Or.inl ⟨by rfl, ?_⟩
            (intro V hSV; (try dsimp only at hSV); obtain ⟨q0, q1, q2, q3, q4, q5⟩ := hSV; go_simp; try with_reducible rfl)
          (try simp only [Act.put, List.setIfInBounds_toArray, List.set_cons_zero, List.set_cons_succ])
          refine wpAnyH_done (by kernel_rfl) ?_ _
          refine NoPanic.normal ?_
          go_wp2_with fail
          go_meet
          have hn9 : ∀ k ∈ (Value.slice A6 R.length c6).ownBlock.toList, wr.heap.size ≠ k := fun k hk => by have h1 := OR.out k hk; have h2 := zB; first | omega | (simp at h1; omega)
          exact ⟨wr.heap.size, A6, c6, rfl, rfl, BF.out, ownSet19 (ownSet19 (ownSet19 (OO.out) hn9 0 (.int .i64 ra)) hn9 1 (.int .i64 rm)) hn9 2 (.slice A6 R.length c6), by omega, HF.out⟩
        case rest =>
          obtain ⟨nb, A6, c6, rfl, rfl, hM, hown6, hnb, hb7⟩ := hcut
          have bM : EBox wc nb ra rm A6 R.length c6 := ⟨hM⟩
          have hxlt := bX.lt
          have bX := bX.below hb7
          have bR := bR.below hb7
          have hzz := hb7.size
          have hO6 := hown6.mono (base' := w.heap.size + 2) (by omega)
          have hb := below_then hb hb7
          have hltR2 := bR.lt
          have hwn9 : w.heap.size + 2 ≤ wc.heap.size := by omega
          clear x0 x1 x2 k0 k1 k2 hM hb7 hown hBs
          cases ok
          · have hst := HR.out.stop hlt' HEK.out HOK.out
            have hv := HV.out.trans hst
            have r0 := bR.c0
            have r1 := bR.c1
            have r2 := bR.c2
            have f0 := bR.blk.frozen 0
            have f1 := bR.blk.frozen 1
            have f2 := bR.blk.frozen 2
            clear hst
            subst hv
            go_wp2
            refine bodyPost_ret (v := .tuple #[.agg #[.int .i64 0, .int .i64 0, .slice none 0 0], .bool false]) (by simp [results, Try.results14, go_sem, r0, r1, r2]) rfl ⟨.slice none 0 0, rfl, Own.nil _ _, ?_⟩
            (repeat (first | exact Below.refl _ _ | assumption | refine Below.setCell ?_ (by first | (simp; done) | (simp; omega) | omega) _ | refine Below.drew ?_ | refine below_drewN ?_ _ | refine Below.alloc ?_ (by first | (simp; done) | (simp; omega) | omega) _))
          · have hst := HR.out.step hlt' HEK.out HOK.out
            rw [HRA.out, HRM.out, HRP.out] at hst
            have HS := Lib.hid hst
            have x0 := bM.c0
            have x1 := bM.c1
            have x2 := bM.c2
            have k0 := bX.c0
            have k1 := bX.c1
            have k2 := bX.c2
            have f0 := bX.blk.frozen 0
            have f1 := bX.blk.frozen 1
            have f2 := bX.blk.frozen 2
            have HE8 := Lib.hid bX
            have HR8 := Lib.hid bR
            have HO8 := Lib.hid hO6
            have HO9 := Lib.hid hown6
            have HB8 := Lib.hid hb
            have hxw0 : w.heap.size ≤ xb := by omega
            clear hst hO6 hown6 bX bR hb
            go_wp2_with fail
            have z1 : EBox (((wc.setCell ⟨xb, 0, none⟩ (.int .i64 ra)).setCell ⟨xb, 1, none⟩ (.int .i64 rm)).setCell ⟨xb, 2, none⟩ (.slice A6 R.length c6)) xb ra rm A6 R.length c6 := ⟨by simpa using ((HE8.out.blk.set 0 (.int .i64 ra)).set 1 (.int .i64 rm)).set 2 (.slice A6 R.length c6)⟩
            have z2 : EBox (((wc.setCell ⟨xb, 0, none⟩ (.int .i64 ra)).setCell ⟨xb, 1, none⟩ (.int .i64 rm)).setCell ⟨xb, 2, none⟩ (.slice A6 R.length c6)) (w.heap.size + 1) 0 0 none 0 0 := ⟨((HR8.out.blk.setFar9 (by omega) 0 _).setFar9 (by omega) 1 _).setFar9 (by omega) 2 _⟩
            have z3 : Own (((wc.setCell ⟨xb, 0, none⟩ (.int .i64 ra)).setCell ⟨xb, 1, none⟩ (.int .i64 rm)).setCell ⟨xb, 2, none⟩ (.slice A6 R.length c6)) (w.heap.size + 2) (.slice A6 R.length c6) R := (((HO9.out.setBelow (a := ⟨xb, 0, none⟩) (by simpa using hxlt) _).setBelow (a := ⟨xb, 1, none⟩) (by simpa using hxlt) _).setBelow (a := ⟨xb, 2, none⟩) (by simpa using hxlt) _).mono (by omega)
            have z4 : w.heap.size + 2 ≤ ((((wc.setCell ⟨xb, 0, none⟩ (.int .i64 ra)).setCell ⟨xb, 1, none⟩ (.int .i64 rm)).setCell ⟨xb, 2, none⟩ (.slice A6 R.length c6))).heap.size := by simp; omega
            have z5 := ((HB8.out.setCell (p := ⟨xb, 0, none⟩) hxw0 (.int .i64 ra)).setCell (p := ⟨xb, 1, none⟩) hxw0 (.int .i64 rm)).setCell (p := ⟨xb, 2, none⟩) hxw0 (.slice A6 R.length c6)
            go_roundw
            case rel => exact ⟨k + 1, ra, rm, R, A6, c6, by go_num, by omega, z1, z2, z3, z4, HS, z5⟩
            case measure => simp [intOf]; omega
      · have e : k = es.length := by omega
        have hst := HR.out.done e
        have hv := HV.out.trans hst
        have hE2 : ¬ (k : Int) < (es.length : Int) := by omega
        have x0 := bX.c0
        have x1 := bX.c1
        have x2 := bX.c2
        have r0 := bR.c0
        have r1 := bR.c1
        have r2 := bR.c2
        have f0 := bR.blk.frozen 0
        have f1 := bR.blk.frozen 1
        have f2 := bR.blk.frozen 2
        have hltR2 := bR.lt
        have HO8 := Lib.hid hown
        clear hown hst e
        subst hv
        go_wp2
        refine bodyPost_ret (v := .tuple #[.agg #[.int .i64 x, .int .i64 y, .slice A' q.length c'], .bool true]) (by simp [results, Try.results14, go_sem, r0, r1, r2]) rfl ⟨.slice A' q.length c', rfl, ?_, ?_⟩
        · have h9 : ∀ (W : World) (i : Nat) (u : Value), Own W (w.heap.size + 2) (.slice A' q.length c') q → Own (W.setCell ⟨w.heap.size + 1, i, none⟩ u) (w.heap.size + 2) (.slice A' q.length c') q := fun W i u h => h.setBelow (by simp) u
          exact (h9 _ _ _ (h9 _ _ _ (h9 _ _ _ HO8.out))).mono (by omega)
        · (repeat (first | exact Below.refl _ _ | assumption | refine Below.setCell ?_ (by first | (simp; done) | (simp; omega) | omega) _ | refine Below.drew ?_ | refine below_drewN ?_ _ | refine Below.alloc ?_ (by first | (simp; done) | (simp; omega) | omega) _))
end Go.Proofs.Ytnpbdkfkdbfdhaa
