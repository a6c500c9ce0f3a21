/-
  Chapter 5's draws: an edit of a text. Own work.
  Chapter 5's draws: an edit of a text, mostly one that fits. Own work.
  The draw of EditBack; sameEdit, bytesOf: contracts. Own work.
-/
import Derived.Test.YtkplfbhblbinaaaDoorCur9
import Derived.Test.YtkplfbhblbinaaaDoorEB
import Derived.Deep.RegionHeld3
import Derived.Deep.DeepCutAuto
import Derived.Test.YtkplfbhblbinaaaDoorS01
namespace Go.Proofs.YtkplfbhblbinaaaDoor
open Go.RowKit P
set_option linter.unusedVariables false
set_option linter.unusedSimpArgs false
set_option maxRecDepth 100000

/-- What a draw of an edit ends in. -/
def DrawsE (g N : Nat) (w : World) (e : Ending) (w' : World) : Prop :=
  ∃ a m v l, e = .returned (.agg #[.int .i64 a, .int .i64 m, v]) ∧ (-9223372036854775808 ≤ a ∧ a ≤ 9223372036854775807) ∧ (-9223372036854775808 ≤ m ∧ m ≤ 9223372036854775807) ∧ Own w' w.heap.size v l ∧ l.length ≤ 500 ∧ Cur w' g N ∧ Only g w w'

theorem wrap64_bd (x : Int) : -9223372036854775808 ≤ wrap64 x ∧ wrap64 x ≤ 9223372036854775807 := by
  rw [← IntWalk.i64_left, IntKind.wrap_i64]
  omega
/-- A block's cells are what they are, the cursor's block apart. -/
theorem EBox.only {g b : Nat} {w w' : World} {a m : Int} {A : Option Addr} {n c : Nat} (h : EBox w b a m A n c) (ho : Only g w w') (hb : b ≠ g) : EBox w' b a m A n c := ⟨h.blk.only ho hb⟩
theorem EBox.f (i : Nat) {w : World} {b : Nat} {a m : Int} {A : Option Addr} {n c : Nat} (h : EBox w b a m A n c) : w.frozen? ⟨b, i, none⟩ = false := h.blk.frozen i
theorem EBox.set1 {w : World} {b : Nat} {a m : Int} {A : Option Addr} {n c : Nat} (h : EBox w b a m A n c) (x : Int) : EBox (w.setCell ⟨b, 1, none⟩ (.int .i64 x)) b a x A n c := ⟨by simpa using h.blk.set 1 (.int .i64 x)⟩
theorem EBox.set0 {w : World} {b : Nat} {a m : Int} {A : Option Addr} {n c : Nat} (h : EBox w b a m A n c) (x : Int) : EBox (w.setCell ⟨b, 0, none⟩ (.int .i64 x)) b x m A n c := ⟨by simpa using h.blk.set 0 (.int .i64 x)⟩
theorem EBox.set2 {w : World} {b : Nat} {a m : Int} {A : Option Addr} {n c : Nat} (h : EBox w b a m A n c) (B : Option Addr) (k d : Nat) : EBox (w.setCell ⟨b, 2, none⟩ (.slice B k d)) b a m B k d := ⟨by simpa using h.blk.set 2 (.slice B k d)⟩

set_option maxHeartbeats 8000000 in
theorem edit_any (g N : Nat) (A : Option Addr) (l : List UInt8) (c : Nat) (w : World) (hN : N ≤ 20000) (hl : l.length ≤ c) (hc9 : c ≤ 9223372036854775807) (h : Cur w g N) (hA : Bs w A l) :
    Calls Tryd.prog 69 #[.pointer (some ⟨g, 0, none⟩), .slice A l.length c] w (DrawsE g (N + 60) w) := by
  have hglt := h.lt
  have hal := (Below.refl w.heap.size w).alloc (Nat.le_refl _) (.cells #[.int .i64 0, .int .i64 0, .slice none 0 0] 25)
  have bR := EBox.new w 0 0 none 0 0
  have hc0 := h.only_new hal
  have hA0 := hA.below hal
  have ho0 : Only g w _ := Only.of_below hal
  have hsW0 : w.heap.size + 1 ≤ (w.alloc (.cells #[.int .i64 0, .int .i64 0, .slice none 0 0] 25)).heap.size := by simp
  clear h hA
  go_enter Tryd.func69, Tryd.ntmps69
  go_wp2_with fail
  generalize w.alloc (.cells #[.int .i64 0, .int .i64 0, .slice none 0 0] 25) = W0 at *
  refine (specRopeOf_any A l c _ hl hc9 (by exact hA0)).mono ?_
  rintro e w1 ⟨v1, fp1, rfl, how1, hnd1, hfp1, hb1⟩
  have hlen := chunksOf_len l
  obtain ⟨L, hL⟩ : ∃ L, chunksOf l = L := ⟨_, rfl⟩
  rw [hL] at how1 hlen
  obtain ⟨z, hz⟩ : ∃ z, isText l = z := ⟨_, rfl⟩
  rw [hz]
  have hfar := far_of_own how1 (base := w.heap.size + 1) (fun k hk => by have := hfp1 k hk; omega)
  obtain ⟨A1, c1, rfl, hF1⟩ := hfar
  have bR := bR.below hb1
  have hc1 := hc0.only_new hb1
  have ho1 := ho0.trans (Only.of_below hb1)
  have hal1 := (Below.refl w1.heap.size w1).alloc (Nat.le_refl _) (.cells #[.slice A1 L.length c1] 84)
  have bV := Blk.new w1 #[.slice A1 L.length c1] 84
  have bR := bR.below hal1
  have hc1 := hc1.only_new hal1
  have ho1 := ho1.trans (Only.of_below hal1)
  have hF1 := hF1.below hal1
  have hzw1 : w.heap.size < w1.heap.size := by have := hb1.size; omega
  have kV := bV.cell 0
  have hL4 := hlen.1
  clear how1 hnd1 hfp1 hb1 hL hz hal hal1 hc0 hA0 ho0 hlen
  go_wp2_with fail
  generalize w1.alloc (.cells #[.slice A1 L.length c1] 84) = W1 at *
  refine (span_any g N (w.heap.size + 1) A1 L c1 _ (by omega) (by exact hc1) (by omega) (by exact hF1) hL4).mono ?_
  rintro e w2 ⟨x, y, rfl, hx, hy, hc2, ho2⟩
  have bR := bR.only ho2 (by omega)
  have bV := bV.only ho2 (by omega)
  have hF2 := hF1.only (by omega) ho2
  have ho2 := ho1.trans ho2
  clear hc1 hF1 ho1 kV
  obtain ⟨d, hd⟩ : ∃ d, wrap64 (y - x) = d := ⟨_, rfl⟩
  have hdb : -9223372036854775808 ≤ d ∧ d ≤ 9223372036854775807 := by rw [← hd]; exact wrap64_bd _
  have HD := Lib.hid hd
  have hal2 := (Below.refl w2.heap.size w2).alloc (Nat.le_refl _) (.cells #[.int .i64 x, .int .i64 d, .slice none 0 0] 25)
  have bE := EBox.new w2 x d none 0 0
  have bR := bR.below hal2
  have hz2 : w1.heap.size < w2.heap.size := bV.lt
  have bV := bV.below hal2
  have hc2 := hc2.only_new hal2
  have ho2 := ho2.trans (Only.of_below hal2)
  have hF2 := hF2.below hal2
  have e0 := bE.c0
  have e1 := bE.c1
  have e2 := bE.c2
  have f0 := bE.f 0
  have f1 := bE.f 1
  have f2 := bE.f 2
  clear hal2
  go_wp2_with fail
  generalize w2.alloc (.cells #[.int .i64 x, .int .i64 d, .slice none 0 0] 25) = W2 at *
  refine (once_any g (N + 20) 2 _ (by omega) (by omega) (by omega) (by exact hc2)).mono ?_
  rintro e w3 ⟨p, rfl, hc3, ho3⟩
  have bR := bR.only ho3 (by omega)
  have bV := bV.only ho3 (by omega)
  have bE := bE.only ho3 (by omega)
  have hF3 := hF2.only (by omega) ho3
  have ho3 := ho2.trans ho3
  clear hc2 hF2 ho2 e0 e1 e2 f0 f1 f2
  go_upto_if 27 with fail
  go_cut [27] (fun _ wx => ∃ m' : Int, EBox wx w2.heap.size x m' none 0 0 ∧ (-9223372036854775808 ≤ m' ∧ m' ≤ 9223372036854775807) ∧ EBox wx w.heap.size 0 0 none 0 0 ∧ Cur wx g (N + 35) ∧ Only g w wx)
  case first =>
    have e1 := bE.c1
    have f1 := bE.f 1
    cases p
    · by_cases h6 : 6 < d
      · have kV := bV.cell 0
        go_wp2_with fail
        refine (once_any g (N + 20 + 1) 2 _ (by omega) (by omega) (by omega) (by exact hc3)).mono ?_
        rintro e w4 ⟨p4, rfl, hc4, ho4⟩
        have bR := bR.only ho4 (by omega)
        have bV := bV.only ho4 (by omega)
        have bE := bE.only ho4 (by omega)
        have hF4 := hF3.only (by omega) ho4
        have ho4 := ho3.trans ho4
        clear hc3 hF3 ho3 e1 f1 kV
        have kV := bV.cell 0
        cases p4
        · go_wp2
          go_meet
          exact ⟨d, bE, hdb, bR, hc4.mono (by omega), ho4⟩
        · go_wp2_with fail
          refine (cutOf_any g (N + 20 + 1 + 1) (w.heap.size + 1) A1 L c1 _ (by omega) (by exact hc4) (by omega) (by exact hF4) hL4).mono ?_
          rintro e w5 ⟨t, rfl, ht0, ht1, hc5, ho5⟩
          have bR := bR.only ho5 (by omega)
          have bE := bE.only ho5 (by omega)
          have ho5 := ho4.trans ho5
          obtain ⟨u, hu⟩ : ∃ u, wrap64 (t - x) = u := ⟨_, rfl⟩
          have hub : -9223372036854775808 ≤ u ∧ u ≤ 9223372036854775807 := by rw [← hu]; exact wrap64_bd _
          have e1 := bE.c1
          have f1 := bE.f 1
          by_cases hneg : u < 0
          · go_wp2
            go_meet
            exact ⟨d, (bE.set1 u).set1 d, hdb, ⟨(bR.blk.setFar (by omega) 1 _).setFar (by omega) 1 _⟩, ((hc5.setNew (by omega) 1 _).setNew (by omega) 1 _).mono (by omega), (ho5.setNew (by omega) 1 _).setNew (by omega) 1 _⟩
          · go_wp2
            go_meet
            exact ⟨u, bE.set1 u, hub, ⟨bR.blk.setFar (by omega) 1 _⟩, (hc5.setNew (by omega) 1 _).mono (by omega), ho5.setNew (by omega) 1 _⟩
      · go_wp2
        go_meet
        exact ⟨d, bE, hdb, bR, hc3.mono (by omega), ho3⟩
    · go_wp2
      go_meet
      exact ⟨0, bE.set1 0, by omega, ⟨bR.blk.setFar (by omega) 1 _⟩, (hc3.setNew (by omega) 1 _).mono (by omega), ho3.setNew (by omega) 1 _⟩
  case rest =>
    obtain ⟨m', bE, hmb, bR, hc, ho⟩ := hcut
    go_wp2_with fail
    refine (once_any g (N + 35) 3 _ (by omega) (by omega) (by omega) (by exact hc)).mono ?_
    rintro e w6 ⟨p6, rfl, hc6, ho6⟩
    have bR := bR.only ho6 (by omega)
    have bE := bE.only ho6 (by omega)
    have ho6 := ho.trans ho6
    have hz6 := bE.lt
    have hz6' := bR.lt
    clear hc ho
    cases p6
    · go_wp2_with fail
      refine (text_any g (N + 35 + 1) 6 _ (by omega) (by omega) (by exact hc6)).mono ?_
      rintro e w7 ⟨v7, l7, rfl, hown7, hl7, hc7, ho7⟩
      obtain ⟨A7, c7, rfl, _, _, _⟩ := hown7.form
      have bR := bR.only ho7 (by omega)
      have bE := bE.only ho7 (by omega)
      have ho7 := ho6.trans ho7
      have r0 := bR.c0
      have r1 := bR.c1
      have r2 := bR.c2
      have g0 := bR.f 0
      have g1 := bR.f 1
      have g2 := bR.f 2
      have e0 := bE.c0
      have e1 := bE.c1
      have e2 := bE.c2
      have f2 := bE.f 2
      have hlt := bR.lt
      have hlt2 := bE.lt
      go_wp2
      refine bodyPost_ret (v := .agg #[.int .i64 x, .int .i64 m', .slice A7 l7.length c7]) (by simp [results, Tryd.results69, go_sem, r0, r1, r2]) rfl ?_
      have h9 : ∀ (W : World) (b i : Nat) (u : Value), b < w6.heap.size → Own W w6.heap.size (.slice A7 l7.length c7) l7 → Own (W.setCell ⟨b, i, none⟩ u) w6.heap.size (.slice A7 l7.length c7) l7 := fun W b i u hb h => h.setBelow (by simpa using hb) u
      exact ⟨x, m', .slice A7 l7.length c7, l7, rfl, hx, hmb, (h9 _ _ _ _ hz6' (h9 _ _ _ _ hz6' (h9 _ _ _ _ hz6' (h9 _ _ _ _ hz6 hown7)))).mono (by omega), by omega,
        ((((hc7.setNew (b := w2.heap.size) (by omega) 2 _).setNew (b := w.heap.size) (by omega) 0 _).setNew (b := w.heap.size) (by omega) 1 _).setNew (b := w.heap.size) (by omega) 2 _).mono (by omega),
        (((ho7.setNew (b := w2.heap.size) (by omega) 2 _).setNew (Nat.le_refl _) 0 _).setNew (Nat.le_refl _) 1 _).setNew (Nat.le_refl _) 2 _⟩
    · have r0 := bR.c0
      have r1 := bR.c1
      have r2 := bR.c2
      have g0 := bR.f 0
      have g1 := bR.f 1
      have g2 := bR.f 2
      have e0 := bE.c0
      have e1 := bE.c1
      have e2 := bE.c2
      have hlt := bR.lt
      go_wp2
      refine bodyPost_ret (v := .agg #[.int .i64 x, .int .i64 m', .slice none 0 0]) (by simp [results, Tryd.results69, go_sem, r0, r1, r2]) rfl ?_
      exact ⟨x, m', .slice none 0 0, [], rfl, hx, hmb, Own.nil _ _, by simp, (((hc6.setNew (b := w.heap.size) (by omega) 0 _).setNew (b := w.heap.size) (by omega) 1 _).setNew (b := w.heap.size) (by omega) 2 _).mono (by omega), ((ho6.setNew (Nat.le_refl _) 0 _).setNew (Nat.le_refl _) 1 _).setNew (Nat.le_refl _) 2 _⟩
end Go.Proofs.YtkplfbhblbinaaaDoor

namespace Go.Proofs.YtkplfbhblbinaaaDoor
open Go.RowKit P
set_option linter.unusedVariables false
set_option linter.unusedSimpArgs false
set_option maxRecDepth 100000

theorem own_zeros (w : World) (n : Nat) (hn : n ≤ 1000) : Own (w.alloc (.cells (madeCells #[.int .u8 0] n) 5)) w.heap.size (.slice (some ⟨w.heap.size, 0, none⟩) n n) (List.replicate n 0) := by
  have h : Row (w.alloc (.cells (madeCells #[.int .u8 0] n) 5)) w.heap.size (List.replicate n (0 : UInt8)) := by
    unfold Row
    rw [List.length_replicate]
    exact (World.rowIs_made w (.int .u8 0) n 5).congr (by intro j hj; simp [List.getD_eq_getElem?_getD, List.getElem?_replicate, hj])
  have := h.own w.heap.size (Nat.le_refl _) (by rw [List.length_replicate]; unfold maxLen; omega)
  rw [List.length_replicate] at this
  exact this

set_option maxHeartbeats 8000000 in
theorem badEdit_any (g N : Nat) (A : Option Addr) (l : List UInt8) (c : Nat) (w : World) (hN : N ≤ 9000) (hl4 : l.length ≤ 400) (hl : l.length ≤ c) (hc9 : c ≤ 9223372036854775807) (h : Cur w g N) (hA : Bs w A l) :
    Calls Tryd.prog 53 #[.pointer (some ⟨g, 0, none⟩), .slice A l.length c] w (DrawsE g (N + 150) w) := by
  have hglt := h.lt
  have hal := (Below.refl w.heap.size w).alloc (Nat.le_refl _) (.cells #[.int .i64 0, .int .i64 0, .slice none 0 0] 25)
  have bR := EBox.new w 0 0 none 0 0
  have hc0 := h.only_new hal
  have hA0 := hA.below hal
  have ho0 : Only g w _ := Only.of_below hal
  have hsW0 : w.heap.size + 1 ≤ (w.alloc (.cells #[.int .i64 0, .int .i64 0, .slice none 0 0] 25)).heap.size := by simp
  clear h hA
  go_enter Tryd.func53, Tryd.ntmps53
  go_wp2_with fail
  generalize w.alloc (.cells #[.int .i64 0, .int .i64 0, .slice none 0 0] 25) = W0 at *
  refine (edit_any g N A l c _ (by omega) hl hc9 (by exact hc0) (by exact hA0)).mono ?_
  rintro e w1 ⟨a, m, v1, p, rfl, ha, hm, hown1, hp5, hc1, ho1⟩
  have HRG1 := Lib.hid hown1.range
  obtain ⟨A1, c1, rfl, _, _, _⟩ := hown1.form
  have bR := bR.only ho1 (by omega)
  have hz1' : w.heap.size + 1 ≤ w1.heap.size := by have := ho1.size; omega
  have ho1 := ho0.trans ho1
  have hal1 := (Below.refl w1.heap.size w1).alloc (Nat.le_refl _) (.cells #[.int .i64 a, .int .i64 m, .slice A1 p.length c1] 25)
  have bE := EBox.new w1 a m A1 p.length c1
  have bR := bR.below hal1
  have hc1 := hc1.only_new hal1
  have ho1 := ho1.trans (Only.of_below hal1)
  have hown1 := hown1.below hal1
  have hz1 : w.heap.size + 1 ≤ w1.heap.size := hz1'
  clear hal hal1 hc0 hA0 ho0
  go_wp2_with fail
  generalize w1.alloc (.cells #[.int .i64 a, .int .i64 m, .slice A1 p.length c1] 25) = W1 at *
  refine (pick_any g (N + 60) 12 _ (by omega) (by omega) (by exact hc1)).mono ?_
  rintro e w2 ⟨x, rfl, hx0, hx1, hc2, ho2⟩
  have bR := bR.only ho2 (by omega)
  have bE := bE.only ho2 (by omega)
  have hown2 := hown1.only ho2 (by omega)
  have HRG := HRG1
  have ho2 := ho1.trans ho2
  clear hc1 ho1 hown1
  have r0 := bR.c0
  have r1 := bR.c1
  have r2 := bR.c2
  have g0 := bR.f 0
  have g1 := bR.f 1
  have g2 := bR.f 2
  have e0 := bE.c0
  have e1 := bE.c1
  have e2 := bE.c2
  have hlt := bR.lt
  have hlt2 := bE.lt
  have bE0 := bE
  have bR0 := bR
  by_cases q0 : x = 0
  · subst q0
    clear r0 r1 r2 g0 g1 g2 e0 e1 e2 hlt hlt2
    go_wp2_with fail
    refine (raw_any g (N + 60 + 1) _ (by omega) (by exact hc2)).mono ?_
    rintro e w3 ⟨t, rfl, ht0, ht1, hc3, ho3⟩
    have bR := bR.only ho3 (by omega)
    have bE := bE.only ho3 (by omega)
    have hown3 := hown2.only ho3 (by omega)
    have ho3 := ho2.trans ho3
    have r0 := bR.c0
    have r1 := bR.c1
    have r2 := bR.c2
    have g0 := bR.f 0
    have g1 := bR.f 1
    have g2 := bR.f 2
    have e0 := bE.c0
    have e1 := bE.c1
    have e2 := bE.c2
    have f0 := bE.f 0
    have f1 := bE.f 1
    have f2 := bE.f 2
    have hlt := bR.lt
    have hlt2 := bE.lt
    go_wp2
    refine bodyPost_ret (v := .agg #[.int .i64 t, .int .i64 m, .slice A1 p.length c1]) (by simp [results, Tryd.results53, go_sem, r0, r1, r2]) rfl ?_
    have h9 : ∀ (W : World) (b i : Nat) (u : Value), b < w1.heap.size + 1 → b ≠ w1.heap.size + 5 → Own W W0.heap.size (.slice A1 p.length c1) p → (∀ k ∈ (Value.slice A1 p.length c1).ownBlock.toList, b ≠ k) → Own (W.setCell ⟨b, i, none⟩ u) W0.heap.size (.slice A1 p.length c1) p := fun W b i u _ _ h hne => h.heap (fun k hk => Below.heap_setCell _ _ _ _ (fun e => hne k hk (by simpa using e.symm)))
    have hA : ∀ k ∈ (Value.slice A1 p.length c1).ownBlock.toList, w.heap.size ≠ k := fun k hk => by have h1 := HRG.out k hk; omega
    have hB : ∀ k ∈ (Value.slice A1 p.length c1).ownBlock.toList, w1.heap.size ≠ k := fun k hk => by have h1 := HRG.out k hk; omega
    exact ⟨t, m, .slice A1 p.length c1, p, rfl, ⟨ht0, ht1⟩, hm, (h9 _ _ _ _ (by omega) (by omega) (h9 _ _ _ _ (by omega) (by omega) (h9 _ _ _ _ (by omega) (by omega) (h9 _ _ _ _ (by omega) (by omega) hown3 hB) hA) hA) hA).mono (by omega), by omega,
      ((((hc3.setNew (b := w1.heap.size) (by omega) 0 _).setNew (b := w.heap.size) (by omega) 0 _).setNew (b := w.heap.size) (by omega) 1 _).setNew (b := w.heap.size) (by omega) 2 _).mono (by omega),
      (((ho3.setNew (b := w1.heap.size) (by omega) 0 _).setNew (Nat.le_refl _) 0 _).setNew (Nat.le_refl _) 1 _).setNew (Nat.le_refl _) 2 _⟩
  by_cases q1 : x = 1
  · subst q1
    clear r0 r1 r2 g0 g1 g2 e0 e1 e2 hlt hlt2
    go_wp2_with fail
    refine (raw_any g (N + 60 + 1) _ (by omega) (by exact hc2)).mono ?_
    rintro e w3 ⟨t, rfl, ht0, ht1, hc3, ho3⟩
    have bR := bR.only ho3 (by omega)
    have bE := bE.only ho3 (by omega)
    have hown3 := hown2.only ho3 (by omega)
    have ho3 := ho2.trans ho3
    have r0 := bR.c0
    have r1 := bR.c1
    have r2 := bR.c2
    have g0 := bR.f 0
    have g1 := bR.f 1
    have g2 := bR.f 2
    have e0 := bE.c0
    have e1 := bE.c1
    have e2 := bE.c2
    have f0 := bE.f 0
    have f1 := bE.f 1
    have f2 := bE.f 2
    have hlt := bR.lt
    have hlt2 := bE.lt
    go_wp2
    refine bodyPost_ret (v := .agg #[.int .i64 a, .int .i64 t, .slice A1 p.length c1]) (by simp [results, Tryd.results53, go_sem, r0, r1, r2]) rfl ?_
    have h9 : ∀ (W : World) (b i : Nat) (u : Value), b < w1.heap.size + 1 → b ≠ w1.heap.size + 5 → Own W W0.heap.size (.slice A1 p.length c1) p → (∀ k ∈ (Value.slice A1 p.length c1).ownBlock.toList, b ≠ k) → Own (W.setCell ⟨b, i, none⟩ u) W0.heap.size (.slice A1 p.length c1) p := fun W b i u _ _ h hne => h.heap (fun k hk => Below.heap_setCell _ _ _ _ (fun e => hne k hk (by simpa using e.symm)))
    have hA : ∀ k ∈ (Value.slice A1 p.length c1).ownBlock.toList, w.heap.size ≠ k := fun k hk => by have h1 := HRG.out k hk; omega
    have hB : ∀ k ∈ (Value.slice A1 p.length c1).ownBlock.toList, w1.heap.size ≠ k := fun k hk => by have h1 := HRG.out k hk; omega
    exact ⟨a, t, .slice A1 p.length c1, p, rfl, ha, ⟨ht0, ht1⟩, (h9 _ _ _ _ (by omega) (by omega) (h9 _ _ _ _ (by omega) (by omega) (h9 _ _ _ _ (by omega) (by omega) (h9 _ _ _ _ (by omega) (by omega) hown3 hB) hA) hA) hA).mono (by omega), by omega,
      ((((hc3.setNew (b := w1.heap.size) (by omega) 1 _).setNew (b := w.heap.size) (by omega) 0 _).setNew (b := w.heap.size) (by omega) 1 _).setNew (b := w.heap.size) (by omega) 2 _).mono (by omega),
      (((ho3.setNew (b := w1.heap.size) (by omega) 1 _).setNew (Nat.le_refl _) 0 _).setNew (Nat.le_refl _) 1 _).setNew (Nat.le_refl _) 2 _⟩
  by_cases q2 : x = 2
  · subst q2
    clear r0 r1 r2 g0 g1 g2 e0 e1 e2 hlt hlt2
    go_wp2_with fail
    refine (badText_any g (N + 60 + 1) 9 _ (by omega) (by omega) (by exact hc2)).mono ?_
    rintro e w3 ⟨v3, l3, rfl, hown3, hl3, hc3, ho3⟩
    obtain ⟨A3, c3, rfl, _, _, _⟩ := hown3.form
    have bR := bR.only ho3 (by omega)
    have bE := bE.only ho3 (by omega)
    have hz2 := bE0.lt
    have hz22 := bR0.lt
    have ho3 := ho2.trans ho3
    have r0 := bR.c0
    have r1 := bR.c1
    have r2 := bR.c2
    have g0 := bR.f 0
    have g1 := bR.f 1
    have g2 := bR.f 2
    have e0 := bE.c0
    have e1 := bE.c1
    have e2 := bE.c2
    have f0 := bE.f 0
    have f1 := bE.f 1
    have f2 := bE.f 2
    have hlt := bR.lt
    have hlt2 := bE.lt
    go_wp2
    refine bodyPost_ret (v := .agg #[.int .i64 a, .int .i64 m, .slice A3 l3.length c3]) (by simp [results, Tryd.results53, go_sem, r0, r1, r2]) rfl ?_
    have h9 : ∀ (W : World) (b i : Nat) (u : Value), b < w2.heap.size → Own W w2.heap.size (.slice A3 l3.length c3) l3 → Own (W.setCell ⟨b, i, none⟩ u) w2.heap.size (.slice A3 l3.length c3) l3 := fun W b i u hb h => h.setBelow (by simpa using hb) u
    exact ⟨a, m, .slice A3 l3.length c3, l3, rfl, ha, hm, (h9 _ _ _ _ (by omega) (h9 _ _ _ _ (by omega) (h9 _ _ _ _ (by omega) (h9 _ _ _ _ (by omega) hown3)))).mono (by omega), by omega,
      ((((hc3.setNew (b := w1.heap.size) (by omega) 2 _).setNew (b := w.heap.size) (by omega) 0 _).setNew (b := w.heap.size) (by omega) 1 _).setNew (b := w.heap.size) (by omega) 2 _).mono (by omega),
      (((ho3.setNew (b := w1.heap.size) (by omega) 2 _).setNew (Nat.le_refl _) 0 _).setNew (Nat.le_refl _) 1 _).setNew (Nat.le_refl _) 2 _⟩
  by_cases q3 : x = 3
  · subst q3
    clear r0 r1 r2 g0 g1 g2 e0 e1 e2 hlt hlt2
    go_wp2_with fail
    refine (pick_any g (N + 60 + 1) 3 _ (by omega) (by omega) (by exact hc2)).mono ?_
    rintro e w4 ⟨y, rfl, hy0, hy1, hc4, ho4⟩
    have bR := bR.only ho4 (by omega)
    have bE := bE.only ho4 (by omega)
    have ho4 := ho2.trans ho4
    obtain ⟨n, hn⟩ : ∃ n : Nat, 400 - (l.length : Int) + y = (n : Int) := ⟨(400 - (l.length : Int) + y).toNat, by omega⟩
    have hn4 : n ≤ 402 := by omega
    have hmk : ∀ W, (Instr.makeSlice 22 (.int .i64 (400 - (l.length : Int) + y)) (.int .i64 (400 - (l.length : Int) + y))).run Tryd.prog W = .ok (.slice (some ⟨W.heap.size, 0, none⟩) n n) (W.alloc (.cells (madeCells #[.int .u8 0] n) 5)) := fun W => by
      rw [hn]
      have := run_mk (P := Tryd.prog) 22 5 (.int .u8 0) 1 1 Tryd.underlying22 Tryd.infoB n (by omega) (by omega) W
      rw [Nat.mul_one] at this
      exact this
    have t0 := bR.c0
    have t1 := bR.c1
    have t2 := bR.c2
    have s0 := bR.f 0
    have s1 := bR.f 1
    have s2 := bR.f 2
    have o0 := bE.c0
    have o1 := bE.c1
    have o2 := bE.c2
    have p2 := bE.f 2
    have hq1 := bE.lt
    have hq2 := bR.lt
    have hz4 := ho4.size
    have HN := Lib.hid hn
    clear hn
    go_wp2
    have bR5 := ((((EBox.mk (bR.blk.setFar (d := w1.heap.size) (by omega) 2 (.slice (some ⟨w4.heap.size, 0, none⟩) n n))).set0 a).set1 m).set2 (some ⟨w4.heap.size, 0, none⟩) n n).below ((Below.refl _ _).alloc (Nat.le_refl _) (.cells (madeCells #[.int .u8 0] n) 5))
    have u0 := bR5.c0
    have u1 := bR5.c1
    have u2 := bR5.c2
    refine bodyPost_ret (v := .agg #[.int .i64 a, .int .i64 m, .slice (some ⟨w4.heap.size, 0, none⟩) n n]) (by simp [results, Tryd.results53, go_sem, u0, u1, u2]) rfl ?_
    clear u0 u1 u2 bR5
    have hc5 := (((hc4.setNew (b := w1.heap.size) (by omega) 2 (.slice (some ⟨w4.heap.size, 0, none⟩) n n)).setNew (b := w.heap.size) (by omega) 0 (.int .i64 a)).setNew (b := w.heap.size) (by omega) 1 (.int .i64 m)).setNew (b := w.heap.size) (by omega) 2 (.slice (some ⟨w4.heap.size, 0, none⟩) n n)
    have ho5 := (((ho4.setNew (b := w1.heap.size) (by omega) 2 (.slice (some ⟨w4.heap.size, 0, none⟩) n n)).setNew (Nat.le_refl _) 0 (.int .i64 a)).setNew (Nat.le_refl _) 1 (.int .i64 m)).setNew (Nat.le_refl _) 2 (.slice (some ⟨w4.heap.size, 0, none⟩) n n)
    have hsz5 : ((((w4.setCell ⟨w1.heap.size, 2, none⟩ (.slice (some ⟨w4.heap.size, 0, none⟩) n n)).setCell ⟨w.heap.size, 0, none⟩ (.int .i64 a)).setCell ⟨w.heap.size, 1, none⟩ (.int .i64 m)).setCell ⟨w.heap.size, 2, none⟩ (.slice (some ⟨w4.heap.size, 0, none⟩) n n)).heap.size = w4.heap.size := by simp
    generalize (((w4.setCell ⟨w1.heap.size, 2, none⟩ (.slice (some ⟨w4.heap.size, 0, none⟩) n n)).setCell ⟨w.heap.size, 0, none⟩ (.int .i64 a)).setCell ⟨w.heap.size, 1, none⟩ (.int .i64 m)).setCell ⟨w.heap.size, 2, none⟩ (.slice (some ⟨w4.heap.size, 0, none⟩) n n) = W5 at *
    have hown5 := own_zeros W5 n (by omega)
    rw [hsz5] at hown5
    exact ⟨a, m, .slice (some ⟨w4.heap.size, 0, none⟩) n n, List.replicate n 0, rfl, ha, hm, hown5.mono (by omega), by rw [List.length_replicate]; omega, (hc5.alloc _).mono (by omega), ho5.trans (Only.of_below ((Below.refl _ _).alloc (Nat.le_refl _) _))⟩
  have b0 : (x == 0) = false := by simpa using q0
  have b1 : (x == 1) = false := by simpa using q1
  have b2 : (x == 2) = false := by simpa using q2
  have b3 : (x == 3) = false := by simpa using q3
  go_wp2
  refine bodyPost_ret (v := .agg #[.int .i64 a, .int .i64 m, .slice A1 p.length c1]) (by simp [results, Tryd.results53, go_sem, r0, r1, r2]) rfl ?_
  have h9 : ∀ (W : World) (b i : Nat) (u : Value), b < W0.heap.size → Own W W0.heap.size (.slice A1 p.length c1) p → Own (W.setCell ⟨b, i, none⟩ u) W0.heap.size (.slice A1 p.length c1) p := fun W b i u hb h => h.setBelow (by simpa using hb) u
  exact ⟨a, m, .slice A1 p.length c1, p, rfl, ha, hm, (h9 _ _ _ _ hsW0 (h9 _ _ _ _ hsW0 (h9 _ _ _ _ hsW0 hown2))).mono (by omega), by omega,
    (((hc2.setNew (b := w.heap.size) (by omega) 0 _).setNew (b := w.heap.size) (by omega) 1 _).setNew (b := w.heap.size) (by omega) 2 _).mono (by omega),
    ((ho2.setNew (Nat.le_refl _) 0 _).setNew (Nat.le_refl _) 1 _).setNew (Nat.le_refl _) 2 _⟩
end Go.Proofs.YtkplfbhblbinaaaDoor

namespace Go.Proofs.YtkplfbhblbinaaaDoor
open Go.RowKit P
set_option linter.unusedVariables false
set_option linter.unusedSimpArgs false
set_option maxRecDepth 100000

/-- What a draw of a text and an edit ends in. -/
def DrawsTE (w : World) (e : Ending) (w' : World) : Prop :=
  ∃ A l c a m B p d, e = .returned (.tuple #[.slice A l.length c, .agg #[.int .i64 a, .int .i64 m, .slice B p.length d]]) ∧ l.length ≤ 401 ∧ l.length ≤ c ∧ c ≤ 9223372036854775807 ∧ Pl A c ∧ Bs w' A l ∧
    (-9223372036854775808 ≤ a ∧ a ≤ 9223372036854775807) ∧ (-9223372036854775808 ≤ m ∧ m ≤ 9223372036854775807) ∧ p.length ≤ 500 ∧ p.length ≤ d ∧ d ≤ 9223372036854775807 ∧ Pl B d ∧ Bs w' B p ∧ Below w.heap.size w w'

set_option maxHeartbeats 8000000 in
theorem drawEditBack_any (A : Option Addr) (l : List UInt8) (c : Nat) (w : World) (hl : l.length ≤ 1048576) (hA : Bs w A l) :
    Calls Tryd.prog 13 #[.slice A l.length c] w (DrawsTE w) := by
  have hal := (Below.refl w.heap.size w).alloc (Nat.le_refl _) (.cells #[.int .i64 0, .int .i64 0, .slice none 0 0] 25)
  have bR := EBox.new w 0 0 none 0 0
  have hA0 := hA.below hal
  have hz0 : (w.alloc (.cells #[.int .i64 0, .int .i64 0, .slice none 0 0] 25)).heap.size = w.heap.size + 1 := by simp
  go_enter Tryd.func13, Tryd.ntmps13
  go_wp2_with fail
  generalize w.alloc (.cells #[.int .i64 0, .int .i64 0, .slice none 0 0] 25) = W0 at *
  refine (l01Open_any A l c _ hl (by exact hA0)).mono ?_
  rintro e w1 ⟨rfl, hc0, hb0⟩
  obtain ⟨g, hg⟩ : ∃ g, W0.heap.size = g := ⟨_, rfl⟩
  rw [hg] at hc0 hz0 ⊢
  have hwg : w.heap.size < g := by omega
  have bR1 := bR.below hb0
  have hb1 := hal.trans (hb0.mono (by omega))
  have hs0 := hb0.size
  have hgl := hc0.lt
  have hs1 : w.heap.size + 1 ≤ w1.heap.size := by omega
  clear hA0 hal bR hz0 hg
  go_wp2_with fail
  refine (text_any g 0 40 _ (by omega) (by omega) (by exact hc0)).mono ?_
  rintro e w2 ⟨v2, t, rfl, hown2, ht, hc2, ho2⟩
  obtain ⟨A2, c2, rfl, hlc2, hcm2, hB2, hp1, hp2⟩ := own_plain9 hown2
  have bR2 := bR1.only ho2 (by omega)
  have hb2 := hb1.trans (ho2.below w.heap.size (by omega) (by omega))
  clear hc0 hb0 bR1 hb1
  go_wp2_with fail
  refine (badEdit_any g (0 + 1 + 3 * 40) A2 t c2 _ (by omega) (by omega) hlc2 hcm2 (by exact hc2) (by exact hB2)).mono ?_
  rintro e w3 ⟨a, m, v3, p, rfl, ha, hm, hown3, hp5, hc3, ho3⟩
  obtain ⟨A3, c3, rfl, hlc3, hcm3, hB3, hq1, hq2⟩ := own_plain9 hown3
  have bR3 := bR2.only ho3 (by omega)
  have hown2 := hown2.only ho3 (by omega)
  have hs2 := ho2.size
  have hs3 := ho3.size
  have hb3 := hb2.trans (ho3.below w.heap.size (by omega) (by omega))
  have r0 := bR3.c0
  have r1 := bR3.c1
  have r2 := bR3.c2
  have g0 := bR3.f 0
  have g1 := bR3.f 1
  have g2 := bR3.f 2
  have hlt := bR3.lt
  go_wp2
  refine bodyPost_ret (v := .tuple #[.slice A2 t.length c2, .agg #[.int .i64 a, .int .i64 m, .slice A3 p.length c3]]) (by simp [results, Tryd.results13, go_sem, r0, r1, r2]) rfl ?_
  have h9 : ∀ (W : World) (B : Nat) (v : Value) (l : List UInt8) (i : Nat) (u : Value), w.heap.size < B → Own W B v l → Own (W.setCell ⟨w.heap.size, i, none⟩ u) B v l := fun W B v l i u hb h => h.setBelow (by simpa using hb) u
  have o2 := h9 _ _ _ _ 2 (.slice A3 p.length c3) (by omega) (h9 _ _ _ _ 1 (.int .i64 m) (by omega) (h9 _ _ _ _ 0 (.int .i64 a) (by omega) hown2))
  have o3 := h9 _ _ _ _ 2 (.slice A3 p.length c3) (by omega) (h9 _ _ _ _ 1 (.int .i64 m) (by omega) (h9 _ _ _ _ 0 (.int .i64 a) (by omega) hown3))
  refine ⟨A2, t, c2, a, m, A3, p, c3, rfl, by omega, hlc2, hcm2, by unfold Pl; exact ⟨hp1, hp2⟩, ?_, ha, hm, hp5, hlc3, hcm3, by unfold Pl; exact ⟨hq1, hq2⟩, ?_, ((hb3.setCell (Nat.le_refl _) _).setCell (Nat.le_refl _) _).setCell (Nat.le_refl _) _⟩
  · obtain ⟨_, _, e9, _, _, hB⟩ := o2.form
    cases e9
    exact hB
  · obtain ⟨_, _, e9, _, _, hB⟩ := o3.form
    cases e9
    exact hB

set_option maxHeartbeats 2000000 in
theorem sameEdit_any (a m : Int) (A B : Option Addr) (l : List UInt8) (c d : Nat) (w : World) (hA : Bs w A l) (hB : Bs w B l) :
    Calls Tryd.prog 16 #[.agg #[.int .i64 a, .int .i64 m, .slice A l.length c], .agg #[.int .i64 a, .int .i64 m, .slice B l.length d]] w fun e w' => e = .returned (.bool true) ∧ Below w.heap.size w w' := by
  have hb0 := (((Below.refl w.heap.size w).alloc (Nat.le_refl _) (.cells #[.int .i64 a, .int .i64 m, .slice A l.length c] 25))).alloc (by simp) (.cells #[.int .i64 a, .int .i64 m, .slice B l.length d] 25)
  have e1 : (a == a) = true := by simp
  have e2 : (m == m) = true := by simp
  have hc1 := run_conv_bs c l.length rfl (hA.below hb0)
  have hc2 := run_conv_bs d l.length rfl (hB.below hb0)
  go_enter Tryd.func16, Tryd.ntmps16
  go_wp2
  go_ret
  exact ⟨rfl, hb0⟩

set_option maxHeartbeats 1000000 in
theorem bytesOf_any (A : Option Addr) (l : List UInt8) (n c : Nat) (w : World) (hn : n = l.length) (hl : l.length ≤ 1000000) (hA : Bs w A l) :
    Calls Tryd.prog 19 #[.slice A n c] w (Makes w l) := by
  have hown0 : Own (w.alloc (.cells #[] 5)) w.heap.size (.slice (some ⟨w.heap.size, 0, none⟩) 0 0) [] := World.ownsRow_made w #[] 0 (Nat.le_refl _) (by unfold maxLen; omega) rfl
  have hal := (Below.refl w.heap.size w).alloc (Nat.le_refl _) (.cells #[] 5)
  have hA0 := hA.below hal
  go_enter Tryd.func19, Tryd.ntmps19
  go_wp2_with (at_builtin; go_must (refine wpList_app_bytes rfl _ _ rfl w.heap.size _ [] l A n c rfl rfl hn hown0 hA0 ?c1 ?c2 ?_))
  case c1 => simp; omega
  case c2 => simp
  intro v4 w4 hown4 hg4 _
  have hb4 := hal.grown hg4 (by simp) (fun x hx => (World.ownsRow.lt hown0 x hx).1)
  go_wp2
  go_ret
  exact ⟨_, rfl, hown4, hb4⟩
end Go.Proofs.YtkplfbhblbinaaaDoor
