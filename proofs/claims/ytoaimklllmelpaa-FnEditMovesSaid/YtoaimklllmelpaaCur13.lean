/-
  Chapter 6's draws: small edits, spots; laws.pick at any offset: contracts. Own work.
  Chapter 5's draw of a text and an edit that may not fit: contract. Own work.
-/
import Derived.Test.YtoaimklllmelpaaCur10
namespace Go.Proofs.Ytoaimklllmelpaa
open Go.RowKit P
set_option linter.unusedVariables false
set_option linter.unusedSimpArgs false
set_option maxRecDepth 100000

set_option maxHeartbeats 4000000 in
theorem lawPickN_any (j : Nat) (hj : j ≤ 100) (A : Option Addr) (l : List UInt8) (c : Nat) (n : Int) (w : World) (hl : l.length ≤ 1048576) (h0 : 0 ≤ n) (hn : n ≤ 1000) (hA : Bs w A l) :
    Calls Try.prog 41 #[.slice A l.length c, .int .i64 (j : Int), .int .i64 n] w fun e w' => (∃ x : Int, e = .returned (.int .i64 x) ∧ 0 ≤ x ∧ (x < n ∨ (n < 2 ∧ x = 0))) ∧ Below w.heap.size w w' := by
  by_cases hz : l.length = 0
  · have g1 : ((l.length : Int) == 0) = true := by simp [hz]
    have H := Lib.hid hz
    clear hz
    go_enter Try.func41, Try.ntmps41
    go_wp2
    go_ret
    exact ⟨⟨0, rfl, Int.le_refl _, by omega⟩, Below.refl _ _⟩
  have g1 : ((l.length : Int) == 0) = false := by rw [beq_eq_false_iff_ne]; omega
  by_cases hn2 : n < 2
  · go_enter Try.func41, Try.ntmps41
    go_wp2
    go_ret
    exact ⟨⟨0, rfl, Int.le_refl _, .inr ⟨hn2, rfl⟩⟩, Below.refl _ _⟩
  have hlz : (l.length : Int) ≠ 0 := by omega
  have hnz : n ≠ 0 := by omega
  go_enter Try.func41, Try.ntmps41
  go_wp2
  go_loopw [7, 8] (fun xx kk wr => ∃ (x : Int) (k : Nat), xx = .int .i64 x ∧ kk = .int .i64 k ∧ 0 ≤ x ∧ ((k = 0 ∧ x ≤ 0) ∨ (k = 1 ∧ x ≤ 255) ∨ (k = 2 ∧ x ≤ 8160) ∨ (k = 3 ∧ x ≤ 253215)) ∧ Below w.heap.size w wr) (fun _ kk _ => 3 - (intOf kk).toNat)
  case atStart => exact ⟨0, 0, rfl, rfl, Int.le_refl _, .inl ⟨rfl, Int.le_refl _⟩, Below.refl _ _⟩
  case round =>
    obtain ⟨x, k, rfl, rfl, hx0, hx, hb⟩ := hrel
    by_cases hk : k < 3
    · obtain ⟨m, hme, hml⟩ : ∃ m : Nat, ((j : Int) + (k : Int)) % (l.length : Int) = (m : Int) ∧ m < l.length := by
        refine ⟨(j + k) % l.length, by rw [Int.natCast_emod, Int.natCast_add], Nat.mod_lt _ (by omega)⟩
      obtain ⟨b, off, rfl, hbl, hc⟩ := (hA.below hb) m hml
      have hu := (l[m]).toNat_lt
      obtain ⟨bn, hbn⟩ : ∃ bn : Int, bn = (l[m]).toNat := ⟨_, rfl⟩
      rw [← hbn] at hc
      have hbn1 : 0 ≤ bn ∧ bn ≤ 255 := by omega
      have hml' : (m : Int) < (l.length : Int) := by omega
      have hx9 : x ≤ 8160 := by omega
      have hne : ¬ (l.length : Int) = 0 := by omega
      have hw0 : IntKind.i64.wrap ((j : Int) + (k : Int)) = (j : Int) + (k : Int) := IntWalk.i64_in _ ⟨by omega, by omega⟩
      have hw1 : IntKind.i64.wrap (31 * x) = 31 * x := IntWalk.i64_in _ ⟨by omega, by omega⟩
      have hw2 : IntKind.i64.wrap (31 * x + bn) = 31 * x + bn := IntWalk.i64_in _ ⟨by omega, by omega⟩
      clear hbn hu
      go_wp2
      go_roundw
      case rel => exact ⟨31 * x + bn, k + 1, rfl, by go_num, by omega, by omega, hb⟩
      case measure => first | (simp [intOf]; done) | (simp [intOf]; omega)
    · have hbd := emod_bd (x + j) n (by omega)
      have hx9 : x ≤ 253215 := by omega
      have hw2 : IntKind.i64.wrap (x + j) = x + j := IntWalk.i64_in _ ⟨by omega, by omega⟩
      have hx3 : 0 ≤ x + (j : Int) := by omega
      go_wp2
      go_ret
      exact ⟨⟨_, rfl, hbd.1, .inl hbd.2⟩, hb⟩

/-- A write into another block leaves bytes of the call's own. -/
theorem ownSet9 {w : World} {B b : Nat} {v : Value} {l : List UInt8} (h : Own w B v l) (hne : ∀ k ∈ v.ownBlock.toList, b ≠ k) (i : Nat) (u : Value) : Own (w.setCell ⟨b, i, none⟩ u) B v l :=
  h.heap (fun k hk => Below.heap_setCell _ _ _ _ (fun e => hne k hk (by simpa using e.symm)))

set_option maxHeartbeats 8000000 in
theorem small_any (g N : Nat) (w : World) (hN : N ≤ 9000) (h : Cur w g N) :
    Calls Try.prog 65 #[.pointer (some ⟨g, 0, none⟩)] w (DrawsE g (N + 50) w) := by
  have hglt := h.lt
  have hal := (Below.refl w.heap.size w).alloc (Nat.le_refl _) (.cells #[.int .i64 0, .int .i64 0, .slice none 0 0] 27)
  have bR := EBox.new w 0 0 none 0 0
  have hc0 := h.only_new hal
  have ho0 : Only g w _ := Only.of_below hal
  have hsW0 : w.heap.size + 1 ≤ (w.alloc (.cells #[.int .i64 0, .int .i64 0, .slice none 0 0] 27)).heap.size := by simp
  clear h
  go_enter Try.func65, Try.ntmps65
  go_wp2_with fail
  generalize w.alloc (.cells #[.int .i64 0, .int .i64 0, .slice none 0 0] 27) = W0 at *
  refine (pick_draws g N 20 _ (by omega) (by omega) (by omega) (by exact hc0)).mono ?_
  rintro e w3 ⟨a, rfl, ha0, ha1, hc3, ho3⟩
  have bR := bR.only ho3 (by omega)
  have hz3 : w.heap.size + 1 ≤ w3.heap.size := by have := ho3.size; omega
  have ho3 := ho0.trans ho3
  clear hc0 ho0 hal
  go_wp2_with fail
  refine (pick_draws g (N + 1) 6 _ (by omega) (by omega) (by omega) (by exact hc3)).mono ?_
  rintro e w4 ⟨m, rfl, hm0, hm1, hc4, ho4⟩
  have bR := bR.only ho4 (by omega)
  have hz4 : w.heap.size + 1 ≤ w4.heap.size := by have := ho4.size; omega
  have ho4 := ho3.trans ho4
  clear hc3 ho3
  go_wp2_with fail
  refine (text_any g (N + 2) 5 _ (by omega) (by omega) (by exact hc4)).mono ?_
  rintro e w5 ⟨v1, p, rfl, hown1, hp5, hc5, ho5⟩
  have HRG1 := Lib.hid hown1.range
  obtain ⟨A1, c1, rfl, _, _, _⟩ := hown1.form
  have bR := bR.only ho5 (by omega)
  have hz1 : w.heap.size + 1 ≤ w5.heap.size := by have := ho5.size; omega
  have hz45 := ho5.size
  have ho1 := ho4.trans ho5
  have hal1 := (Below.refl w5.heap.size w5).alloc (Nat.le_refl _) (.cells #[.int .i64 a, .int .i64 m, .slice A1 p.length c1] 27)
  have bE := EBox.new w5 a m A1 p.length c1
  have bR := bR.below hal1
  have hc1 := hc5.only_new hal1
  have ho1 := ho1.trans (Only.of_below hal1)
  have hown1 := hown1.below hal1
  clear hal1 hc4 ho4 hc5 ho5
  go_wp2_with fail
  generalize w5.alloc (.cells #[.int .i64 a, .int .i64 m, .slice A1 p.length c1] 27) = W1 at *
  refine (pick_any g (N + 2 + 1 + 3 * 5) 14 _ (by omega) (by omega) (by exact hc1)).mono ?_
  rintro e w2 ⟨x, rfl, hx0, hx1, hc2, ho2⟩
  have bR := bR.only ho2 (by omega)
  have bE := bE.only ho2 (by omega)
  have hown2 := hown1.only ho2 (by omega)
  have HRG := HRG1
  have ho2 := ho1.trans ho2
  have hc2 := hc2.mono (M := N + 40) (by omega)
  clear hc1 ho1 hown1
  have r0 := bR.c0
  have r1 := bR.c1
  have r2 := bR.c2
  have g0 := bR.f 0
  have g1 := bR.f 1
  have g2 := bR.f 2
  have e0 := bE.c0
  have e1 := bE.c1
  have e2 := bE.c2
  have hlt := bR.lt
  have hlt2 := bE.lt
  by_cases q0 : x = 0
  · subst q0
    clear r0 r1 r2 g0 g1 g2 e0 e1 e2 hlt hlt2
    go_wp2_with fail
    refine (raw_any g (N + 40) _ (by omega) (by exact hc2)).mono ?_
    rintro e w6 ⟨r, rfl, hr0, hr1, hc6, ho6⟩
    have bR := bR.only ho6 (by omega)
    have bE := bE.only ho6 (by omega)
    have hown6 := hown2.only ho6 (by omega)
    have ho6 := ho2.trans ho6
    have hal6 := (Below.refl w6.heap.size w6).alloc (Nat.le_refl _) (.cells #[.int .i64 r, .int .i64 400, .int .i64 401] 3)
    go_wp2_with fail
    refine (pick_draws g (N + 42) 3 _ (by omega) (by omega) (by omega) (by exact hc6.alloc _)).mono ?_
    rintro e w7 ⟨z, rfl, hz0, hz1, hc7, ho7⟩
    obtain ⟨k, rfl⟩ := Int.eq_ofNat_of_zero_le hz0
    have hrow := ho7.row hc6.lt k
    obtain ⟨t, hv, ht0, ht1⟩ : ∃ v : Int, w7.cell? ⟨w6.heap.size, k, none⟩ = some (.int .i64 v) ∧ -9223372036854775808 ≤ v ∧ v ≤ 9223372036854775807 := by
      rw [hrow]
      match k, (show k < 3 by omega) with
      | 0, _ => exact ⟨_, rfl, by omega, by omega⟩
      | 1, _ => exact ⟨_, rfl, by omega, by omega⟩
      | 2, _ => exact ⟨_, rfl, by omega, by omega⟩
    clear hrow
    have bR := (bR.below hal6).only ho7 (by omega)
    have bE := (bE.below hal6).only ho7 (by omega)
    have hown7 := (hown6.below hal6).only ho7 (by omega)
    have ho7 := ho6.trans ho7.of_alloc
    have r0 := bR.c0
    have r1 := bR.c1
    have r2 := bR.c2
    have g0 := bR.f 0
    have g1 := bR.f 1
    have g2 := bR.f 2
    have e0 := bE.c0
    have e1 := bE.c1
    have e2 := bE.c2
    have f0 := bE.f 0
    have f1 := bE.f 1
    have f2 := bE.f 2
    have hlt := bR.lt
    have hlt2 := bE.lt
    have HO := Lib.hid hown7
    clear hown7 hown6
    go_wp2
    refine bodyPost_ret (v := .agg #[.int .i64 t, .int .i64 m, .slice A1 p.length c1]) (by simp [results, Try.results65, go_sem, r0, r1, r2]) rfl ?_
    have hA : ∀ k ∈ (Value.slice A1 p.length c1).ownBlock.toList, w.heap.size ≠ k := fun k hk => by have h1 := HRG.out k hk; omega
    have hB : ∀ k ∈ (Value.slice A1 p.length c1).ownBlock.toList, w5.heap.size ≠ k := fun k hk => by have h1 := HRG.out k hk; omega
    exact ⟨t, m, .slice A1 p.length c1, p, rfl, ⟨by omega, by omega⟩, ⟨by omega, by omega⟩, (ownSet9 (ownSet9 (ownSet9 (ownSet9 HO.out hB 0 _) hA 0 _) hA 1 _) hA 2 _).mono (by omega), by omega,
      ((((hc7.setNew (b := w5.heap.size) (by omega) 0 _).setNew (b := w.heap.size) (by omega) 0 _).setNew (b := w.heap.size) (by omega) 1 _).setNew (b := w.heap.size) (by omega) 2 _).mono (by omega),
      (((ho7.setNew (b := w5.heap.size) (by omega) 0 _).setNew (Nat.le_refl _) 0 _).setNew (Nat.le_refl _) 1 _).setNew (Nat.le_refl _) 2 _⟩
  by_cases q1 : x = 1
  · subst q1
    clear r0 r1 r2 g0 g1 g2 e0 e1 e2 hlt hlt2
    go_wp2_with fail
    refine (raw_any g (N + 40) _ (by omega) (by exact hc2)).mono ?_
    rintro e w6 ⟨r, rfl, hr0, hr1, hc6, ho6⟩
    have bR := bR.only ho6 (by omega)
    have bE := bE.only ho6 (by omega)
    have hown6 := hown2.only ho6 (by omega)
    have ho6 := ho2.trans ho6
    have hal6 := (Below.refl w6.heap.size w6).alloc (Nat.le_refl _) (.cells #[.int .i64 r, .int .i64 400, .int .i64 401] 3)
    go_wp2_with fail
    refine (pick_draws g (N + 42) 3 _ (by omega) (by omega) (by omega) (by exact hc6.alloc _)).mono ?_
    rintro e w7 ⟨z, rfl, hz0, hz1, hc7, ho7⟩
    obtain ⟨k, rfl⟩ := Int.eq_ofNat_of_zero_le hz0
    have hrow := ho7.row hc6.lt k
    obtain ⟨t, hv, ht0, ht1⟩ : ∃ v : Int, w7.cell? ⟨w6.heap.size, k, none⟩ = some (.int .i64 v) ∧ -9223372036854775808 ≤ v ∧ v ≤ 9223372036854775807 := by
      rw [hrow]
      match k, (show k < 3 by omega) with
      | 0, _ => exact ⟨_, rfl, by omega, by omega⟩
      | 1, _ => exact ⟨_, rfl, by omega, by omega⟩
      | 2, _ => exact ⟨_, rfl, by omega, by omega⟩
    clear hrow
    have bR := (bR.below hal6).only ho7 (by omega)
    have bE := (bE.below hal6).only ho7 (by omega)
    have hown7 := (hown6.below hal6).only ho7 (by omega)
    have ho7 := ho6.trans ho7.of_alloc
    have r0 := bR.c0
    have r1 := bR.c1
    have r2 := bR.c2
    have g0 := bR.f 0
    have g1 := bR.f 1
    have g2 := bR.f 2
    have e0 := bE.c0
    have e1 := bE.c1
    have e2 := bE.c2
    have f0 := bE.f 0
    have f1 := bE.f 1
    have f2 := bE.f 2
    have hlt := bR.lt
    have hlt2 := bE.lt
    have HO := Lib.hid hown7
    clear hown7 hown6
    go_wp2
    refine bodyPost_ret (v := .agg #[.int .i64 a, .int .i64 t, .slice A1 p.length c1]) (by simp [results, Try.results65, go_sem, r0, r1, r2]) rfl ?_
    have hA : ∀ k ∈ (Value.slice A1 p.length c1).ownBlock.toList, w.heap.size ≠ k := fun k hk => by have h1 := HRG.out k hk; omega
    have hB : ∀ k ∈ (Value.slice A1 p.length c1).ownBlock.toList, w5.heap.size ≠ k := fun k hk => by have h1 := HRG.out k hk; omega
    exact ⟨a, t, .slice A1 p.length c1, p, rfl, ⟨by omega, by omega⟩, ⟨by omega, by omega⟩, (ownSet9 (ownSet9 (ownSet9 (ownSet9 HO.out hB 1 _) hA 0 _) hA 1 _) hA 2 _).mono (by omega), by omega,
      ((((hc7.setNew (b := w5.heap.size) (by omega) 1 _).setNew (b := w.heap.size) (by omega) 0 _).setNew (b := w.heap.size) (by omega) 1 _).setNew (b := w.heap.size) (by omega) 2 _).mono (by omega),
      (((ho7.setNew (b := w5.heap.size) (by omega) 1 _).setNew (Nat.le_refl _) 0 _).setNew (Nat.le_refl _) 1 _).setNew (Nat.le_refl _) 2 _⟩
  by_cases q2 : x = 2
  · subst q2
    clear r0 r1 r2 g0 g1 g2 e0 e1 e2 hlt hlt2
    go_wp2_with fail
    refine (pick_any g (N + 40) 2 _ (by omega) (by omega) (by exact hc2)).mono ?_
    rintro e w6 ⟨y, rfl, hy0, hy1, hc6, ho6⟩
    have bR := bR.only ho6 (by omega)
    have bE := bE.only ho6 (by omega)
    have ho6 := ho2.trans ho6
    obtain ⟨n, hn⟩ : ∃ n : Nat, 400 + y = (n : Int) := ⟨(400 + y).toNat, by omega⟩
    have hn4 : n ≤ 402 := by omega
    have hmk : ∀ W, (Instr.makeSlice 22 (.int .i64 (400 + y)) (.int .i64 (400 + y))).run Try.prog W = .ok (.slice (some ⟨W.heap.size, 0, none⟩) n n) (W.alloc (.cells (madeCells #[.int .u8 0] n) 5)) := fun W => by
      rw [hn]
      have := run_mk (P := Try.prog) 22 5 (.int .u8 0) 1 1 Try.underlying22 Try.infoB n (by omega) (by omega) W
      rw [Nat.mul_one] at this
      exact this
    have t0 := bR.c0
    have t1 := bR.c1
    have t2 := bR.c2
    have s0 := bR.f 0
    have s1 := bR.f 1
    have s2 := bR.f 2
    have o0 := bE.c0
    have o1 := bE.c1
    have o2 := bE.c2
    have p2 := bE.f 2
    have hq1 := bE.lt
    have hq2 := bR.lt
    have hz4 := ho6.size
    have HN := Lib.hid hn
    clear hn
    go_wp2
    have bR5 := ((((EBox.mk (bR.blk.setFar (d := w5.heap.size) (by omega) 2 (.slice (some ⟨w6.heap.size, 0, none⟩) n n))).set0 a).set1 m).set2 (some ⟨w6.heap.size, 0, none⟩) n n).below ((Below.refl _ _).alloc (Nat.le_refl _) (.cells (madeCells #[.int .u8 0] n) 5))
    have u0 := bR5.c0
    have u1 := bR5.c1
    have u2 := bR5.c2
    refine bodyPost_ret (v := .agg #[.int .i64 a, .int .i64 m, .slice (some ⟨w6.heap.size, 0, none⟩) n n]) (by simp [results, Try.results65, go_sem, u0, u1, u2]) rfl ?_
    clear u0 u1 u2 bR5
    have hc5 := (((hc6.setNew (b := w5.heap.size) (by omega) 2 (.slice (some ⟨w6.heap.size, 0, none⟩) n n)).setNew (b := w.heap.size) (by omega) 0 (.int .i64 a)).setNew (b := w.heap.size) (by omega) 1 (.int .i64 m)).setNew (b := w.heap.size) (by omega) 2 (.slice (some ⟨w6.heap.size, 0, none⟩) n n)
    have ho5 := (((ho6.setNew (b := w5.heap.size) (by omega) 2 (.slice (some ⟨w6.heap.size, 0, none⟩) n n)).setNew (Nat.le_refl _) 0 (.int .i64 a)).setNew (Nat.le_refl _) 1 (.int .i64 m)).setNew (Nat.le_refl _) 2 (.slice (some ⟨w6.heap.size, 0, none⟩) n n)
    have hsz5 : ((((w6.setCell ⟨w5.heap.size, 2, none⟩ (.slice (some ⟨w6.heap.size, 0, none⟩) n n)).setCell ⟨w.heap.size, 0, none⟩ (.int .i64 a)).setCell ⟨w.heap.size, 1, none⟩ (.int .i64 m)).setCell ⟨w.heap.size, 2, none⟩ (.slice (some ⟨w6.heap.size, 0, none⟩) n n)).heap.size = w6.heap.size := by simp
    generalize (((w6.setCell ⟨w5.heap.size, 2, none⟩ (.slice (some ⟨w6.heap.size, 0, none⟩) n n)).setCell ⟨w.heap.size, 0, none⟩ (.int .i64 a)).setCell ⟨w.heap.size, 1, none⟩ (.int .i64 m)).setCell ⟨w.heap.size, 2, none⟩ (.slice (some ⟨w6.heap.size, 0, none⟩) n n) = W5 at *
    have hown5 := own_zeros W5 n (by omega)
    rw [hsz5] at hown5
    exact ⟨a, m, .slice (some ⟨w6.heap.size, 0, none⟩) n n, List.replicate n 0, rfl, ⟨by omega, by omega⟩, ⟨by omega, by omega⟩, hown5.mono (by omega), by rw [List.length_replicate]; omega, (hc5.alloc _).mono (by omega), ho5.trans (Only.of_below ((Below.refl _ _).alloc (Nat.le_refl _) _))⟩
  have b0 : (x == 0) = false := by simpa using q0
  have b1 : (x == 1) = false := by simpa using q1
  have b2 : (x == 2) = false := by simpa using q2
  go_wp2
  refine bodyPost_ret (v := .agg #[.int .i64 a, .int .i64 m, .slice A1 p.length c1]) (by simp [results, Try.results65, go_sem, r0, r1, r2]) rfl ?_
  have hA : ∀ k ∈ (Value.slice A1 p.length c1).ownBlock.toList, w.heap.size ≠ k := fun k hk => by have h1 := HRG.out k hk; omega
  exact ⟨a, m, .slice A1 p.length c1, p, rfl, ⟨by omega, by omega⟩, ⟨by omega, by omega⟩, (ownSet9 (ownSet9 (ownSet9 hown2 hA 0 _) hA 1 _) hA 2 _).mono (by omega), by omega,
    (((hc2.setNew (b := w.heap.size) (by omega) 0 _).setNew (b := w.heap.size) (by omega) 1 _).setNew (b := w.heap.size) (by omega) 2 _).mono (by omega),
    ((ho2.setNew (Nat.le_refl _) 0 _).setNew (Nat.le_refl _) 1 _).setNew (Nat.le_refl _) 2 _⟩

set_option maxHeartbeats 4000000 in
theorem spot_any (g N : Nat) (w : World) (hN : N ≤ 10000000) (h : Cur w g N) :
    Calls Try.prog 66 #[.pointer (some ⟨g, 0, none⟩)] w (Draws g (N + 6) (-9223372036854775808) 9223372036854775807 w) := by
  have hcur := h
  go_enter Try.func66, Try.ntmps66
  go_wp2_with fail
  refine (pick_draws g N _ _ (by omega) (by omega) (by omega) (by exact hcur)).mono ?_
  rintro e w1 ⟨x, rfl, hx0, hx1, hc1, ho1⟩
  go_wp2_with fail
  refine (pick_draws g (N + 1) _ _ (by omega) (by omega) (by omega) (by exact hc1)).mono ?_
  rintro e w2 ⟨y, rfl, hy0, hy1, hc2, ho2⟩
  have ho2 := ho1.trans ho2
  go_wp2_with fail
  refine (pick_draws g (N + 2) _ _ (by omega) (by omega) (by omega) (by exact hc2)).mono ?_
  rintro e w5 ⟨u, rfl, hu0, hu1, hc5, ho5⟩
  have ho5 := ho2.trans ho5
  go_wp2_with fail
  refine (raw_any g (N + 3) _ (by omega) (by exact hc5)).mono ?_
  rintro e w3 ⟨r, rfl, hr0, hr1, hc3, ho3⟩
  have ho3 := ho5.trans ho3
  go_wp2_with fail
  refine (pick_draws g (N + 5) _ _ (by omega) (by omega) (by omega) (by exact hc3.alloc _)).mono ?_
  rintro e w4 ⟨z, rfl, hz0, hz1, hc4, ho4⟩
  obtain ⟨k, rfl⟩ := Int.eq_ofNat_of_zero_le hz0
  have hrow := ho4.row hc3.lt k
  obtain ⟨v, hv, v1, v2⟩ : ∃ v : Int, w4.cell? ⟨w3.heap.size, k, none⟩ = some (.int .i64 v) ∧ -9223372036854775808 ≤ v ∧ v ≤ 9223372036854775807 := by
    rw [hrow]
    match k, (show k < 6 by omega) with
    | 0, _ => exact ⟨_, rfl, by omega, by omega⟩
    | 1, _ => exact ⟨_, rfl, by omega, by omega⟩
    | 2, _ => exact ⟨_, rfl, by omega, by omega⟩
    | 3, _ => exact ⟨_, rfl, by omega, by omega⟩
    | 4, _ => exact ⟨_, rfl, by omega, by omega⟩
    | 5, _ => exact ⟨_, rfl, by omega, by omega⟩
  clear hrow
  have ho5 := ho3.trans ho4.of_alloc
  go_wp2
  go_ret
  exact ⟨v, rfl, v1, v2, hc4, ho5⟩
end Go.Proofs.Ytoaimklllmelpaa

namespace Go.Proofs.Ytoaimklllmelpaa
open Go.RowKit P
set_option linter.unusedVariables false
set_option linter.unusedSimpArgs false
set_option maxRecDepth 100000

set_option maxHeartbeats 8000000 in
theorem drawEditDo_any (A : Option Addr) (l : List UInt8) (c : Nat) (w : World) (hl : l.length ≤ 1048576) (hA : Bs w A l) :
    Calls Try.prog 42 #[.slice A l.length c] w (DrawsTE w) := by
  have hal := (Below.refl w.heap.size w).alloc (Nat.le_refl _) (.cells #[.int .i64 0, .int .i64 0, .slice none 0 0] 27)
  have bR := EBox.new w 0 0 none 0 0
  have hA0 := hA.below hal
  have hz0 : (w.alloc (.cells #[.int .i64 0, .int .i64 0, .slice none 0 0] 27)).heap.size = w.heap.size + 1 := by simp
  go_enter Try.func42, Try.ntmps42
  go_wp2_with fail
  generalize w.alloc (.cells #[.int .i64 0, .int .i64 0, .slice none 0 0] 27) = W0 at *
  refine (l01Open_any A l c _ hl (by exact hA0)).mono ?_
  rintro e w1 ⟨rfl, hc0, hb0⟩
  obtain ⟨g, hg⟩ : ∃ g, W0.heap.size = g := ⟨_, rfl⟩
  rw [hg] at hc0 hz0 ⊢
  have hwg : w.heap.size < g := by omega
  have bR1 := bR.below hb0
  have hb1 := hal.trans (hb0.mono (by omega))
  have hs0 := hb0.size
  have hgl := hc0.lt
  have hs1 : w.heap.size + 1 ≤ w1.heap.size := by omega
  clear hA0 hal bR hz0 hg
  go_wp2_with fail
  refine (text_any g 0 40 _ (by omega) (by omega) (by exact hc0)).mono ?_
  rintro e w2 ⟨v2, t, rfl, hown2, ht, hc2, ho2⟩
  obtain ⟨A2, c2, rfl, hlc2, hcm2, hB2, hp1, hp2⟩ := own_plain9 hown2
  have bR2 := bR1.only ho2 (by omega)
  have hb2 := hb1.trans (ho2.below w.heap.size (by omega) (by omega))
  clear hc0 hb0 bR1 hb1
  go_wp2_with fail
  refine (once_any g (0 + 1 + 3 * 40) 12 _ (by omega) (by omega) (by omega) (by exact hc2)).mono ?_
  rintro e w9 ⟨bb, rfl, hc9, ho9⟩
  have bR2 := bR2.only ho9 (by omega)
  have hown2 := hown2.only ho9 (by omega)
  have hB2 : Bs w9 A2 t := by
    obtain ⟨_, _, e9, _, _, hB⟩ := hown2.form
    cases e9
    exact hB
  have hs2 := ho2.size
  have hs9 := ho9.size
  have hb2 := hb2.trans (ho9.below w.heap.size (by omega) (by omega))
  clear hc2 ho2 ho9
  cases bb
  · go_wp2_with fail
    refine (badEdit_any g (0 + 1 + 3 * 40 + 1) A2 t c2 _ (by omega) (by omega) hlc2 hcm2 (by exact hc9) (by exact hB2)).mono ?_
    rintro e w3 ⟨a, m, v3, p, rfl, ha, hm, hown3, hp5, hc3, ho3⟩
    obtain ⟨A3, c3, rfl, hlc3, hcm3, hB3, hq1, hq2⟩ := own_plain9 hown3
    have bR3 := bR2.only ho3 (by omega)
    have hown2 := hown2.only ho3 (by omega)
    have hs3 := ho3.size
    have hb3 := hb2.trans (ho3.below w.heap.size (by omega) (by omega))
    have r0 := bR3.c0
    have r1 := bR3.c1
    have r2 := bR3.c2
    have g0 := bR3.f 0
    have g1 := bR3.f 1
    have g2 := bR3.f 2
    have hlt := bR3.lt
    go_wp2
    refine bodyPost_ret (v := .tuple #[.slice A2 t.length c2, .agg #[.int .i64 a, .int .i64 m, .slice A3 p.length c3]]) (by simp [results, Try.results42, go_sem, r0, r1, r2]) rfl ?_
    have h9 : ∀ (W : World) (B : Nat) (v : Value) (l : List UInt8) (i : Nat) (u : Value), w.heap.size < B → Own W B v l → Own (W.setCell ⟨w.heap.size, i, none⟩ u) B v l := fun W B v l i u hb h => h.setBelow (by simpa using hb) u
    have o2 := h9 _ _ _ _ 2 (.slice A3 p.length c3) (by omega) (h9 _ _ _ _ 1 (.int .i64 m) (by omega) (h9 _ _ _ _ 0 (.int .i64 a) (by omega) hown2))
    have o3 := h9 _ _ _ _ 2 (.slice A3 p.length c3) (by omega) (h9 _ _ _ _ 1 (.int .i64 m) (by omega) (h9 _ _ _ _ 0 (.int .i64 a) (by omega) hown3))
    refine ⟨A2, t, c2, a, m, A3, p, c3, rfl, by omega, hlc2, hcm2, by unfold Pl; exact ⟨hp1, hp2⟩, ?_, ha, hm, hp5, hlc3, hcm3, by unfold Pl; exact ⟨hq1, hq2⟩, ?_, ((hb3.setCell (Nat.le_refl _) _).setCell (Nat.le_refl _) _).setCell (Nat.le_refl _) _⟩
    · obtain ⟨_, _, e9, _, _, hB⟩ := o2.form
      cases e9
      exact hB
    · obtain ⟨_, _, e9, _, _, hB⟩ := o3.form
      cases e9
      exact hB
  · go_wp2_with fail
    refine (badText_any g (0 + 1 + 3 * 40 + 1) 40 _ (by omega) (by omega) (by exact hc9)).mono ?_
    rintro e w8 ⟨v8, t8, rfl, hown8, ht8, hc8, ho8⟩
    obtain ⟨A8, c8, rfl, hlc8, hcm8, _, hp18, hp28⟩ := own_plain9 hown8
    have bR2 := bR2.only ho8 (by omega)
    have hown2 := hown2.only ho8 (by omega)
    have hB2 : Bs w8 A2 t := by
      obtain ⟨_, _, e9, _, _, hB⟩ := hown2.form
      cases e9
      exact hB
    have hs8 := ho8.size
    have hb2 := hb2.trans (ho8.below w.heap.size (by omega) (by omega))
    clear hc9 ho8
    go_wp2_with fail
    refine (edit_any g (0 + 1 + 3 * 40 + 1 + 5 + 3 * 40) A2 t c2 _ (by omega) hlc2 hcm2 (by exact hc8) (by exact hB2)).mono ?_
    rintro e w3 ⟨a, m, v3, p, rfl, ha, hm, hown3, hp5, hc3, ho3⟩
    obtain ⟨A3, c3, rfl, hlc3, hcm3, hB3, hq1, hq2⟩ := own_plain9 hown3
    have bR3 := bR2.only ho3 (by omega)
    have hown8 := hown8.only ho3 (by omega)
    have hs3 := ho3.size
    have hb3 := hb2.trans (ho3.below w.heap.size (by omega) (by omega))
    have r0 := bR3.c0
    have r1 := bR3.c1
    have r2 := bR3.c2
    have g0 := bR3.f 0
    have g1 := bR3.f 1
    have g2 := bR3.f 2
    have hlt := bR3.lt
    go_wp2
    refine bodyPost_ret (v := .tuple #[.slice A8 t8.length c8, .agg #[.int .i64 a, .int .i64 m, .slice A3 p.length c3]]) (by simp [results, Try.results42, go_sem, r0, r1, r2]) rfl ?_
    have h9 : ∀ (W : World) (B : Nat) (v : Value) (l : List UInt8) (i : Nat) (u : Value), w.heap.size < B → Own W B v l → Own (W.setCell ⟨w.heap.size, i, none⟩ u) B v l := fun W B v l i u hb h => h.setBelow (by simpa using hb) u
    have o2 := h9 _ _ _ _ 2 (.slice A3 p.length c3) (by omega) (h9 _ _ _ _ 1 (.int .i64 m) (by omega) (h9 _ _ _ _ 0 (.int .i64 a) (by omega) hown8))
    have o3 := h9 _ _ _ _ 2 (.slice A3 p.length c3) (by omega) (h9 _ _ _ _ 1 (.int .i64 m) (by omega) (h9 _ _ _ _ 0 (.int .i64 a) (by omega) hown3))
    refine ⟨A8, t8, c8, a, m, A3, p, c3, rfl, by omega, hlc8, hcm8, by unfold Pl; exact ⟨hp18, hp28⟩, ?_, ha, hm, hp5, hlc3, hcm3, by unfold Pl; exact ⟨hq1, hq2⟩, ?_, ((hb3.setCell (Nat.le_refl _) _).setCell (Nat.le_refl _) _).setCell (Nat.le_refl _) _⟩
    · obtain ⟨_, _, e9, _, _, hB⟩ := o2.form
      cases e9
      exact hB
    · obtain ⟨_, _, e9, _, _, hB⟩ := o3.form
      cases e9
      exact hB
end Go.Proofs.Ytoaimklllmelpaa

namespace Go.Proofs.Ytoaimklllmelpaa
open Go.RowKit P
set_option linter.unusedVariables false
set_option linter.unusedSimpArgs false
set_option maxRecDepth 100000

set_option maxHeartbeats 1000000 in
/-- The second half of the code. -/
theorem rest_any (A : Option Addr) (l : List UInt8) (c : Nat) (w : World) (hl : l.length ≤ c) (hc9 : c ≤ 9223372036854775807) (hN : A = none → c = 0) (hB : Bs w A l) :
    Calls Try.prog 45 #[.slice A l.length c] w fun e w' => (∃ (A' : Option Addr) (c' : Nat) (l' : List UInt8), e = .returned (.slice A' l'.length c') ∧ l'.length ≤ l.length ∧ Bs w A' l') ∧ w' = w := by
  by_cases h0 : l.length = 0
  · have hz : ∀ W, (Go.sizeOf 5).run Try.prog W = .ok 1 W := fun W => by kernel_rfl
    have ht' : Try.prog.underlying 22 = some (.slice (Try.prog.elem 22)) := by simp [Program.elem, Try.underlying22]
    have he : Try.prog.elem 22 = 5 := by simp [Program.elem, Try.underlying22]
    have hd : (l.length : Int) / 2 = 0 := by omega
    obtain ⟨A', c', hs⟩ : ∃ A' c', ∀ W, (Instr.slice 22 (.slice A l.length c) (some (.int .i64 ((l.length : Int) / 2))) none none).run Try.prog W = .ok (.slice A' l.length c') W := by
      rw [hd, h0]
      cases A with
      | none =>
        have hc0 := hN rfl
        subst hc0
        refine ⟨none, 0, fun W => ?_⟩
        rw [run_slice_l W 22 _ _ _ ht' .i64 _ (by omega) (by omega), he, hz]
        simp [Result.andThen, sliced]
      | some x =>
        by_cases hc0 : c = 0
        · subst hc0
          refine ⟨some x, 0, fun W => ?_⟩
          rw [run_slice_l W 22 _ _ _ ht' .i64 _ (by omega) (by omega), he, hz]
          simp [Result.andThen, sliced]
        · refine ⟨some (x.add 0), c, fun W => ?_⟩
          rw [run_slice_l W 22 _ _ _ ht' .i64 _ (by omega) (by omega), he, hz]
          simp [Result.andThen, sliced, hc0]
    have hB0 : Bs w A' l := fun k hk => by omega
    clear hN hB h0 hz ht' he hd
    go_enter Try.func45, Try.ntmps45
    go_wp2
    go_ret
    exact ⟨⟨A', c', l, rfl, Nat.le_refl _, hB0⟩, rfl⟩
  · obtain ⟨bb, off, hA, _, _⟩ := hB 0 (by omega)
    subst hA
    have hB2 := Bs.sub hB (l.length / 2) (l.length - l.length / 2)
    have hlen : ((l.drop (l.length / 2)).take (l.length - l.length / 2)).length = l.length - l.length / 2 := by rw [List.length_take, List.length_drop]; omega
    go_enter Try.func45, Try.ntmps45
    go_wp2
    go_ret
    exact ⟨⟨_, _, (l.drop (l.length / 2)).take (l.length - l.length / 2), by rw [hlen]; rfl, by omega, hB2⟩, rfl⟩
end Go.Proofs.Ytoaimklllmelpaa
