/-
  The draws' cursor: texts with faults, and the draws of chapter 1: contracts. Own work.
-/
import Derived.Test.YtpgeanombiociaaDoorCur4
import Derived.Test.YtpgeanombiociaaDoorMark
namespace Go.Proofs.YtpgeanombiociaaDoor
open Go.RowKit P
set_option linter.unusedVariables false

theorem Only.setOwn {g base gb i : Nat} {a w : World} (h : Only g a w) (hb : base ≤ gb) (ha : a.heap.size ≤ base) (u : Value) : Only g a (w.setCell ⟨gb, i, none⟩ u) :=
  ⟨h.os, h.tape, h.output, by simpa [World.setCell] using h.size, fun k hk hne => (Below.heap_setCell w ⟨gb, i, none⟩ u k (fun e => by simp at e; omega)).trans (h.block k hk hne)⟩

theorem Cur.setOwn {g N gb i : Nat} {w : World} (h : Cur w g N) (hb : g < gb) (u : Value) : Cur (w.setCell ⟨gb, i, none⟩ u) g N :=
  h.keep (fun k hk => Below.heap_setCell w ⟨gb, i, none⟩ u k (fun e => by simp at e; omega)) (by simp [World.setCell])

set_option maxRecDepth 100000 in
set_option maxHeartbeats 4000000 in
theorem badText_any (g N n : Nat) (w : World) (hn : n ≤ 400) (hN : N ≤ 10000) (h : Cur w g N) :
    Calls Tryd.prog 60 #[.pointer (some ⟨g, 0, none⟩), .int .i64 n] w (DrawsB g (N + 5 + 3 * n) 401 w) := by
  have hglt := h.lt
  go_enter Tryd.func60, Tryd.ntmps60
  go_wp2_with fail
  refine (text_any g N n _ (by omega) (by omega) (by exact h)).mono ?_
  rintro e w1 ⟨v, L, rfl, hown1, hL, hc1, ho1⟩
  go_wp2_with fail
  obtain ⟨M, hM⟩ : ∃ M, N + 1 + 3 * n = M := ⟨_, rfl⟩
  rw [hM] at hc1
  have hM1 : M ≤ 20000 := by omega
  have HM := Lib.hid hM
  clear hM
  refine (pick_draws g M _ _ (by omega) (by omega) (by omega) (by exact hc1)).mono ?_
  rintro e w2 ⟨x, rfl, hx0, hx1, hc2, ho2⟩
  have hown2 := hown1.only ho2 hglt
  have ho2 := ho1.trans ho2
  have hs2 := ho2.size
  clear hown1 hc1 ho1
  by_cases h0 : x = 0
  · subst h0
    by_cases hl0 : 0 < L.length
    · rcases hown2.2 with ⟨_, h0⟩ | ⟨gb, cap, cur, rfl, hb, hh, hnc, hcm, hcs, htk⟩
      · omega
      · have hli : (0 : Int) < (L.length : Int) := by omega
        clear hh hcs htk
        by_cases hmin : (256 : Int) ≤ (L.length : Int)
        all_goals
          go_wp2_with fail
          refine (pick_draws g (M + 1) _ _ (by omega) (by omega) (by omega) (by exact hc2)).mono ?_
          rintro e w3 ⟨i, rfl, hi0, hi1, hc3, ho3⟩
          have hown3 := hown2.only ho3 hglt
          have ho3 := ho2.trans ho3
          go_wp2_with fail
          refine (pick_draws g (M + 1 + 1) _ _ (by omega) (by omega) (by omega) (by exact hc3)).mono ?_
          rintro e w4 ⟨y, rfl, hy0, hy1, hc4, ho4⟩
          have hown4 := hown3.only ho4 hglt
          have ho4 := ho3.trans ho4
          go_wp2_with fail
          refine (pick_draws g (M + 1 + 1 + 1) _ _ (by omega) (by omega) (by omega) (by exact hc4.alloc _)).mono ?_
          rintro e w5 ⟨z, rfl, hz0, hz1, hc5, ho5⟩
          have hown5 := (hown4.below ((Below.refl _ _).alloc (Nat.le_refl _) _)).only ho5 hglt
          obtain ⟨k, rfl⟩ := Int.eq_ofNat_of_zero_le hz0
          obtain ⟨ii, rfl⟩ := Int.eq_ofNat_of_zero_le hi0
          have hrow := ho5.row hc4.lt k
          obtain ⟨v, hv, v1, v2⟩ : ∃ v : Int, w5.cell? ⟨w4.heap.size, k, none⟩ = some (.int .i64 v) ∧ 0 ≤ v ∧ v ≤ 255 := by
            rw [hrow]
            match k, (show k < 10 by omega) with
            | 0, _ => exact ⟨_, rfl, by omega, by omega⟩
            | 1, _ => exact ⟨_, rfl, by omega, by omega⟩
            | 2, _ => exact ⟨_, rfl, by omega, by omega⟩
            | 3, _ => exact ⟨_, rfl, by omega, by omega⟩
            | 4, _ => exact ⟨_, rfl, by omega, by omega⟩
            | 5, _ => exact ⟨_, rfl, by omega, by omega⟩
            | 6, _ => exact ⟨_, rfl, by omega, by omega⟩
            | 7, _ => exact ⟨_, rfl, by omega, by omega⟩
            | 8, _ => exact ⟨_, rfl, by omega, by omega⟩
            | 9, _ => exact ⟨_, rfl, by omega, by omega⟩
          clear hrow
          have ho6 := ho4.trans ho5.of_alloc
          have hiL : ii < L.length := by omega
          have hset := Own.set hown5 ii hiL (u8 v)
          rw [bV_u8 v v1 (by omega)] at hset
          have hcell : ∃ u, w5.cell? ⟨gb, ii, none⟩ = some u := by
            obtain ⟨A, c, hv, _, _, hB⟩ := hown5.form
            obtain ⟨b', off', e, _, hc⟩ := hB ii hiL
            cases hv
            cases e
            exact ⟨_, by simpa using hc⟩
          obtain ⟨u, hu⟩ := hcell
          have hfz : w5.frozen? ⟨gb, ii, none⟩ = false := by
            rcases hown5.2 with ⟨h3, _⟩ | ⟨g', cap', cur', hv, _, hh, _⟩
            · cases h3
            · cases hv; simp [World.frozen?, hh]
          have hgb : g < gb := by omega
          have hc6 := hc5.setOwn (i := ii) hgb (.int .u8 v)
          have ho7 := ho6.setOwn (i := ii) hb (Nat.le_refl _) (.int .u8 v)
          clear hown5 hown4 hown3 hown2 hc5 hc4 hc3 hc2 ho6 ho5 ho4 ho3 ho2
          go_wp2
          go_ret
          exact ⟨_, L.set ii (u8 v), rfl, by unfold Own at hset ⊢; rw [List.length_set] at hset ⊢; exact hset, by rw [List.length_set]; omega, hc6.mono (by have := HM.out; omega), ho7⟩
    · have hli : ¬ (0 : Int) < (L.length : Int) := by omega
      obtain ⟨A, c, rfl, _, _, _⟩ := hown2.form
      go_wp2
      go_ret
      exact ⟨_, L, rfl, hown2, by omega, hc2.mono (by have := HM.out; omega), ho2⟩
  · have hx0' : (x == 0) = false := by simp [h0]
    by_cases h1 : x = 1
    · subst h1
      go_wp2_with fail
      refine (pick_draws g (M + 1) _ _ (by omega) (by omega) (by omega) (by exact hc2.alloc _)).mono ?_
      rintro e w3 ⟨i, rfl, hi0, hi1, hc3, ho3⟩
      obtain ⟨k, rfl⟩ := Int.eq_ofNat_of_zero_le hi0
      have hrow := ho3.row hc2.lt k
      have hown3 := (hown2.below ((Below.refl _ _).alloc (Nat.le_refl _) _)).only ho3 hglt
      have ho3 := ho2.trans ho3.of_alloc
      obtain ⟨v', hv, v1, v2⟩ : ∃ v : Int, w3.cell? ⟨w2.heap.size, k, none⟩ = some (.int .u8 v) ∧ 0 ≤ v ∧ v ≤ 255 := by
        rw [hrow]
        match k, (show k < 3 by omega) with
        | 0, _ => exact ⟨_, rfl, by omega, by omega⟩
        | 1, _ => exact ⟨_, rfl, by omega, by omega⟩
        | 2, _ => exact ⟨_, rfl, by omega, by omega⟩
      clear hrow
      have hs3 := ho3.size
      have hnew : Bs (w3.alloc (.cells #[.int .u8 v'] 5)) (some ⟨w3.heap.size, 0, none⟩) [u8 v'] := by
        have := Own.new w3 [u8 v'] (by unfold maxLen; simp)
        obtain ⟨A', c', e', _, _, hB'⟩ := this.form
        cases e'
        simpa [bV_u8 v' v1 (by omega)] using hB'
      have hown4 := hown3.below ((Below.refl _ _).alloc (Nat.le_refl _) (.cells #[.int .u8 v'] 5))
      have hc4 := hc3.alloc (.cells #[.int .u8 v'] 5)
      have ho4 := ho3.trans (Only.of_below ((Below.refl _ _).alloc (Nat.le_refl _) (.cells #[.int .u8 v'] 5)))
      go_wp2_with (at_builtin; go_must (refine wpList_app_bytes rfl _ _ rfl w.heap.size _ L [u8 v'] _ _ 1 rfl rfl rfl hown4 hnew ?c1 ?c2 ?_))
      case c1 => simp; omega
      case c2 => simp; omega
      intro v5 w5 hown5 hg5 _
      have hc5 := hc4.grown hown4 hg5 hglt
      have ho5 := ho4.grown hown4 hg5 (Nat.le_refl _)
      clear hown4 hown3 hown2 hc4 hc3 hc2 ho4 ho3 ho2 hnew hg5
      go_wp2
      go_ret
      exact ⟨_, _, rfl, hown5, by simp; omega, hc5.mono (by have := HM.out; omega), ho5⟩
    · have hx1' : (x == 1) = false := by simp [h1]
      by_cases h2 : x = 2
      · subst h2
        go_wp2_with fail
        refine (once_any g (M + 1) _ _ (by omega) (by omega) (by omega) (by exact hc2)).mono ?_
        rintro e w3 ⟨bb, rfl, hc3, ho3⟩
        have hown3 := hown2.only ho3 hglt
        have ho3 := ho2.trans ho3
        cases bb
        · go_wp2
          go_ret
          exact ⟨_, L, rfl, hown3, by omega, hc3.mono (by have := HM.out; omega), ho3⟩
        · go_wp2_with fail
          refine (pick_draws g (M + 1 + 1) _ _ (by omega) (by omega) (by omega) (by exact hc3)).mono ?_
          rintro e w4 ⟨i, rfl, hi0, hi1, hc4, ho4⟩
          have ho4 := ho3.trans ho4
          obtain ⟨k, rfl⟩ := Int.eq_ofNat_of_zero_le hi0
          have hmk : ∀ W, (Instr.makeSlice 22 (.int .i64 (400 + (k : Int))) (.int .i64 (400 + (k : Int)))).run Tryd.prog W = .ok (.slice (some ⟨W.heap.size, 0, none⟩) (400 + k) (400 + k)) (W.alloc (.cells (madeCells #[.int .u8 0] (400 + k)) 5)) := fun W => by
            have := run_make_row' (P := Tryd.prog) 22 5 (.int .u8 0) 1 Tryd.underlying22 Tryd.infoB rfl .i64 .i64 (400 + k) (by omega) (by omega) W
            simpa using this
          have hsz := ho4.size
          have hrow : Row (w4.alloc (.cells (madeCells #[.int .u8 0] (400 + k)) 5)) w4.heap.size (List.replicate (400 + k) 0) := by
            unfold Row
            rw [List.length_replicate]
            refine (World.rowIs_made w4 (.int .u8 0) (400 + k) 5).congr (fun i hi => ?_)
            simp [List.getD, hi]
          have hown5 := Row.own hrow w.heap.size hsz (by unfold maxLen; simp; omega)
          rw [List.length_replicate] at hown5
          go_wp2
          go_ret
          exact ⟨_, _, rfl, hown5, by simp; omega, (hc4.alloc _).mono (by have := HM.out; omega), ho4.trans (Only.of_below ((Below.refl _ _).alloc (Nat.le_refl _) _))⟩
      · have hx2' : (x == 2) = false := by simp [h2]
        go_wp2
        go_ret
        exact ⟨_, L, rfl, hown2, by omega, hc2.mono (by have := HM.out; omega), ho2⟩
/-- What a draw of bytes and a place ends in. -/
def DrawsP (w : World) (e : Ending) (w' : World) : Prop :=
  ∃ v l a, e = .returned (.tuple #[v, .int .i64 a]) ∧ Own w' w.heap.size v l ∧ l.length ≤ 401 ∧ -9223372036854775808 ≤ a ∧ a ≤ 9223372036854775807 ∧ Below w.heap.size w w'

set_option maxHeartbeats 1000000 in
theorem drawRuneAt_any (A : Option Addr) (l : List UInt8) (c : Nat) (w : World) (hl : l.length ≤ 1048576) (hA : Bs w A l) :
    Calls Tryd.prog 19 #[.slice A l.length c] w (DrawsP w) := by
  go_enter Tryd.func19, Tryd.ntmps19
  go_wp2_with fail
  refine (l01Open_any A l c _ hl (by exact hA)).mono ?_
  rintro e w1 ⟨rfl, hc0, hb0⟩
  go_wp2_with fail
  refine (badText_any w.heap.size 0 30 _ (by omega) (by omega) (by exact hc0)).mono ?_
  rintro e w2 ⟨v, L, rfl, hown, hL, hc1, ho1⟩
  have hs := hb0.size
  have hb2 : Below w.heap.size w w2 := hb0.trans (ho1.below _ (Nat.le_refl _) hs)
  have hown' := hown.mono (base' := w.heap.size) hs
  obtain ⟨A2, c2, rfl, _, _, _⟩ := hown.form
  by_cases hm : (200 : Int) ≤ (L.length : Int)
  all_goals
    go_wp2_with fail
    refine (place_any w.heap.size (0 + 5 + 3 * 30) _ _ (by omega) (by omega) (by omega) (by exact hc1)).mono ?_
    rintro e w3 ⟨x, rfl, hx0, hx1, hc3, ho3⟩
    have hown3 : Own w3 w.heap.size (.slice A2 L.length c2) L := (Own.only (g := w.heap.size) hown ho3 (by have := hc0.lt; omega)).mono hs
    have hb3 : Below w.heap.size w w3 := hb2.trans (ho3.below _ (Nat.le_refl _) hb2.size)
    go_wp2
    go_ret2
    exact ⟨_, L, x, rfl, hown3, hL, hx0, hx1, hb3⟩

set_option maxHeartbeats 400000 in
theorem big_any (A : Option Addr) (n c : Nat) (w : World) : Calls Tryd.prog 12 #[.slice A n c] w fun e w' => e = .returned (.bool (decide (1048576 < n))) ∧ w' = w := by
  go_enter Tryd.func12, Tryd.ntmps12
  go_wp2
  go_ret
  exact ⟨ret_bool (by rw [Bool.eq_iff_iff]; simp; omega), rfl⟩

end Go.Proofs.YtpgeanombiociaaDoor
