/-
  The draws' cursor, its smaller methods: contracts. Own work.
-/
import Derived.Test.YtpgeanombiociaaDoorCur
namespace Go.Proofs.YtpgeanombiociaaDoor
open Go.RowKit P
set_option linter.unusedVariables false

/-- What a draw of a number from a to b ends in. -/
def Draws (g N : Nat) (a b : Int) (w : World) (e : Ending) (w' : World) : Prop := ∃ x : Int, e = .returned (.int .i64 x) ∧ a ≤ x ∧ x ≤ b ∧ Cur w' g N ∧ Only g w w'

theorem pick_draws (g N : Nat) (n : Int) (w : World) (h1 : 1 ≤ n) (hn : n ≤ 1000000000) (hN : N ≤ 1000000000000) (h : Cur w g N) :
    Calls Tryd.prog 55 #[.pointer (some ⟨g, 0, none⟩), .int .i64 n] w (Draws g (N + 1) 0 (n - 1) w) :=
  (pick_any g N n w hn hN h).mono fun e w' ⟨x, he, h0, h1', hc, ho⟩ => ⟨x, he, h0, by omega, hc, ho⟩

set_option maxHeartbeats 1000000 in
theorem size_any (g N : Nat) (n : Int) (w : World) (h0 : 0 ≤ n) (hn : n ≤ 1000) (hN : N ≤ 100000000000) (h : Cur w g N) :
    Calls Tryd.prog 83 #[.pointer (some ⟨g, 0, none⟩), .int .i64 n] w (Draws g (N + 1) 0 n w) := by
  have h' := h
  obtain ⟨A, l, c, at_, seed, hg, h1, h2, h3, h4, h5, h6, h7⟩ := h
  have c0 : w.cell? ⟨g, 0, none⟩ = some (.slice A l.length c) := by rw [cell_of_row w g 0 _ _ _ hg]; rfl
  clear hg h6 h7 h1 h2 h3 h4
  go_enter Tryd.func83, Tryd.ntmps83
  go_wp2_with (go_at_call 55; refine (pick_any g N _ _ (by omega) (by omega) (by exact h')).mono ?_; rintro e w1 ⟨x, rfl, hx0, hx1, hc, ho⟩)
  all_goals go_ret
  all_goals exact ⟨_, rfl, by assumption, by omega, by assumption, by assumption⟩

set_option maxHeartbeats 400000 in
theorem once_any (g N : Nat) (n : Int) (w : World) (h0 : 1 ≤ n) (hn : n ≤ 1000) (hN : N ≤ 100000000000) (h : Cur w g N) :
    Calls Tryd.prog 75 #[.pointer (some ⟨g, 0, none⟩), .int .i64 n] w fun e w' => ∃ b : Bool, e = .returned (.bool b) ∧ Cur w' g (N + 1) ∧ Only g w w' := by
  go_enter Tryd.func75, Tryd.ntmps75
  go_wp2_with fail
  refine (pick_any g N _ _ (by omega) (by omega) (by exact h)).mono ?_
  rintro e w1 ⟨x, rfl, hx0, hx1, hc, ho⟩
  go_wp2
  go_ret
  exact ⟨_, rfl, hc, ho⟩

set_option maxHeartbeats 1000000 in
theorem wide_any (g N : Nat) (n : Int) (w : World) (h0 : 1 ≤ n) (hn : n ≤ 100000000) (hN : N ≤ 100000000000) (h : Cur w g N) :
    Calls Tryd.prog 54 #[.pointer (some ⟨g, 0, none⟩), .int .i64 n] w (Draws g (N + 3) 0 (n - 1) w) := by
  go_enter Tryd.func54, Tryd.ntmps54
  go_wp2_with fail
  refine (pick_draws g N _ _ (by omega) (by omega) (by omega) (by exact h)).mono ?_
  rintro e w1 ⟨x, rfl, hx0, hx1, hc1, ho1⟩
  go_wp2_with fail
  refine (pick_draws g (N + 1) _ _ (by omega) (by omega) (by omega) (by exact hc1)).mono ?_
  rintro e w2 ⟨y, rfl, hy0, hy1, hc2, ho2⟩
  have ho2 := ho1.trans ho2
  go_wp2_with fail
  refine (pick_draws g (N + 2) _ _ (by omega) (by omega) (by omega) (by exact hc2)).mono ?_
  rintro e w3 ⟨z, rfl, hz0, hz1, hc3, ho3⟩
  have ho3 := ho2.trans ho3
  have hp : 0 ≤ 65536 * x + 256 * y + z := by omega
  have hq := Int.emod_nonneg (65536 * x + 256 * y + z) (show n ≠ 0 by omega)
  have hr := Int.emod_lt_of_pos (65536 * x + 256 * y + z) (show 0 < n by omega)
  go_wp2
  go_ret
  exact ⟨_, rfl, hq, by omega, hc3, ho3⟩

theorem Cur.lt {w : World} {g N : Nat} (h : Cur w g N) : g < w.heap.size := by
  obtain ⟨A, l, c, at_, seed, hg, _⟩ := h
  exact (Array.getElem?_eq_some_iff.1 hg).1

/-- A row that was laid ahead of a draw reads as it was laid. -/
theorem Only.row {w1 w2 : World} {g : Nat} {cs : Array Value} {t : TypeId} (ho : Only g (w1.alloc (.cells cs t)) w2) (hg : g < w1.heap.size) (k : Nat) : w2.cell? ⟨w1.heap.size, k, none⟩ = cs[k]? := by
  have h := ho.block w1.heap.size (by simp) (fun e => by injection e; omega)
  rw [heap_alloc_new] at h
  exact cell_of_row w2 _ k cs t (0, 0) h

theorem Only.of_alloc {w1 w2 : World} {g : Nat} {o : Obj} (ho : Only g (w1.alloc o) w2) : Only g w1 w2 :=
  (Only.of_below ((Below.refl _ _).alloc (Nat.le_refl _) o)).trans ho
theorem Cur.alloc {w : World} {g N : Nat} (h : Cur w g N) (o : Obj) : Cur (w.alloc o) g N := h.only_new ((Below.refl _ _).alloc (Nat.le_refl _) o)

set_option maxHeartbeats 2000000 in
theorem raw_any (g N : Nat) (w : World) (hN : N ≤ 100000000000) (h : Cur w g N) :
    Calls Tryd.prog 53 #[.pointer (some ⟨g, 0, none⟩)] w (Draws g (N + 2) (-9223372036854775808) 9223372036854775807 w) := by
  go_enter Tryd.func53, Tryd.ntmps53
  go_wp2_with fail
  refine (pick_draws g N _ _ (by omega) (by omega) (by omega) (by exact h)).mono ?_
  rintro e w1 ⟨x, rfl, hx0, hx1, hc1, ho1⟩
  by_cases hx2 : x = 1
  · subst hx2
    go_wp2_with fail
    refine (pick_draws g (N + 1) _ _ (by omega) (by omega) (by omega) (by exact hc1.alloc _)).mono ?_
    rintro e w2 ⟨y, rfl, hy0, hy1, hc2, ho2⟩
    obtain ⟨k, rfl⟩ := Int.eq_ofNat_of_zero_le hy0
    have hrow := ho2.row hc1.lt k
    obtain ⟨v, hv, v1, v2⟩ : ∃ v : Int, w2.cell? ⟨w1.heap.size, k, none⟩ = some (.int .i64 v) ∧ -9223372036854775808 ≤ v ∧ v ≤ 9223372036854775807 := by
      rw [hrow]
      match k, (show k < 8 by omega) with
      | 0, _ => exact ⟨_, rfl, by decide, by decide⟩
      | 1, _ => exact ⟨_, rfl, by decide, by decide⟩
      | 2, _ => exact ⟨_, rfl, by decide, by decide⟩
      | 3, _ => exact ⟨_, rfl, by decide, by decide⟩
      | 4, _ => exact ⟨_, rfl, by decide, by decide⟩
      | 5, _ => exact ⟨_, rfl, by decide, by decide⟩
      | 6, _ => exact ⟨_, rfl, by decide, by decide⟩
      | 7, _ => exact ⟨_, rfl, by decide, by decide⟩
    clear hrow
    have ho3 := ho1.trans ho2.of_alloc
    go_wp2
    go_ret
    exact ⟨v, rfl, v1, v2, hc2, ho3⟩
  · have hx3 : (x == 1) = false := by simp [hx2]
    go_wp2_with (go_at_call 55; refine (pick_draws g (N + 1) _ _ (by omega) (by omega) (by omega) (by exact hc1)).mono ?_; rintro e w2 ⟨y, rfl, hy0, hy1, hc2, ho2⟩; have ho3 := ho1.trans ho2)
    all_goals go_ret
    all_goals exact ⟨_, rfl, by omega, by omega, by assumption, by assumption⟩
end Go.Proofs.YtpgeanombiociaaDoor
