/-
  Chapter 7, LeaseDrop in the model: contracts. Own work.
-/
import Derived.Test.YtgpjjolgpppeeaaP11
import Derived.Test.YtgpjjolgpppeeaaS11
import Derived.Deep.RegionHeld3
namespace Go.Proofs.Ytgpjjolgpppeeaa
open Go.RowKit P
set_option linter.unusedVariables false
set_option linter.unusedSimpArgs false
set_option maxRecDepth 100000

set_option maxHeartbeats 2000000 in
theorem l07One_any (i j s t x y u v : Int) (w : World) :
    Calls Try.prog 134 #[.agg #[.int .i64 i, .int .i64 j, .int .i64 s, .int .i64 t], .agg #[.int .i64 x, .int .i64 y, .int .i64 u, .int .i64 v]] w fun e w' => e = .returned (.bool (leSame (i, j, s, t) (x, y, u, v))) ∧ Below w.heap.size w w' := by
  by_cases h1 : i = x
  · have e1 : (i == x) = true := by simp [h1]
    by_cases h2 : j = y
    · have e2 : (j == y) = true := by simp [h2]
      by_cases h3 : s = u
      · have e3 : (s == u) = true := by simp [h3]
        rw [show leSame (i, j, s, t) (x, y, u, v) = true from decide_eq_true ⟨h1, h2, h3⟩]
        clear h1 h2 h3
        go_enter Try.func134, Try.ntmps134
        go_wp2
        go_ret
        refine ⟨by first | rfl | exact ret_bool (by simp), ?_⟩
        (repeat (first | exact Below.refl _ _ | assumption | refine Below.setCell ?_ (by first | (simp; done) | (simp; omega) | omega) _ | refine Below.drew ?_ | refine below_drewN ?_ _ | refine Below.alloc ?_ (by first | (simp; done) | (simp; omega) | omega) _))
      · have e3 : (s == u) = false := by simp [h3]
        rw [show leSame (i, j, s, t) (x, y, u, v) = false from decide_eq_false (fun h => h3 h.2.2)]
        clear h1 h2 h3
        go_enter Try.func134, Try.ntmps134
        go_wp2
        go_ret
        refine ⟨by first | rfl | exact ret_bool (by simp), ?_⟩
        (repeat (first | exact Below.refl _ _ | assumption | refine Below.setCell ?_ (by first | (simp; done) | (simp; omega) | omega) _ | refine Below.drew ?_ | refine below_drewN ?_ _ | refine Below.alloc ?_ (by first | (simp; done) | (simp; omega) | omega) _))
    · have e2 : (j == y) = false := by simp [h2]
      rw [show leSame (i, j, s, t) (x, y, u, v) = false from decide_eq_false (fun h => h2 h.2.1)]
      clear h1 h2
      go_enter Try.func134, Try.ntmps134
      go_wp2
      go_ret
      refine ⟨by first | rfl | exact ret_bool (by simp), ?_⟩
      (repeat (first | exact Below.refl _ _ | assumption | refine Below.setCell ?_ (by first | (simp; done) | (simp; omega) | omega) _ | refine Below.drew ?_ | refine below_drewN ?_ _ | refine Below.alloc ?_ (by first | (simp; done) | (simp; omega) | omega) _))
  · have e1 : (i == x) = false := by simp [h1]
    rw [show leSame (i, j, s, t) (x, y, u, v) = false from decide_eq_false (fun h => h1 h.1)]
    clear h1
    go_enter Try.func134, Try.ntmps134
    go_wp2
    go_ret
    refine ⟨by first | rfl | exact ret_bool (by simp), ?_⟩
    (repeat (first | exact Below.refl _ _ | assumption | refine Below.setCell ?_ (by first | (simp; done) | (simp; omega) | omega) _ | refine Below.drew ?_ | refine below_drewN ?_ _ | refine Below.alloc ?_ (by first | (simp; done) | (simp; omega) | omega) _))

set_option maxHeartbeats 4000000 in
theorem l07At_any (A : Option Addr) (es : List Le) (c : Nat) (x y s t : Int) (w : World) (hl : es.length ≤ 1048576) (hA : Ll w A es) :
    Calls Try.prog 84 #[.slice A es.length c, .agg #[.int .i64 x, .int .i64 y, .int .i64 s, .int .i64 t]] w fun e w' => e = .returned (.int .i64 (if keyIx es (x, y, s, t) < es.length then (keyIx es (x, y, s, t) : Int) else -1)) ∧ Below w.heap.size w w' := by
  have hn9 : es.length ≤ 9223372036854775807 := by omega
  obtain ⟨r, hr⟩ : ∃ r, (if keyIx es (x, y, s, t) < es.length then (keyIx es (x, y, s, t) : Int) else -1) = r := ⟨_, rfl⟩
  rw [hr]
  have HR := Lib.hid hr
  clear hr
  have hal := (Below.refl w.heap.size w).alloc (Nat.le_refl _) (.cells #[.int .i64 x, .int .i64 y, .int .i64 s, .int .i64 t] 43)
  have hbx := Blk.new w #[.int .i64 x, .int .i64 y, .int .i64 s, .int .i64 t] 43
  go_enter Try.func84, Try.ntmps84
  go_wp2
  go_loopw [5] (fun i wr => ∃ k : Nat, k ≤ es.length ∧ i = .int .i64 k ∧ (∀ j (h : j < es.length), j < k → leSame es[j] (x, y, s, t) = false) ∧ Blk wr w.heap.size #[.int .i64 x, .int .i64 y, .int .i64 s, .int .i64 t] 43 ∧ Below w.heap.size w wr)
    (fun i _ => es.length - (intOf i).toNat)
  case atStart => exact ⟨0, Nat.zero_le _, rfl, fun j h h2 => by omega, hbx, hal⟩
  case round =>
    obtain ⟨k, hk, rfl, hall, hbx2, hb⟩ := hrel
    have HALL := Lib.hid hall
    have HBX := Lib.hid hbx2
    clear hall
    by_cases hlt : k < es.length
    · have hki0 : (0 : Int) ≤ (k : Int) := by omega
      have hki : (k : Int) < (es.length : Int) := by omega
      obtain ⟨b, off, x0, y0, s0, t0, rfl, hbl, hek, k0, k1, k2, k3, hin⟩ := (hA.below hb).at_ k hlt
      have p0 := hbx2.cell 0
      have p1 := hbx2.cell 1
      have p2 := hbx2.cell 2
      have p3 := hbx2.cell 3
      have zb := hbx2.lt
      obtain ⟨q, hq⟩ : ∃ q, leSame (x0, y0, s0, t0) (x, y, s, t) = q := ⟨_, rfl⟩
      have HQ := Lib.hid hq
      have HEK := Lib.hid hek
      clear hq hek hin hal hbx hbx2
      go_wp2_with fail
      refine wp_region_held_drew (S := (fun V => V.cell? ⟨b, off + k * 4, none⟩ = some (.int .i64 x0) ∧ V.cell? ⟨b, off + k * 4 + 1, none⟩ = some (.int .i64 y0) ∧ V.cell? ⟨b, off + k * 4 + 2, none⟩ = some (.int .i64 s0) ∧ V.cell? ⟨b, off + k * 4 + 3, none⟩ = some (.int .i64 t0) ∧ V.cell? ⟨w.heap.size, 0, none⟩ = some (.int .i64 x) ∧ V.cell? ⟨w.heap.size, 1, none⟩ = some (.int .i64 y) ∧ V.cell? ⟨w.heap.size, 2, none⟩ = some (.int .i64 s) ∧ V.cell? ⟨w.heap.size, 3, none⟩ = some (.int .i64 t))) (by kernel_rfl) (by exact ⟨k0, k1, k2, k3, p0, p1, p2, p3⟩) (fun hHeld => ?_)
      refine wpAnyH_take (i := 0) (oi := ?_) (v := ?_) ?_ ?_ ?_ ?_ ?_ ?_ (by exact hHeld) ?_
      rotate_left 2
      · (simp only [List.getElem?_toArray, List.getElem?_cons_zero]; try rfl)
      · kernel_rfl
      · kernel_rfl
      · kernel_rfl
      · exact fun _ _ _ h => h
      · refine Or.inl ⟨by rfl, ?_⟩
        (intro V hSV; (try dsimp only at hSV); obtain ⟨q0, q1, q2, q3, q4, q5, q6, q7⟩ := hSV; go_simp; try with_reducible rfl)
      (try simp only [Act.put, List.setIfInBounds_toArray, List.set_cons_zero, List.set_cons_succ])
      refine wpAnyH_take (i := 1) (oi := ?_) (v := ?_) ?_ ?_ ?_ ?_ ?_ ?_ (by exact hHeld) ?_
      rotate_left 2
      · (simp only [List.getElem?_toArray, List.getElem?_cons_zero, List.getElem?_cons_succ]; try rfl)
      · kernel_rfl
      · kernel_rfl
      · kernel_rfl
      · exact fun _ _ _ h => h
      · refine Or.inl ⟨by rfl, ?_⟩
        (intro V hSV; (try dsimp only at hSV); obtain ⟨q0, q1, q2, q3, q4, q5, q6, q7⟩ := hSV; go_simp; try with_reducible rfl)
      (try simp only [Act.put, List.setIfInBounds_toArray, List.set_cons_zero, List.set_cons_succ])
      refine wpAnyH_take (i := 2) (oi := ?_) (v := ?_) ?_ ?_ ?_ ?_ ?_ ?_ (by exact hHeld) ?_
      rotate_left 2
      · (simp only [List.getElem?_toArray, List.getElem?_cons_zero, List.getElem?_cons_succ]; try rfl)
      · kernel_rfl
      · kernel_rfl
      · kernel_rfl
      · exact fun _ _ _ h => h
      · refine Or.inl ⟨by rfl, ?_⟩
        (intro V hSV; (try dsimp only at hSV); obtain ⟨q0, q1, q2, q3, q4, q5, q6, q7⟩ := hSV; go_simp; try with_reducible rfl)
      (try simp only [Act.put, List.setIfInBounds_toArray, List.set_cons_zero, List.set_cons_succ])
      refine wpAnyH_take (i := 3) (oi := ?_) (v := ?_) ?_ ?_ ?_ ?_ ?_ ?_ (by exact hHeld) ?_
      rotate_left 2
      · (simp only [List.getElem?_toArray, List.getElem?_cons_zero, List.getElem?_cons_succ]; try rfl)
      · kernel_rfl
      · kernel_rfl
      · kernel_rfl
      · exact fun _ _ _ h => h
      · refine Or.inl ⟨by rfl, ?_⟩
        (intro V hSV; (try dsimp only at hSV); obtain ⟨q0, q1, q2, q3, q4, q5, q6, q7⟩ := hSV; go_simp; try with_reducible rfl)
      (try simp only [Act.put, List.setIfInBounds_toArray, List.set_cons_zero, List.set_cons_succ])
      refine wpAnyH_take (i := 4) (oi := ?_) (v := ?_) ?_ ?_ ?_ ?_ ?_ ?_ (by exact hHeld) ?_
      rotate_left 2
      · (simp only [List.getElem?_toArray, List.getElem?_cons_zero, List.getElem?_cons_succ]; try rfl)
      · kernel_rfl
      · kernel_rfl
      · kernel_rfl
      · exact fun _ _ _ h => h
      · refine Or.inl ⟨by rfl, ?_⟩
        (intro V hSV; (try dsimp only at hSV); obtain ⟨q0, q1, q2, q3, q4, q5, q6, q7⟩ := hSV; go_simp; try with_reducible rfl)
      (try simp only [Act.put, List.setIfInBounds_toArray, List.set_cons_zero, List.set_cons_succ])
      refine wpAnyH_ready (rs := [5]) (by kernel_rfl) (by simp) ?_
      refine AllReadyH.cons rfl (fun K hK => ?_) AllReadyH.nil
      go_simp
      refine (l07One_any x0 y0 s0 t0 x y s t _).mono ?_
      rintro e w1 ⟨rfl, hb1⟩
      rw [HQ.out]
      have hb1 : Below wr.heap.size wr w1 := ⟨hb1.os, hb1.tape, hb1.output, hb1.size, hb1.block⟩
      go_wp2_with fail
      refine hK.out _ _ (by exact ⟨((hb1).cell (p := ⟨b, off + k * 4, none⟩) hbl).trans k0, ((hb1).cell (p := ⟨b, off + k * 4 + 1, none⟩) hbl).trans k1, ((hb1).cell (p := ⟨b, off + k * 4 + 2, none⟩) hbl).trans k2, ((hb1).cell (p := ⟨b, off + k * 4 + 3, none⟩) hbl).trans k3, ((hb1).cell (p := ⟨w.heap.size, 0, none⟩) zb).trans p0, ((hb1).cell (p := ⟨w.heap.size, 1, none⟩) zb).trans p1, ((hb1).cell (p := ⟨w.heap.size, 2, none⟩) zb).trans p2, ((hb1).cell (p := ⟨w.heap.size, 3, none⟩) zb).trans p3⟩) (fun hHeld => ?_)
      clear hK K
      (try simp only [Act.put, List.setIfInBounds_toArray, List.set_cons_zero, List.set_cons_succ])
      refine wpAnyH_done (by kernel_rfl) ?_ _
      have hb9 := below_then hb hb1
      have HBX1 := Lib.hid (HBX.out.below hb1)
      clear k0 k1 k2 k3 p0 p1 p2 p3
      cases q
      · go_wp2
        go_roundw
        case rel => exact ⟨k + 1, by omega, by go_num, fun j h h2 => by
          by_cases e : j = k
          · subst e; rw [HEK.out]; exact HQ.out
          · exact HALL.out j h (by omega), HBX1.out, hb9⟩
        case measure => simp [intOf]; omega
      · have hz : r = (k : Int) := by
          have h9 : keyIx es (x, y, s, t) = k := keyIx_some hlt (by rw [HEK.out]; exact HQ.out) (fun j h => HALL.out j (by omega) h)
          rw [← HR.out, h9, if_pos hlt]
        have HZ := Lib.hid hz
        clear hz
        go_wp2
        go_ret
        exact ⟨ret_int HZ.out.symm, hb9⟩
    · have hz : r = -1 := by
        have h9 : keyIx es (x, y, s, t) = es.length := keyIx_none (fun j h => HALL.out j h (by omega))
        rw [← HR.out, h9, if_neg (by omega)]
      have HZ := Lib.hid hz
      clear hz hal hbx hbx2
      go_wp2
      go_ret
      exact ⟨ret_int HZ.out.symm, hb⟩
end Go.Proofs.Ytgpjjolgpppeeaa
