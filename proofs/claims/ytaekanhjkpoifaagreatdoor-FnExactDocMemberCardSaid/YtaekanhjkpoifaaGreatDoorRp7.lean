/-
  Texts of one claim in one: C15e, I14. Own work.
-/
import Derived.Test.YtaekanhjkpoifaaGreatDoorRC15
import Derived.Deep.RegionWith
import Derived.Deep.RegionHeld3
import Derived.Test.YtaekanhjkpoifaaGreatDoorRp6
import Derived.Test.YtaekanhjkpoifaaGreatDoorRI13

/-
 Chapter 10, the laws' equality of lists (eqMemberS): contract. Own work.
-/
namespace Go.Proofs.YtaekanhjkpoifaaGreatDoor
open Go.RowKit P
set_option linter.unusedVariables false
set_option linter.unusedSimpArgs false
set_option maxRecDepth 100000

set_option maxHeartbeats 4000000 in
theorem eqMemberS_any (A B : Option Addr) (es fs : List Mb) (c d : Nat) (w : World) (hl : es.length ≤ 9223372036854775807) (hA : Mbs w A es) (hB : Mbs w B fs) :
  Calls Tryz.prog 41 #[.slice A es.length c, .slice B fs.length d] w fun e w' => e = .returned (.bool (decide (es = fs))) ∧ Below w.heap.size w w' := by
 by_cases hlen : es.length = fs.length
 ·have hne : ((es.length : Int) != (fs.length : Int)) = false := by simp [hlen]
  have HLEN := Lib.hid hlen
  have hle : es.length ≤ fs.length := by omega
  clear hlen
  go_enter Tryz.func41, Tryz.ntmps41
  go_wp2
  go_loopw [5] (fun i wr => ∃ k : Nat, k ≤ es.length ∧ i = .int .i64 k ∧ es.take k = fs.take k ∧ Below w.heap.size w wr)
   (fun i _ => es.length - (intOf i).toNat)
  case atStart => exact ⟨0, Nat.zero_le _, rfl, by simp, Below.refl _ _⟩
  case round =>
   obtain ⟨k, hk, rfl, htake, hb⟩ := hrel
   by_cases hlt : k < es.length
   ·have hlt2 : k < fs.length := by omega
    obtain ⟨b1, off1, s, f, t, A1, u, c1, B1, r, d1, rfl, hbl1, hek1, k0, k1, k2, k3, k4, _, _, _, hcu1, hcm1, hdr1, hdm1, hU1, hR1⟩ := (hA.below hb).at_ k hlt
    obtain ⟨b2, off2, s', f', t', A2, u', c2, B2, r', d2, rfl, hbl2, hek2, s0', s1', s2', s3', s4', _, _, _, hcu2, hcm2, hdr2, hdm2, hU2, hR2⟩ := (hB.below hb).at_ k hlt2
    have HT := Lib.hid htake
    clear htake
    have hst : es.take (k + 1) = fs.take (k + 1) ↔ (s = s' ∧ (f = f' ∧ t = t') ∧ u = u' ∧ r = r') := by
     rw [List.take_succ_eq_append_getElem hlt, List.take_succ_eq_append_getElem hlt2, HT.out, List.append_cancel_left_eq, hek1, hek2]
     simp only [List.cons.injEq, and_true, Prod.mk.injEq]
    have HS := Lib.hid hst
    clear hst hek1 hek2
    have hi0 : (0 : Int) ≤ (k : Int) := by omega
    have hi1 : (k : Int) < (es.length : Int) := by omega
    have hi2 : (k : Int) < (fs.length : Int) := by omega
    have hu9 : u.length ≤ 9223372036854775807 := by unfold maxLen at hcm1; omega
    have hr9 : r.length ≤ 9223372036854775807 := by unfold maxLen at hdm1; omega
    have HU1 := Lib.hid hU1
    have HR1 := Lib.hid hR1
    have HU2 := Lib.hid hU2
    have HR2 := Lib.hid hR2
    generalize hq : decide (s = s' ∧ (f = f' ∧ t = t') ∧ u = u' ∧ r = r') = z
    have HQ := Lib.hid hq
    clear hq hU1 hR1 hU2 hR2
    go_wp2_with fail
    refine wp_region_held_drew (S := (fun V => V.cell? ⟨b1, off1 + k * 5, none⟩ = some (.int .i64 s) ∧ V.cell? ⟨b1, off1 + k * 5 + 1, none⟩ = some (.int .i64 f) ∧ V.cell? ⟨b1, off1 + k * 5 + 2, none⟩ = some (.int .i64 t) ∧ V.cell? ⟨b1, off1 + k * 5 + 3, none⟩ = some (.slice A1 u.length c1) ∧ V.cell? ⟨b1, off1 + k * 5 + 4, none⟩ = some (.slice B1 r.length d1) ∧ V.cell? ⟨b2, off2 + k * 5, none⟩ = some (.int .i64 s') ∧ V.cell? ⟨b2, off2 + k * 5 + 1, none⟩ = some (.int .i64 f') ∧ V.cell? ⟨b2, off2 + k * 5 + 2, none⟩ = some (.int .i64 t') ∧ V.cell? ⟨b2, off2 + k * 5 + 3, none⟩ = some (.slice A2 u'.length c2) ∧ V.cell? ⟨b2, off2 + k * 5 + 4, none⟩ = some (.slice B2 r'.length d2))) (by kernel_rfl) (by exact ⟨k0, k1, k2, k3, k4, s0', s1', s2', s3', s4'⟩) (fun hHeld => ?_)
    refine wpAnyH_take (i := 0) (oi := ?_) (v := ?_) ?_ ?_ ?_ ?_ ?_ ?_ (by exact hHeld) ?_
    rotate_left 2
    ·(simp only [List.getElem?_toArray, List.getElem?_cons_zero]; try rfl)
    ·kernel_rfl
    ·kernel_rfl
    ·kernel_rfl
    ·exact fun _ _ _ h => h
    ·refine Or.inl ⟨by rfl, ?_⟩
     (intro V hSV; (try dsimp only at hSV); obtain ⟨q0, q1, q2, q3, q4, q5, q6, q7, q8, q9⟩ := hSV; go_simp; try with_reducible rfl)
    (try simp only [LY9])
    refine wpAnyH_take (i := 1) (oi := ?_) (v := ?_) ?_ ?_ ?_ ?_ ?_ ?_ (by exact hHeld) ?_
    rotate_left 2
    ·(simp only [LX9]; try rfl)
    ·kernel_rfl
    ·kernel_rfl
    ·kernel_rfl
    ·exact fun _ _ _ h => h
    ·refine Or.inl ⟨by rfl, ?_⟩
     (intro V hSV; (try dsimp only at hSV); obtain ⟨q0, q1, q2, q3, q4, q5, q6, q7, q8, q9⟩ := hSV; go_simp; try with_reducible rfl)
    (try simp only [LY9])
    refine wpAnyH_take (i := 2) (oi := ?_) (v := ?_) ?_ ?_ ?_ ?_ ?_ ?_ (by exact hHeld) ?_
    rotate_left 2
    ·(simp only [LX9]; try rfl)
    ·kernel_rfl
    ·kernel_rfl
    ·kernel_rfl
    ·exact fun _ _ _ h => h
    ·refine Or.inl ⟨by rfl, ?_⟩
     (intro V hSV; (try dsimp only at hSV); obtain ⟨q0, q1, q2, q3, q4, q5, q6, q7, q8, q9⟩ := hSV; go_simp; try with_reducible rfl)
    (try simp only [LY9])
    refine wpAnyH_take (i := 3) (oi := ?_) (v := ?_) ?_ ?_ ?_ ?_ ?_ ?_ (by exact hHeld) ?_
    rotate_left 2
    ·(simp only [LX9]; try rfl)
    ·kernel_rfl
    ·kernel_rfl
    ·kernel_rfl
    ·exact fun _ _ _ h => h
    ·refine Or.inl ⟨by rfl, ?_⟩
     (intro V hSV; (try dsimp only at hSV); obtain ⟨q0, q1, q2, q3, q4, q5, q6, q7, q8, q9⟩ := hSV; go_simp; try with_reducible rfl)
    (try simp only [LY9])
    refine wpAnyH_take (i := 4) (oi := ?_) (v := ?_) ?_ ?_ ?_ ?_ ?_ ?_ (by exact hHeld) ?_
    rotate_left 2
    ·(simp only [LX9]; try rfl)
    ·kernel_rfl
    ·kernel_rfl
    ·kernel_rfl
    ·exact fun _ _ _ h => h
    ·refine Or.inl ⟨by rfl, ?_⟩
     (intro V hSV; (try dsimp only at hSV); obtain ⟨q0, q1, q2, q3, q4, q5, q6, q7, q8, q9⟩ := hSV; go_simp; try with_reducible rfl)
    (try simp only [LY9])
    refine wpAnyH_take (i := 5) (oi := ?_) (v := ?_) ?_ ?_ ?_ ?_ ?_ ?_ (by exact hHeld) ?_
    rotate_left 2
    ·(simp only [LX9]; try rfl)
    ·kernel_rfl
    ·kernel_rfl
    ·kernel_rfl
    ·exact fun _ _ _ h => h
    ·refine Or.inl ⟨by rfl, ?_⟩
     (intro V hSV; (try dsimp only at hSV); obtain ⟨q0, q1, q2, q3, q4, q5, q6, q7, q8, q9⟩ := hSV; go_simp; try with_reducible rfl)
    (try simp only [LY9])
    refine wpAnyH_take (i := 6) (oi := ?_) (v := ?_) ?_ ?_ ?_ ?_ ?_ ?_ (by exact hHeld) ?_
    rotate_left 2
    ·(simp only [LX9]; try rfl)
    ·kernel_rfl
    ·kernel_rfl
    ·kernel_rfl
    ·exact fun _ _ _ h => h
    ·refine Or.inl ⟨by rfl, ?_⟩
     (intro V hSV; (try dsimp only at hSV); obtain ⟨q0, q1, q2, q3, q4, q5, q6, q7, q8, q9⟩ := hSV; go_simp; try with_reducible rfl)
    (try simp only [LY9])
    refine wpAnyH_take (i := 7) (oi := ?_) (v := ?_) ?_ ?_ ?_ ?_ ?_ ?_ (by exact hHeld) ?_
    rotate_left 2
    ·(simp only [LX9]; try rfl)
    ·kernel_rfl
    ·kernel_rfl
    ·kernel_rfl
    ·exact fun _ _ _ h => h
    ·refine Or.inl ⟨by rfl, ?_⟩
     (intro V hSV; (try dsimp only at hSV); obtain ⟨q0, q1, q2, q3, q4, q5, q6, q7, q8, q9⟩ := hSV; go_simp; try with_reducible rfl)
    (try simp only [LY9])
    refine wpAnyH_ready (rs := [8]) (by kernel_rfl) (by simp) ?_
    refine AllReadyH.cons rfl (fun K hK => ?_) AllReadyH.nil
    go_simp
    refine (eqMember_any s f t s' f' t' A1 u c1 B1 r d1 A2 u' c2 B2 r' d2 _ hu9 hr9 (by have h9 := HU1.out; exact h9) (by have h9 := HR1.out; exact h9) (by have h9 := HU2.out; exact h9) (by have h9 := HR2.out; exact h9)).mono ?_
    rintro e w1 ⟨rfl, hb1⟩
    rw [HQ.out]
    have hb1 : Below wr.heap.size wr w1 := ⟨hb1.os, hb1.tape, hb1.output, hb1.size, hb1.block⟩
    go_wp2_with fail
    refine hK.out _ _ (by exact ⟨((hb1).cell (p := ⟨b1, off1 + k * 5, none⟩) hbl1).trans k0, ((hb1).cell (p := ⟨b1, off1 + k * 5 + 1, none⟩) hbl1).trans k1, ((hb1).cell (p := ⟨b1, off1 + k * 5 + 2, none⟩) hbl1).trans k2, ((hb1).cell (p := ⟨b1, off1 + k * 5 + 3, none⟩) hbl1).trans k3, ((hb1).cell (p := ⟨b1, off1 + k * 5 + 4, none⟩) hbl1).trans k4, ((hb1).cell (p := ⟨b2, off2 + k * 5, none⟩) hbl2).trans s0', ((hb1).cell (p := ⟨b2, off2 + k * 5 + 1, none⟩) hbl2).trans s1', ((hb1).cell (p := ⟨b2, off2 + k * 5 + 2, none⟩) hbl2).trans s2', ((hb1).cell (p := ⟨b2, off2 + k * 5 + 3, none⟩) hbl2).trans s3', ((hb1).cell (p := ⟨b2, off2 + k * 5 + 4, none⟩) hbl2).trans s4'⟩) (fun hHeld => ?_)
    clear hK K
    (try simp only [LY9])
    refine wpAnyH_take (i := 9) (oi := ?_) (v := ?_) ?_ ?_ ?_ ?_ ?_ ?_ (by exact hHeld) ?_
    rotate_left 2
    ·(simp only [LX9]; try rfl)
    ·kernel_rfl
    ·kernel_rfl
    ·kernel_rfl
    ·exact fun _ _ _ h => h
    ·refine Or.inl ⟨by rfl, ?_⟩
     (intro V hSV; (try dsimp only at hSV); obtain ⟨q0, q1, q2, q3, q4, q5, q6, q7, q8, q9⟩ := hSV; go_simp; try with_reducible rfl)
    (try simp only [LY9])
    refine wpAnyH_done (by kernel_rfl) ?_ _
    have hb9 := below_then hb hb1
    cases z
    ·go_wp2
     go_ret
     have : es ≠ fs := by
      intro e
      have h1 := of_decide_eq_false HQ.out
      have h2 := HS.out.1 (by rw [e])
      exact h1 h2
     exact ⟨by simp [this], hb9⟩
    ·go_wp2
     go_roundw
     case rel => exact ⟨k + 1, by omega, by go_num, HS.out.2 (of_decide_eq_true HQ.out), hb9⟩
     case measure => simp [intOf]; omega
   ·go_wp2
    go_ret
    have e1 : k = es.length := by omega
    subst e1
    rw [List.take_length] at htake
    have e2 : es = fs := by rw [htake, HLEN.out, List.take_length]
    exact ⟨by simp [e2], hb⟩
 ·have hne : ((es.length : Int) != (fs.length : Int)) = true := by simp; omega
  go_enter Tryz.func41, Tryz.ntmps41
  go_wp2
  go_ret
  exact ⟨by simp; intro e; exact hlen (by rw [e]), Below.refl _ _⟩
end Go.Proofs.YtaekanhjkpoifaaGreatDoor

/-
 Chapter 7, slices.Delete of one lease, LeaseDrop in the program: contracts. Own work.
-/
namespace Go.Proofs.YtaekanhjkpoifaaGreatDoor
open Go.RowKit P
set_option linter.unusedVariables false
set_option linter.unusedSimpArgs false
set_option maxRecDepth 100000

theorem slcLe_from (g n c j : Nat) (hj : j ≤ n) (hc : n ≤ c) (hc9 : c ≤ maxLen) : ∀ W, (Instr.slice 34 (.slice (some ⟨g, 0, none⟩) n c) (some (.int .i64 (j : Int))) none none).run Tryz.prog W = .ok (.slice (some (if c = j then ⟨g, 0, none⟩ else ⟨g, j * 4, none⟩)) (n - j) (c - j)) W := by
 intro W
 unfold maxLen at hc9
 have hz : ∀ W, (Go.sizeOf 106).run Tryz.prog W = .ok 4 W := fun W => by kernel_rfl
 have ht' : Tryz.prog.underlying 34 = some (.slice (Tryz.prog.elem 34)) := by simp [Program.elem, Tryz.underlying34]
 have he : Tryz.prog.elem 34 = 106 := by simp [Program.elem, Tryz.underlying34]
 rw [run_slice_l W 34 _ _ _ ht' .i64 _ (by omega) (by omega), he, hz]
 by_cases h0 : c = j
 ·simp [Result.andThen, sliced, h0]
 ·by_cases h1 : j = 0
  ·subst h1; simp [Result.andThen, sliced, Addr.add, h0]
  ·have h2 : ¬ j * 4 = 0 := by omega
   simp [Result.andThen, sliced, Addr.add, h0, h1, h2]
/-- What LeaseDrop gives. -/
def Drops (es : List Le) (l : Le) (w : World) (e : Ending) (w' : World) : Prop := ∃ v, e = .returned (.tuple #[v, .int .i64 (dropN es l)]) ∧ OwR w' w.heap.size v (dropL es l) ∧ Below w.heap.size w w'
end Go.Proofs.YtaekanhjkpoifaaGreatDoor
