/-
  Chapter 7: equality of lists of leases, the order of keys in the program, LeasesOk in the model and in the program: contracts. Own work.
  Chapter 7: the order of keys in the program: contracts. Own work.
  Chapter 7: LeasesOk in the model: contracts. Own work.
  Chapter 7: LeasesOk in the program: contracts. Own work.
-/
import Derived.Test.YtaekanhjkpoifaaDoorS09
import Derived.Deep.RegionWith
import Derived.Deep.RegionHeld3
namespace Go.Proofs.YtaekanhjkpoifaaDoor
open Go.RowKit P
set_option linter.unusedVariables false
set_option linter.unusedSimpArgs false
set_option maxRecDepth 100000

set_option maxHeartbeats 4000000 in
theorem eqLeaseS_any (A B : Option Addr) (es fs : List Le) (c d : Nat) (w : World) (hl : es.length ≤ 9223372036854775807) (hA : Ll w A es) (hB : Ll w B fs) :
    Calls Tryd.prog 25 #[.slice A es.length c, .slice B fs.length d] w fun e w' => e = .returned (.bool (decide (es = fs))) ∧ Below w.heap.size w w' := by
  by_cases hlen : es.length = fs.length
  · have hne : ((es.length : Int) != (fs.length : Int)) = false := by simp [hlen]
    have HLEN := Lib.hid hlen
    have hle : es.length ≤ fs.length := by omega
    clear hlen
    go_enter Tryd.func25, Tryd.ntmps25
    go_wp2
    go_loopw [5] (fun i wr => ∃ k : Nat, k ≤ es.length ∧ i = .int .i64 k ∧ es.take k = fs.take k ∧ Below w.heap.size w wr)
      (fun i _ => es.length - (intOf i).toNat)
    case atStart => exact ⟨0, Nat.zero_le _, rfl, by simp, Below.refl _ _⟩
    case round =>
      obtain ⟨k, hk, rfl, htake, hb⟩ := hrel
      by_cases hlt : k < es.length
      · have hlt2 : k < fs.length := by omega
        obtain ⟨b1, off1, x1, y1, s1, t1, rfl, hbl1, hek1, k0, k1, k2, k3, hin1⟩ := (hA.below hb).at_ k hlt
        obtain ⟨b2, off2, x2, y2, s2, t2, rfl, hbl2, hek2, m0, m1, m2, m3, hin2⟩ := (hB.below hb).at_ k hlt2
        have HT := Lib.hid htake
        clear htake hin1 hin2
        have hst : es.take (k + 1) = fs.take (k + 1) ↔ (x1 = x2 ∧ y1 = y2 ∧ s1 = s2 ∧ t1 = t2) := by
          rw [List.take_succ_eq_append_getElem hlt, List.take_succ_eq_append_getElem hlt2, HT.out, List.append_cancel_left_eq, hek1, hek2]
          simp only [List.cons.injEq, and_true, Prod.mk.injEq]
        have HS := Lib.hid hst
        clear hst hek1 hek2
        have hi0 : (0 : Int) ≤ (k : Int) := by omega
        have hi1 : (k : Int) < (es.length : Int) := by omega
        have hi2 : (k : Int) < (fs.length : Int) := by omega
        generalize hq : decide (x1 = x2 ∧ y1 = y2 ∧ s1 = s2 ∧ t1 = t2) = z
        have HQ := Lib.hid hq
        clear hq
        go_wp2_with fail
        refine wp_region_held_drew (S := (fun V => V.cell? ⟨b1, off1 + k * 4, none⟩ = some (.int .i64 x1) ∧ V.cell? ⟨b1, off1 + k * 4 + 1, none⟩ = some (.int .i64 y1) ∧ V.cell? ⟨b1, off1 + k * 4 + 2, none⟩ = some (.int .i64 s1) ∧ V.cell? ⟨b1, off1 + k * 4 + 3, none⟩ = some (.int .i64 t1) ∧ V.cell? ⟨b2, off2 + k * 4, none⟩ = some (.int .i64 x2) ∧ V.cell? ⟨b2, off2 + k * 4 + 1, none⟩ = some (.int .i64 y2) ∧ V.cell? ⟨b2, off2 + k * 4 + 2, none⟩ = some (.int .i64 s2) ∧ V.cell? ⟨b2, off2 + k * 4 + 3, none⟩ = some (.int .i64 t2))) (by kernel_rfl) (by exact ⟨k0, k1, k2, k3, m0, m1, m2, m3⟩) (fun hHeld => ?_)
        refine wpAnyH_take (i := 0) (oi := ?_) (v := ?_) ?_ ?_ ?_ ?_ ?_ ?_ (by exact hHeld) ?_
        rotate_left 2
        · (simp only [List.getElem?_toArray, List.getElem?_cons_zero]; try rfl)
        · kernel_rfl
        · kernel_rfl
        · kernel_rfl
        · exact fun _ _ _ h => h
        · refine Or.inl ⟨by rfl, ?_⟩
          (intro V hSV; (try dsimp only at hSV); obtain ⟨q0, q1, q2, q3, q4, q5, q6, q7⟩ := hSV; go_simp; try with_reducible rfl)
        (try simp only [Act.put, List.setIfInBounds_toArray, List.set_cons_zero, List.set_cons_succ])
        refine wpAnyH_take (i := 1) (oi := ?_) (v := ?_) ?_ ?_ ?_ ?_ ?_ ?_ (by exact hHeld) ?_
        rotate_left 2
        · (simp only [List.getElem?_toArray, List.getElem?_cons_zero, List.getElem?_cons_succ]; try rfl)
        · kernel_rfl
        · kernel_rfl
        · kernel_rfl
        · exact fun _ _ _ h => h
        · refine Or.inl ⟨by rfl, ?_⟩
          (intro V hSV; (try dsimp only at hSV); obtain ⟨q0, q1, q2, q3, q4, q5, q6, q7⟩ := hSV; go_simp; try with_reducible rfl)
        (try simp only [Act.put, List.setIfInBounds_toArray, List.set_cons_zero, List.set_cons_succ])
        refine wpAnyH_take (i := 2) (oi := ?_) (v := ?_) ?_ ?_ ?_ ?_ ?_ ?_ (by exact hHeld) ?_
        rotate_left 2
        · (simp only [List.getElem?_toArray, List.getElem?_cons_zero, List.getElem?_cons_succ]; try rfl)
        · kernel_rfl
        · kernel_rfl
        · kernel_rfl
        · exact fun _ _ _ h => h
        · refine Or.inl ⟨by rfl, ?_⟩
          (intro V hSV; (try dsimp only at hSV); obtain ⟨q0, q1, q2, q3, q4, q5, q6, q7⟩ := hSV; go_simp; try with_reducible rfl)
        (try simp only [Act.put, List.setIfInBounds_toArray, List.set_cons_zero, List.set_cons_succ])
        refine wpAnyH_take (i := 3) (oi := ?_) (v := ?_) ?_ ?_ ?_ ?_ ?_ ?_ (by exact hHeld) ?_
        rotate_left 2
        · (simp only [List.getElem?_toArray, List.getElem?_cons_zero, List.getElem?_cons_succ]; try rfl)
        · kernel_rfl
        · kernel_rfl
        · kernel_rfl
        · exact fun _ _ _ h => h
        · refine Or.inl ⟨by rfl, ?_⟩
          (intro V hSV; (try dsimp only at hSV); obtain ⟨q0, q1, q2, q3, q4, q5, q6, q7⟩ := hSV; go_simp; try with_reducible rfl)
        (try simp only [Act.put, List.setIfInBounds_toArray, List.set_cons_zero, List.set_cons_succ])
        refine wpAnyH_take (i := 4) (oi := ?_) (v := ?_) ?_ ?_ ?_ ?_ ?_ ?_ (by exact hHeld) ?_
        rotate_left 2
        · (simp only [List.getElem?_toArray, List.getElem?_cons_zero, List.getElem?_cons_succ]; try rfl)
        · kernel_rfl
        · kernel_rfl
        · kernel_rfl
        · exact fun _ _ _ h => h
        · refine Or.inl ⟨by rfl, ?_⟩
          (intro V hSV; (try dsimp only at hSV); obtain ⟨q0, q1, q2, q3, q4, q5, q6, q7⟩ := hSV; go_simp; try with_reducible rfl)
        (try simp only [Act.put, List.setIfInBounds_toArray, List.set_cons_zero, List.set_cons_succ])
        refine wpAnyH_take (i := 5) (oi := ?_) (v := ?_) ?_ ?_ ?_ ?_ ?_ ?_ (by exact hHeld) ?_
        rotate_left 2
        · (simp only [List.getElem?_toArray, List.getElem?_cons_zero, List.getElem?_cons_succ]; try rfl)
        · kernel_rfl
        · kernel_rfl
        · kernel_rfl
        · exact fun _ _ _ h => h
        · refine Or.inl ⟨by rfl, ?_⟩
          (intro V hSV; (try dsimp only at hSV); obtain ⟨q0, q1, q2, q3, q4, q5, q6, q7⟩ := hSV; go_simp; try with_reducible rfl)
        (try simp only [Act.put, List.setIfInBounds_toArray, List.set_cons_zero, List.set_cons_succ])
        refine wpAnyH_take (i := 6) (oi := ?_) (v := ?_) ?_ ?_ ?_ ?_ ?_ ?_ (by exact hHeld) ?_
        rotate_left 2
        · (simp only [List.getElem?_toArray, List.getElem?_cons_zero, List.getElem?_cons_succ]; try rfl)
        · kernel_rfl
        · kernel_rfl
        · kernel_rfl
        · exact fun _ _ _ h => h
        · refine Or.inl ⟨by rfl, ?_⟩
          (intro V hSV; (try dsimp only at hSV); obtain ⟨q0, q1, q2, q3, q4, q5, q6, q7⟩ := hSV; go_simp; try with_reducible rfl)
        (try simp only [Act.put, List.setIfInBounds_toArray, List.set_cons_zero, List.set_cons_succ])
        refine wpAnyH_take (i := 7) (oi := ?_) (v := ?_) ?_ ?_ ?_ ?_ ?_ ?_ (by exact hHeld) ?_
        rotate_left 2
        · (simp only [List.getElem?_toArray, List.getElem?_cons_zero, List.getElem?_cons_succ]; try rfl)
        · kernel_rfl
        · kernel_rfl
        · kernel_rfl
        · exact fun _ _ _ h => h
        · refine Or.inl ⟨by rfl, ?_⟩
          (intro V hSV; (try dsimp only at hSV); obtain ⟨q0, q1, q2, q3, q4, q5, q6, q7⟩ := hSV; go_simp; try with_reducible rfl)
        (try simp only [Act.put, List.setIfInBounds_toArray, List.set_cons_zero, List.set_cons_succ])
        refine wpAnyH_ready (rs := [8]) (by kernel_rfl) (by simp) ?_
        refine AllReadyH.cons rfl (fun K hK => ?_) AllReadyH.nil
        go_simp
        refine (eqLease_any x1 y1 s1 t1 x2 y2 s2 t2 _).mono ?_
        rintro e w1 ⟨rfl, hb1⟩
        rw [HQ.out]
        have hb1 : Below wr.heap.size wr w1 := ⟨hb1.os, hb1.tape, hb1.output, hb1.size, hb1.block⟩
        go_wp2_with fail
        refine hK.out _ _ (by exact ⟨((hb1).cell (p := ⟨b1, off1 + k * 4, none⟩) hbl1).trans k0, ((hb1).cell (p := ⟨b1, off1 + k * 4 + 1, none⟩) hbl1).trans k1, ((hb1).cell (p := ⟨b1, off1 + k * 4 + 2, none⟩) hbl1).trans k2, ((hb1).cell (p := ⟨b1, off1 + k * 4 + 3, none⟩) hbl1).trans k3, ((hb1).cell (p := ⟨b2, off2 + k * 4, none⟩) hbl2).trans m0, ((hb1).cell (p := ⟨b2, off2 + k * 4 + 1, none⟩) hbl2).trans m1, ((hb1).cell (p := ⟨b2, off2 + k * 4 + 2, none⟩) hbl2).trans m2, ((hb1).cell (p := ⟨b2, off2 + k * 4 + 3, none⟩) hbl2).trans m3⟩) (fun hHeld => ?_)
        clear hK K
        (try simp only [Act.put, List.setIfInBounds_toArray, List.set_cons_zero, List.set_cons_succ])
        refine wpAnyH_take (i := 9) (oi := ?_) (v := ?_) ?_ ?_ ?_ ?_ ?_ ?_ (by exact hHeld) ?_
        rotate_left 2
        · (simp only [List.getElem?_toArray, List.getElem?_cons_zero, List.getElem?_cons_succ]; try rfl)
        · kernel_rfl
        · kernel_rfl
        · kernel_rfl
        · exact fun _ _ _ h => h
        · refine Or.inl ⟨by rfl, ?_⟩
          (intro V hSV; (try dsimp only at hSV); obtain ⟨q0, q1, q2, q3, q4, q5, q6, q7⟩ := hSV; go_simp; try with_reducible rfl)
        (try simp only [Act.put, List.setIfInBounds_toArray, List.set_cons_zero, List.set_cons_succ])
        refine wpAnyH_done (by kernel_rfl) ?_ _
        have hb9 := below_then hb hb1
        cases z
        · go_wp2
          go_ret
          have : es ≠ fs := by
            intro e
            have h1 := of_decide_eq_false HQ.out
            have h2 := HS.out.1 (by rw [e])
            exact h1 h2
          exact ⟨by simp [this], hb9⟩
        · go_wp2
          go_roundw
          case rel => exact ⟨k + 1, by omega, by go_num, HS.out.2 (of_decide_eq_true HQ.out), hb9⟩
          case measure => simp [intOf]; omega
      · go_wp2
        go_ret
        have e1 : k = es.length := by omega
        subst e1
        rw [List.take_length] at htake
        have e2 : es = fs := by rw [htake, HLEN.out, List.take_length]
        exact ⟨by simp [e2], hb⟩
  · have hne : ((es.length : Int) != (fs.length : Int)) = true := by simp; omega
    go_enter Tryd.func25, Tryd.ntmps25
    go_wp2
    go_ret
    exact ⟨by simp; intro e; exact hlen (by rw [e]), Below.refl _ _⟩

end Go.Proofs.YtaekanhjkpoifaaDoor

namespace Go.Proofs.YtaekanhjkpoifaaDoor
open Go.RowKit P
set_option linter.unusedVariables false
set_option linter.unusedSimpArgs false
set_option maxRecDepth 100000

def or3 (a b c : Int) : Int := if a = 0 then (if b = 0 then c else b) else a
theorem sgn3_lt {a b : Int} (h : a < b) : sgn3 a b = -1 := if_pos h
theorem sgn3_gt {a b : Int} (h : b < a) : sgn3 a b = 1 := by unfold sgn3; rw [if_neg (by omega), if_pos h]
theorem sgn3_eq0 {a b : Int} (h : ¬ a < b) (k : ¬ b < a) : sgn3 a b = 0 := by unfold sgn3; rw [if_neg h, if_neg k]
theorem or3_1 {a b c : Int} (h : a ≠ 0) : or3 a b c = a := if_neg h
theorem or3_2 {b c : Int} (h : b ≠ 0) : or3 0 b c = b := by unfold or3; rw [if_pos rfl, if_neg h]
theorem or3_3 {c : Int} : or3 0 0 c = c := by unfold or3; rw [if_pos rfl, if_pos rfl]
theorem or3_cmp (i j s t x y u v : Int) : or3 (sgn3 i x) (sgn3 j y) (sgn3 s u) = leCmp (i, j, s, t) (x, y, u, v) := by
  unfold leCmp
  simp only
  by_cases h1 : i < x
  · rw [sgn3_lt h1, or3_1 (by decide), if_pos h1]
  by_cases h2 : x < i
  · rw [sgn3_gt h2, or3_1 (by decide), if_neg h1, if_pos h2]
  rw [sgn3_eq0 h1 h2, if_neg h1, if_neg h2]
  by_cases h3 : j < y
  · rw [sgn3_lt h3, or3_2 (by decide), if_pos h3]
  by_cases h4 : y < j
  · rw [sgn3_gt h4, or3_2 (by decide), if_neg h3, if_pos h4]
  rw [sgn3_eq0 h3 h4, if_neg h3, if_neg h4, or3_3]
  rfl

end Go.Proofs.YtaekanhjkpoifaaDoor

namespace Go.Proofs.YtaekanhjkpoifaaDoor
open Go.RowKit P
set_option linter.unusedVariables false
set_option linter.unusedSimpArgs false
set_option maxRecDepth 100000

end Go.Proofs.YtaekanhjkpoifaaDoor

namespace Go.Proofs.YtaekanhjkpoifaaDoor
open Go.RowKit P
set_option linter.unusedVariables false
set_option linter.unusedSimpArgs false
set_option maxRecDepth 100000

end Go.Proofs.YtaekanhjkpoifaaDoor
