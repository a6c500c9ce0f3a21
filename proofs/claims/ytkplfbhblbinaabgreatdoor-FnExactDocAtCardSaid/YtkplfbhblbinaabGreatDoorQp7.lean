/-
  Texts of one claim in one: C15e, I14. Own work.
-/
import Derived.Test.YtkplfbhblbinaabGreatDoorQC15
import Derived.Deep.RegionWith
import Derived.Deep.RegionHeld3
import Derived.Test.YtkplfbhblbinaabGreatDoorQp6
import Derived.Test.YtkplfbhblbinaabGreatDoorQI13

/-
  Chapter 10, the laws' equality of lists (eqMemberS): contract. Own work.
-/
namespace Go.Proofs.YtkplfbhblbinaabGreatDoor
open Go.RowKit P
set_option linter.unusedVariables false
set_option linter.unusedSimpArgs false
set_option maxRecDepth 100000

set_option maxHeartbeats 4000000 in
theorem eqMemberS_any (A B : Option Addr) (es fs : List Mb) (c d : Nat) (w : World) (hl : es.length ≤ 9223372036854775807) (hA : Mbs w A es) (hB : Mbs w B fs) :
    Calls Tryz.prog 55 #[.slice A es.length c, .slice B fs.length d] w fun e w' => e = .returned (.bool (decide (es = fs))) ∧ Below w.heap.size w w' := by
  by_cases hlen : es.length = fs.length
  · have hne : ((es.length : Int) != (fs.length : Int)) = false := by simp [hlen]
    have HLEN := Lib.hid hlen
    have hle : es.length ≤ fs.length := by omega
    clear hlen
    go_enter Tryz.func55, Tryz.ntmps55
    go_wp2
    go_loopw [5] (fun i wr => ∃ k : Nat, k ≤ es.length ∧ i = .int .i64 k ∧ es.take k = fs.take k ∧ Below w.heap.size w wr)
      (fun i _ => es.length - (intOf i).toNat)
    case atStart => exact ⟨0, Nat.zero_le _, rfl, by simp, Below.refl _ _⟩
    case round =>
      obtain ⟨k, hk, rfl, htake, hb⟩ := hrel
      by_cases hlt : k < es.length
      · have hlt2 : k < fs.length := by omega
        obtain ⟨b1, off1, s, f, t, A1, u, c1, B1, r, d1, rfl, hbl1, hek1, k0, k1, k2, k3, k4, _, _, _, hcu1, hcm1, hdr1, hdm1, hU1, hR1⟩ := (hA.below hb).at_ k hlt
        obtain ⟨b2, off2, s', f', t', A2, u', c2, B2, r', d2, rfl, hbl2, hek2, s0', s1', s2', s3', s4', _, _, _, hcu2, hcm2, hdr2, hdm2, hU2, hR2⟩ := (hB.below hb).at_ k hlt2
        have HT := Lib.hid htake
        clear htake
        have hst : es.take (k + 1) = fs.take (k + 1) ↔ (s = s' ∧ (f = f' ∧ t = t') ∧ u = u' ∧ r = r') := by
          rw [List.take_succ_eq_append_getElem hlt, List.take_succ_eq_append_getElem hlt2, HT.out, List.append_cancel_left_eq, hek1, hek2]
          simp only [List.cons.injEq, and_true, Prod.mk.injEq]
        have HS := Lib.hid hst
        clear hst hek1 hek2
        have hi0 : (0 : Int) ≤ (k : Int) := by omega
        have hi1 : (k : Int) < (es.length : Int) := by omega
        have hi2 : (k : Int) < (fs.length : Int) := by omega
        have hu9 : u.length ≤ 9223372036854775807 := by unfold maxLen at hcm1; omega
        have hr9 : r.length ≤ 9223372036854775807 := by unfold maxLen at hdm1; omega
        have HU1 := Lib.hid hU1
        have HR1 := Lib.hid hR1
        have HU2 := Lib.hid hU2
        have HR2 := Lib.hid hR2
        generalize hq : decide (s = s' ∧ (f = f' ∧ t = t') ∧ u = u' ∧ r = r') = z
        have HQ := Lib.hid hq
        clear hq hU1 hR1 hU2 hR2
        go_wp2_with fail
        refine wp_region_held_drew (S := (fun V => V.cell? ⟨b1, off1 + k * 5, none⟩ = some (.int .i64 s) ∧ V.cell? ⟨b1, off1 + k * 5 + 1, none⟩ = some (.int .i64 f) ∧ V.cell? ⟨b1, off1 + k * 5 + 2, none⟩ = some (.int .i64 t) ∧ V.cell? ⟨b1, off1 + k * 5 + 3, none⟩ = some (.slice A1 u.length c1) ∧ V.cell? ⟨b1, off1 + k * 5 + 4, none⟩ = some (.slice B1 r.length d1) ∧ V.cell? ⟨b2, off2 + k * 5, none⟩ = some (.int .i64 s') ∧ V.cell? ⟨b2, off2 + k * 5 + 1, none⟩ = some (.int .i64 f') ∧ V.cell? ⟨b2, off2 + k * 5 + 2, none⟩ = some (.int .i64 t') ∧ V.cell? ⟨b2, off2 + k * 5 + 3, none⟩ = some (.slice A2 u'.length c2) ∧ V.cell? ⟨b2, off2 + k * 5 + 4, none⟩ = some (.slice B2 r'.length d2))) (by kernel_rfl) (by exact ⟨k0, k1, k2, k3, k4, s0', s1', s2', s3', s4'⟩) (fun hHeld => ?_)
        refine wpAnyH_take (i := 0) (oi := ?_) (v := ?_) ?_ ?_ ?_ ?_ ?_ ?_ (by exact hHeld) ?_
        rotate_left 2
        · (simp only [List.getElem?_toArray, List.getElem?_cons_zero]; try rfl)
        · kernel_rfl
        · kernel_rfl
        · kernel_rfl
        · exact fun _ _ _ h => h
        · refine Or.inl ⟨by rfl, ?_⟩
          (intro V hSV; (try dsimp only at hSV); obtain ⟨q0, q1, q2, q3, q4, q5, q6, q7, q8, q9⟩ := hSV; go_simp; try with_reducible rfl)
        (try simp only [Act.put, List.setIfInBounds_toArray, List.set_cons_zero, List.set_cons_succ])
        refine wpAnyH_take (i := 1) (oi := ?_) (v := ?_) ?_ ?_ ?_ ?_ ?_ ?_ (by exact hHeld) ?_
        rotate_left 2
        · (simp only [List.getElem?_toArray, List.getElem?_cons_zero, List.getElem?_cons_succ]; try rfl)
        · kernel_rfl
        · kernel_rfl
        · kernel_rfl
        · exact fun _ _ _ h => h
        · refine Or.inl ⟨by rfl, ?_⟩
          (intro V hSV; (try dsimp only at hSV); obtain ⟨q0, q1, q2, q3, q4, q5, q6, q7, q8, q9⟩ := hSV; go_simp; try with_reducible rfl)
        (try simp only [Act.put, List.setIfInBounds_toArray, List.set_cons_zero, List.set_cons_succ])
        refine wpAnyH_take (i := 2) (oi := ?_) (v := ?_) ?_ ?_ ?_ ?_ ?_ ?_ (by exact hHeld) ?_
        rotate_left 2
        · (simp only [List.getElem?_toArray, List.getElem?_cons_zero, List.getElem?_cons_succ]; try rfl)
        · kernel_rfl
        · kernel_rfl
        · kernel_rfl
        · exact fun _ _ _ h => h
        · refine Or.inl ⟨by rfl, ?_⟩
          (intro V hSV; (try dsimp only at hSV); obtain ⟨q0, q1, q2, q3, q4, q5, q6, q7, q8, q9⟩ := hSV; go_simp; try with_reducible rfl)
        (try simp only [Act.put, List.setIfInBounds_toArray, List.set_cons_zero, List.set_cons_succ])
        refine wpAnyH_take (i := 3) (oi := ?_) (v := ?_) ?_ ?_ ?_ ?_ ?_ ?_ (by exact hHeld) ?_
        rotate_left 2
        · (simp only [List.getElem?_toArray, List.getElem?_cons_zero, List.getElem?_cons_succ]; try rfl)
        · kernel_rfl
        · kernel_rfl
        · kernel_rfl
        · exact fun _ _ _ h => h
        · refine Or.inl ⟨by rfl, ?_⟩
          (intro V hSV; (try dsimp only at hSV); obtain ⟨q0, q1, q2, q3, q4, q5, q6, q7, q8, q9⟩ := hSV; go_simp; try with_reducible rfl)
        (try simp only [Act.put, List.setIfInBounds_toArray, List.set_cons_zero, List.set_cons_succ])
        refine wpAnyH_take (i := 4) (oi := ?_) (v := ?_) ?_ ?_ ?_ ?_ ?_ ?_ (by exact hHeld) ?_
        rotate_left 2
        · (simp only [List.getElem?_toArray, List.getElem?_cons_zero, List.getElem?_cons_succ]; try rfl)
        · kernel_rfl
        · kernel_rfl
        · kernel_rfl
        · exact fun _ _ _ h => h
        · refine Or.inl ⟨by rfl, ?_⟩
          (intro V hSV; (try dsimp only at hSV); obtain ⟨q0, q1, q2, q3, q4, q5, q6, q7, q8, q9⟩ := hSV; go_simp; try with_reducible rfl)
        (try simp only [Act.put, List.setIfInBounds_toArray, List.set_cons_zero, List.set_cons_succ])
        refine wpAnyH_take (i := 5) (oi := ?_) (v := ?_) ?_ ?_ ?_ ?_ ?_ ?_ (by exact hHeld) ?_
        rotate_left 2
        · (simp only [List.getElem?_toArray, List.getElem?_cons_zero, List.getElem?_cons_succ]; try rfl)
        · kernel_rfl
        · kernel_rfl
        · kernel_rfl
        · exact fun _ _ _ h => h
        · refine Or.inl ⟨by rfl, ?_⟩
          (intro V hSV; (try dsimp only at hSV); obtain ⟨q0, q1, q2, q3, q4, q5, q6, q7, q8, q9⟩ := hSV; go_simp; try with_reducible rfl)
        (try simp only [Act.put, List.setIfInBounds_toArray, List.set_cons_zero, List.set_cons_succ])
        refine wpAnyH_take (i := 6) (oi := ?_) (v := ?_) ?_ ?_ ?_ ?_ ?_ ?_ (by exact hHeld) ?_
        rotate_left 2
        · (simp only [List.getElem?_toArray, List.getElem?_cons_zero, List.getElem?_cons_succ]; try rfl)
        · kernel_rfl
        · kernel_rfl
        · kernel_rfl
        · exact fun _ _ _ h => h
        · refine Or.inl ⟨by rfl, ?_⟩
          (intro V hSV; (try dsimp only at hSV); obtain ⟨q0, q1, q2, q3, q4, q5, q6, q7, q8, q9⟩ := hSV; go_simp; try with_reducible rfl)
        (try simp only [Act.put, List.setIfInBounds_toArray, List.set_cons_zero, List.set_cons_succ])
        refine wpAnyH_take (i := 7) (oi := ?_) (v := ?_) ?_ ?_ ?_ ?_ ?_ ?_ (by exact hHeld) ?_
        rotate_left 2
        · (simp only [List.getElem?_toArray, List.getElem?_cons_zero, List.getElem?_cons_succ]; try rfl)
        · kernel_rfl
        · kernel_rfl
        · kernel_rfl
        · exact fun _ _ _ h => h
        · refine Or.inl ⟨by rfl, ?_⟩
          (intro V hSV; (try dsimp only at hSV); obtain ⟨q0, q1, q2, q3, q4, q5, q6, q7, q8, q9⟩ := hSV; go_simp; try with_reducible rfl)
        (try simp only [Act.put, List.setIfInBounds_toArray, List.set_cons_zero, List.set_cons_succ])
        refine wpAnyH_ready (rs := [8]) (by kernel_rfl) (by simp) ?_
        refine AllReadyH.cons rfl (fun K hK => ?_) AllReadyH.nil
        go_simp
        refine (eqMember_any s f t s' f' t' A1 u c1 B1 r d1 A2 u' c2 B2 r' d2 _ hu9 hr9 (by have h9 := HU1.out; exact h9) (by have h9 := HR1.out; exact h9) (by have h9 := HU2.out; exact h9) (by have h9 := HR2.out; exact h9)).mono ?_
        rintro e w1 ⟨rfl, hb1⟩
        rw [HQ.out]
        have hb1 : Below wr.heap.size wr w1 := ⟨hb1.os, hb1.tape, hb1.output, hb1.size, hb1.block⟩
        go_wp2_with fail
        refine hK.out _ _ (by exact ⟨((hb1).cell (p := ⟨b1, off1 + k * 5, none⟩) hbl1).trans k0, ((hb1).cell (p := ⟨b1, off1 + k * 5 + 1, none⟩) hbl1).trans k1, ((hb1).cell (p := ⟨b1, off1 + k * 5 + 2, none⟩) hbl1).trans k2, ((hb1).cell (p := ⟨b1, off1 + k * 5 + 3, none⟩) hbl1).trans k3, ((hb1).cell (p := ⟨b1, off1 + k * 5 + 4, none⟩) hbl1).trans k4, ((hb1).cell (p := ⟨b2, off2 + k * 5, none⟩) hbl2).trans s0', ((hb1).cell (p := ⟨b2, off2 + k * 5 + 1, none⟩) hbl2).trans s1', ((hb1).cell (p := ⟨b2, off2 + k * 5 + 2, none⟩) hbl2).trans s2', ((hb1).cell (p := ⟨b2, off2 + k * 5 + 3, none⟩) hbl2).trans s3', ((hb1).cell (p := ⟨b2, off2 + k * 5 + 4, none⟩) hbl2).trans s4'⟩) (fun hHeld => ?_)
        clear hK K
        (try simp only [Act.put, List.setIfInBounds_toArray, List.set_cons_zero, List.set_cons_succ])
        refine wpAnyH_take (i := 9) (oi := ?_) (v := ?_) ?_ ?_ ?_ ?_ ?_ ?_ (by exact hHeld) ?_
        rotate_left 2
        · (simp only [List.getElem?_toArray, List.getElem?_cons_zero, List.getElem?_cons_succ]; try rfl)
        · kernel_rfl
        · kernel_rfl
        · kernel_rfl
        · exact fun _ _ _ h => h
        · refine Or.inl ⟨by rfl, ?_⟩
          (intro V hSV; (try dsimp only at hSV); obtain ⟨q0, q1, q2, q3, q4, q5, q6, q7, q8, q9⟩ := hSV; go_simp; try with_reducible rfl)
        (try simp only [Act.put, List.setIfInBounds_toArray, List.set_cons_zero, List.set_cons_succ])
        refine wpAnyH_done (by kernel_rfl) ?_ _
        have hb9 := below_then hb hb1
        cases z
        · go_wp2
          go_ret
          have : es ≠ fs := by
            intro e
            have h1 := of_decide_eq_false HQ.out
            have h2 := HS.out.1 (by rw [e])
            exact h1 h2
          exact ⟨by simp [this], hb9⟩
        · go_wp2
          go_roundw
          case rel => exact ⟨k + 1, by omega, by go_num, HS.out.2 (of_decide_eq_true HQ.out), hb9⟩
          case measure => simp [intOf]; omega
      · go_wp2
        go_ret
        have e1 : k = es.length := by omega
        subst e1
        rw [List.take_length] at htake
        have e2 : es = fs := by rw [htake, HLEN.out, List.take_length]
        exact ⟨by simp [e2], hb⟩
  · have hne : ((es.length : Int) != (fs.length : Int)) = true := by simp; omega
    go_enter Tryz.func55, Tryz.ntmps55
    go_wp2
    go_ret
    exact ⟨by simp; intro e; exact hlen (by rw [e]), Below.refl _ _⟩
end Go.Proofs.YtkplfbhblbinaabGreatDoor

/-
  Chapter 7, slices.Delete of one lease, LeaseDrop in the program: contracts. Own work.
-/
namespace Go.Proofs.YtkplfbhblbinaabGreatDoor
open Go.RowKit P
set_option linter.unusedVariables false
set_option linter.unusedSimpArgs false
set_option maxRecDepth 100000

theorem slcLe_from (g n c j : Nat) (hj : j ≤ n) (hc : n ≤ c) (hc9 : c ≤ maxLen) : ∀ W, (Instr.slice 32 (.slice (some ⟨g, 0, none⟩) n c) (some (.int .i64 (j : Int))) none none).run Tryz.prog W = .ok (.slice (some (if c = j then ⟨g, 0, none⟩ else ⟨g, j * 4, none⟩)) (n - j) (c - j)) W := by
  intro W
  unfold maxLen at hc9
  have hz : ∀ W, (Go.sizeOf 77).run Tryz.prog W = .ok 4 W := fun W => by kernel_rfl
  have ht' : Tryz.prog.underlying 32 = some (.slice (Tryz.prog.elem 32)) := by simp [Program.elem, Tryz.underlying32]
  have he : Tryz.prog.elem 32 = 77 := by simp [Program.elem, Tryz.underlying32]
  rw [run_slice_l W 32 _ _ _ ht' .i64 _ (by omega) (by omega), he, hz]
  by_cases h0 : c = j
  · simp [Result.andThen, sliced, h0]
  · by_cases h1 : j = 0
    · subst h1; simp [Result.andThen, sliced, Addr.add, h0]
    · have h2 : ¬ j * 4 = 0 := by omega
      simp [Result.andThen, sliced, Addr.add, h0, h1, h2]
theorem slcLe_three (g n c i : Nat) (hi : i < n) (hc : n ≤ c) (hc9 : c ≤ maxLen) : ∃ u, ∀ W, (Instr.slice 32 (.slice (some ⟨g, 0, none⟩) n c) (some (.int .i64 (i : Int))) (some (.int .i64 ((i : Int) + 1))) (some (.int .i64 (n : Int)))).run Tryz.prog W = .ok u W := by
  unfold maxLen at hc9
  have hz : ∀ W, (Go.sizeOf 77).run Tryz.prog W = .ok 4 W := fun W => by kernel_rfl
  have ht' : Tryz.prog.underlying 32 = some (.slice (Tryz.prog.elem 32)) := by simp [Program.elem, Tryz.underlying32]
  have he : Tryz.prog.elem 32 = 77 := by simp [Program.elem, Tryz.underlying32]
  refine ⟨sliced (some ⟨g, 0, none⟩) ((i : Int)).toNat ((i : Int) + 1).toNat ((n : Int)).toNat 4, fun W => ?_⟩
  rw [run_slice_lhm W 32 _ _ _ ht' .i64 .i64 .i64 _ _ _ (by omega) (by omega) (by omega) (by omega), he, hz]
  rfl
theorem slcLe_lh (g n c l h : Nat) (hl : l < h) (hh : h ≤ c) (hc9 : c ≤ maxLen) : ∀ W, (Instr.slice 32 (.slice (some ⟨g, 0, none⟩) n c) (some (.int .i64 (l : Int))) (some (.int .i64 (h : Int))) none).run Tryz.prog W = .ok (.slice (some ⟨g, l * 4, none⟩) (h - l) (c - l)) W := by
  intro W
  unfold maxLen at hc9
  have hz : ∀ W, (Go.sizeOf 77).run Tryz.prog W = .ok 4 W := fun W => by kernel_rfl
  have ht' : Tryz.prog.underlying 32 = some (.slice (Tryz.prog.elem 32)) := by simp [Program.elem, Tryz.underlying32]
  have he : Tryz.prog.elem 32 = 77 := by simp [Program.elem, Tryz.underlying32]
  rw [run_slice_lh W 32 _ _ _ ht' .i64 .i64 _ _ (by omega) (by omega) (by omega), he, hz]
  have h0 : ¬ c = l := by omega
  by_cases h1 : l = 0
  · subst h1; simp [Result.andThen, sliced, Addr.add, h0]
  · have h2 : ¬ l * 4 = 0 := by omega
    simp [Result.andThen, sliced, Addr.add, h0, h1, h2]

theorem step_run_app {w : World} {ops : Array Oper} {o : Oper} {a : Act} {K : Act → World → Prop} {Q : Exit → Act → World → Prop} {X : Prop} (hgd : o.guard = none) (s x : Operand)
    (ho : o.op = .call { callee := .builtin .append, args := #[s, x], argTypes := #[32, 32] })
    (v y : Value) (hs : a.eval s = v) (hx : a.eval x = y) {v' : Value} {w' : World} (hrun : (Builtin.append_ #[32, 32] o.type #[v, y]).run Tryz.prog w = .ok v' w') (h : K (a.put o.dst v') w') :
    if Region.wanted o (yielded ops a.tmps) = true then Oper.wp Tryz.prog o a w K Q else X := by
  have hw : Region.wanted o (yielded ops a.tmps) = true := by simp [Region.wanted, hgd]
  rw [if_pos hw]
  unfold Oper.wp execOp
  simp only [ho, resolve, invoke, builtin, Sem.run_bind, Sem.run_pure, Result.andThen_ok, List.map_toArray, List.map_cons, List.map_nil, hs, hx, hrun]
  exact h

/-- The append that closes the gap of one lease. -/
theorem run_gap {W : World} {g cap i : Nat} {cur : Array Value} {es : List Le} (hB : Blk W g cur 77) (hs : cur.size = cap * 4) (hn : es.length ≤ cap) (ht : cur.toList.take (es.length * 4) = es.flatMap leCl) (hi : i < es.length) :
    ∃ W1 cur1, (∀ ty c', (Builtin.append_ #[32, 32] ty #[.slice (some ⟨g, 0, none⟩) i cap, .slice (some (if cap = i + 1 then ⟨g, 0, none⟩ else ⟨g, (i + 1) * 4, none⟩)) (es.length - (i + 1)) c']).run Tryz.prog W = .ok (.slice (some ⟨g, 0, none⟩) (es.length - 1) cap) W1) ∧
      Blk W1 g cur1 77 ∧ cur1.size = cur.size ∧ cur1.toList.take ((es.length - 1) * 4) = (es.take i ++ es.drop (i + 1)).flatMap leCl ∧ Keeps [g] W W1 := by
  obtain ⟨inf, hif, hz, hsz, hby⟩ := info_parts Tryz.infoLe
  have hfl := leCl_flat es
  have hd : ((es.drop (i + 1)).flatMap leCl).length = (es.length - (i + 1)) * 4 := by rw [leCl_flat, List.length_drop]
  have hsplit : es.flatMap leCl = (es.take (i + 1)).flatMap leCl ++ (es.drop (i + 1)).flatMap leCl := by rw [← List.flatMap_append, List.take_append_drop]
  have ht1 : ((es.take (i + 1)).flatMap leCl).length = (i + 1) * 4 := by rw [leCl_flat, List.length_take]; omega
  have hget : ∀ j u, ((es.drop (i + 1)).flatMap leCl)[j]? = some u → cur[(i + 1) * 4 + j]? = some u := by
    intro j u hu
    have hj : j < (es.length - (i + 1)) * 4 := by
      have := (List.getElem?_eq_some_iff.1 hu).1
      omega
    have h9 : (es.flatMap leCl)[(i + 1) * 4 + j]? = some u := by
      rw [hsplit, List.getElem?_append_right (by omega), ht1, Nat.add_sub_cancel_left]
      exact hu
    rw [← ht, List.getElem?_take, if_pos (by omega)] at h9
    simpa using h9
  have hnews : ∀ j u, ((es.drop (i + 1)).flatMap leCl)[j]? = some u → W.cell? ((if cap = i + 1 then (⟨g, 0, none⟩ : Addr) else ⟨g, (i + 1) * 4, none⟩).add j) = some u := by
    intro j u hu
    have hj : j < (es.length - (i + 1)) * 4 := by
      have := (List.getElem?_eq_some_iff.1 hu).1
      omega
    rw [if_neg (by omega), add_plain, hB.cell]
    exact hget j u hu
  have hr := fun ty c' => run_append_room (P := Tryz.prog) W 32 ty 77 inf Tryz.underlying32 hif g i cap cur hB (if cap = i + 1 then (⟨g, 0, none⟩ : Addr) else ⟨g, (i + 1) * 4, none⟩) (es.length - (i + 1)) c' ((es.drop (i + 1)).flatMap leCl) (by rw [hd, hsz]) hnews (leCl_one _) (by omega) (by rw [hd, hsz]; omega)
  rw [show i + (es.length - (i + 1)) = es.length - 1 by omega] at hr
  refine ⟨_, _, hr, setRow_heap W g cur _ 77 _ hB, ?_, ?_, ?_⟩
  · rw [List.size_toArray, List.length_append, List.length_append, List.length_take, List.length_drop, hd, hsz, Array.length_toList]
    omega
  · rw [hsz, List.flatMap_append]
    have e1 : cur.toList.take (i * 4) = (es.take i).flatMap leCl := by
      have h9 : (cur.toList.take (es.length * 4)).take (i * 4) = (es.flatMap leCl).take (i * 4) := by rw [ht]
      rw [List.take_take, Nat.min_eq_left (by omega)] at h9
      rw [h9]
      have h8 : es.flatMap leCl = (es.take i).flatMap leCl ++ (es.drop i).flatMap leCl := by rw [← List.flatMap_append, List.take_append_drop]
      rw [h8, List.take_append_of_le_length (by rw [leCl_flat, List.length_take]; omega), List.take_of_length_le (by rw [leCl_flat, List.length_take]; omega)]
    rw [e1]
    simp only [List.toList_toArray]
    rw [List.take_append_of_le_length (by rw [List.length_append, leCl_flat, leCl_flat, List.length_take, List.length_drop]; omega), List.take_of_length_le (by rw [List.length_append, leCl_flat, leCl_flat, List.length_take, List.length_drop]; omega)]
  · exact ⟨rfl, rfl, rfl, by rw [Go.setRow_size]; exact Nat.le_refl _, fun k _ hk => Go.setRow_other W g k _ (fun e => hk (by rw [e]; simp))⟩

/-- What LeaseDrop gives. -/
def Drops (es : List Le) (l : Le) (w : World) (e : Ending) (w' : World) : Prop := ∃ v, e = .returned (.tuple #[v, .int .i64 (dropN es l)]) ∧ OwR w' w.heap.size v (dropL es l) ∧ Below w.heap.size w w'
theorem drop_bad {es : List Le} {l : Le} (h : (leOk es && leRight l) = false) : dropL es l = [] ∧ dropN es l = 1 := by
  unfold dropL dropN
  rw [h]
  exact ⟨rfl, rfl⟩
theorem drop_none {es : List Le} {l : Le} (h : (leOk es && leRight l) = true) (h2 : ¬ keyIx es l < es.length) : dropL es l = [] ∧ dropN es l = 5 := by
  unfold dropL dropN
  rw [if_pos h, if_pos h, if_neg h2, if_neg h2]
  exact ⟨rfl, rfl⟩
theorem drop_fine {es : List Le} {l : Le} (h : (leOk es && leRight l) = true) (h2 : keyIx es l < es.length) : dropL es l = es.take (keyIx es l) ++ es.drop (keyIx es l + 1) ∧ dropN es l = 0 := by
  unfold dropL dropN
  rw [if_pos h, if_pos h, if_pos h2, if_pos h2]
  exact ⟨rfl, rfl⟩

end Go.Proofs.YtkplfbhblbinaabGreatDoor
