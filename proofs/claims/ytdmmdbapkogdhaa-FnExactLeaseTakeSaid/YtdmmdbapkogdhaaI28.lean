/-
  Chapter 7, LeaseTake and LeaseRenew in the program: contracts. Own work.
-/
import Derived.Test.YtdmmdbapkogdhaaI23
import Derived.Test.YtdmmdbapkogdhaaP14
import Derived.Test.YtdmmdbapkogdhaaS15
namespace Go.Proofs.Ytdmmdbapkogdhaa
open Go.RowKit P
set_option linter.unusedVariables false
set_option linter.unusedSimpArgs false
set_option maxRecDepth 100000

set_option maxHeartbeats 16000000 in
theorem implLeaseTake_any (A : Option Addr) (es : List Le) (c : Nat) (x y s t a : Int) (w : World) (hl : es.length ≤ 1048576) (hA : Ll w A es) :
    Calls Try.prog 23 #[.slice A es.length c, .agg #[.int .i64 x, .int .i64 y, .int .i64 s, .int .i64 t], .int .i64 a] w fun e w' => ∃ v, e = .returned (.tuple #[v, .int .i64 (takeN es (x, y, s, t) a)]) ∧ OwR w' w.heap.size v (takeL es (x, y, s, t) a) ∧ Below w.heap.size w w' := by
  obtain ⟨N, hN⟩ : ∃ N, takeN es (x, y, s, t) a = N := ⟨_, rfl⟩
  obtain ⟨L, hL⟩ : ∃ L, takeL es (x, y, s, t) a = L := ⟨_, rfl⟩
  rw [hN, hL]
  have HN := Lib.hid hN
  have HL := Lib.hid hL
  clear hN hL
  have hn9 : es.length ≤ 9223372036854775807 := by omega
  obtain ⟨z, hz⟩ : ∃ z, leOk es = z := ⟨_, rfl⟩
  obtain ⟨q, hq⟩ : ∃ q, leRight (x, y, s, t) = q := ⟨_, rfl⟩
  obtain ⟨k, hk⟩ : ∃ k, decide (0 ≤ a ∧ a ≤ 1000) = k := ⟨_, rfl⟩
  have HZ := Lib.hid hz
  have HQ := Lib.hid hq
  have HK := Lib.hid hk
  clear hz hq hk
  have hA0 := Lib.hid hA
  have BX := Lib.hid (Blk.new w #[.int .i64 x, .int .i64 y, .int .i64 s, .int .i64 t] 26)
  have HB := Lib.hid ((Below.refl w.heap.size w).alloc (Nat.le_refl _) (.cells #[.int .i64 x, .int .i64 y, .int .i64 s, .int .i64 t] 26))
  clear hA
  go_enter Try.func23, Try.ntmps23
  have HA := Lib.hid (hA0.out.below HB.out)
  have p0 := BX.out.cell 0
  have p1 := BX.out.cell 1
  have p2 := BX.out.cell 2
  have p3 := BX.out.cell 3
  go_wp2_with fail
  refine (implLeasesOk_any A es c _ hn9 HA.out).mono ?_
  rintro e w1 ⟨rfl, hb⟩
  clear p0 p1 p2 p3
  clear HA
  have BX := Lib.hid (BX.out.below hb)
  have HB := Lib.hid (below_then HB.out hb)
  clear hb
  rw [HZ.out]
  cases z
  · skip
    obtain ⟨e1, e2⟩ := takeN_form (by rw [HZ.out]; rfl)
    have HN := Lib.hid (HN.out.symm.trans e1)
    have HL := Lib.hid (HL.out.symm.trans e2)
    clear e1 e2
    have p0 := BX.out.cell 0
    have p1 := BX.out.cell 1
    have p2 := BX.out.cell 2
    have p3 := BX.out.cell 3
    go_wp2
    refine bodyPost_ret (v := .tuple #[.slice none 0 0, .int .i64 1]) (by simp [results, Try.results23, go_sem]) rfl ?_
    exact ⟨_, by rw [HN.out], by rw [HL.out]; exact OwR.nil _ _, HB.out⟩
  have HA := Lib.hid (hA0.out.below HB.out)
  have p0 := BX.out.cell 0
  have p1 := BX.out.cell 1
  have p2 := BX.out.cell 2
  have p3 := BX.out.cell 3
  go_wp2_with fail
  refine (isValid_any x y s t _).mono ?_
  rintro e w2 ⟨rfl, hb⟩
  clear p0 p1 p2 p3
  clear HA
  have BX := Lib.hid (BX.out.below hb)
  have HB := Lib.hid (below_then HB.out hb)
  clear hb
  rw [HQ.out]
  cases q
  · skip
    obtain ⟨e1, e2⟩ := takeN_form (by rw [HZ.out, HQ.out]; rfl)
    have HN := Lib.hid (HN.out.symm.trans e1)
    have HL := Lib.hid (HL.out.symm.trans e2)
    clear e1 e2
    have p0 := BX.out.cell 0
    have p1 := BX.out.cell 1
    have p2 := BX.out.cell 2
    have p3 := BX.out.cell 3
    go_wp2
    refine bodyPost_ret (v := .tuple #[.slice none 0 0, .int .i64 1]) (by simp [results, Try.results23, go_sem]) rfl ?_
    exact ⟨_, by rw [HN.out], by rw [HL.out]; exact OwR.nil _ _, HB.out⟩
  have HA := Lib.hid (hA0.out.below HB.out)
  have p0 := BX.out.cell 0
  have p1 := BX.out.cell 1
  have p2 := BX.out.cell 2
  have p3 := BX.out.cell 3
  go_wp2_with fail
  refine (fitsClock_any a _).mono ?_
  rintro e w3 ⟨rfl, rfl⟩
  clear p0 p1 p2 p3
  clear HA
  rw [HK.out]
  cases k
  · skip
    obtain ⟨e1, e2⟩ := takeN_form (by rw [HZ.out, HQ.out, HK.out]; rfl)
    have HN := Lib.hid (HN.out.symm.trans e1)
    have HL := Lib.hid (HL.out.symm.trans e2)
    clear e1 e2
    have p0 := BX.out.cell 0
    have p1 := BX.out.cell 1
    have p2 := BX.out.cell 2
    have p3 := BX.out.cell 3
    go_wp2
    refine bodyPost_ret (v := .tuple #[.slice none 0 0, .int .i64 1]) (by simp [results, Try.results23, go_sem]) rfl ?_
    exact ⟨_, by rw [HN.out], by rw [HL.out]; exact OwR.nil _ _, HB.out⟩
  have hlen := leOk_len HZ.out
  have hin := leIn_right HQ.out
  by_cases hxy : x = y
  · skip
    have hxb : (x == y) = true := by simp [hxy]
    obtain ⟨e1, e2⟩ := takeN_form (by rw [HZ.out, HQ.out, HK.out]; simp [hxy])
    have HN := Lib.hid (HN.out.symm.trans e1)
    have HL := Lib.hid (HL.out.symm.trans e2)
    clear e1 e2
    have p0 := BX.out.cell 0
    have p1 := BX.out.cell 1
    have p2 := BX.out.cell 2
    have p3 := BX.out.cell 3
    go_wp2
    refine bodyPost_ret (v := .tuple #[.slice none 0 0, .int .i64 1]) (by simp [results, Try.results23, go_sem]) rfl ?_
    exact ⟨_, by rw [HN.out], by rw [HL.out]; exact OwR.nil _ _, HB.out⟩
  have hxb : (x == y) = false := by simp [hxy]
  have HF := Lib.hid (show (leOk es && leRight (x, y, s, t) && decide (0 ≤ a ∧ a ≤ 1000) && !decide (((x, y, s, t) : Le).1 = ((x, y, s, t) : Le).2.1)) = true by rw [HZ.out, HQ.out, HK.out]; simp [hxy])
  clear hxy
  obtain ⟨g, hg⟩ : ∃ g, decide (a < t) = g := ⟨_, rfl⟩
  have HG := Lib.hid hg
  clear hg
  have HA := Lib.hid (hA0.out.below HB.out)
  have p0 := BX.out.cell 0
  have p1 := BX.out.cell 1
  have p2 := BX.out.cell 2
  have p3 := BX.out.cell 3
  go_wp2_with fail
  refine (isActive_any x y s t a _).mono ?_
  rintro e w4 ⟨rfl, hb⟩
  clear p0 p1 p2 p3
  clear HA
  have BX := Lib.hid (BX.out.below hb)
  have HB := Lib.hid (below_then HB.out hb)
  clear hb
  rw [HG.out]
  cases g
  · skip
    obtain ⟨e1, e2⟩ := takeN_clock HF.out (of_decide_eq_false HG.out)
    have HN := Lib.hid (HN.out.symm.trans e1)
    have HL := Lib.hid (HL.out.symm.trans e2)
    clear e1 e2
    have p0 := BX.out.cell 0
    have p1 := BX.out.cell 1
    have p2 := BX.out.cell 2
    have p3 := BX.out.cell 3
    go_wp2
    refine bodyPost_ret (v := .tuple #[.slice none 0 0, .int .i64 2]) (by simp [results, Try.results23, go_sem]) rfl ?_
    exact ⟨_, by rw [HN.out], by rw [HL.out]; exact OwR.nil _ _, HB.out⟩
  obtain ⟨h, hh⟩ : ∃ h, heldL es (x, y, s, t) a = h := ⟨_, rfl⟩
  have HH := Lib.hid hh
  clear hh
  have HA := Lib.hid (hA0.out.below HB.out)
  have p0 := BX.out.cell 0
  have p1 := BX.out.cell 1
  have p2 := BX.out.cell 2
  have p3 := BX.out.cell 3
  go_wp2_with fail
  refine (isHeld_any A es c x y s t a _ HZ.out HA.out).mono ?_
  rintro e w5 ⟨rfl, hb⟩
  clear p0 p1 p2 p3
  clear HA
  have BX := Lib.hid (BX.out.below hb)
  have HB := Lib.hid (below_then HB.out hb)
  clear hb
  rw [HH.out]
  cases h
  rotate_left
  · skip
    obtain ⟨e1, e2⟩ := takeN_held HF.out (of_decide_eq_true HG.out) HH.out
    have HN := Lib.hid (HN.out.symm.trans e1)
    have HL := Lib.hid (HL.out.symm.trans e2)
    clear e1 e2
    have p0 := BX.out.cell 0
    have p1 := BX.out.cell 1
    have p2 := BX.out.cell 2
    have p3 := BX.out.cell 3
    go_wp2
    refine bodyPost_ret (v := .tuple #[.slice none 0 0, .int .i64 3]) (by simp [results, Try.results23, go_sem]) rfl ?_
    exact ⟨_, by rw [HN.out], by rw [HL.out]; exact OwR.nil _ _, HB.out⟩
  obtain ⟨f, hf⟩ : ∃ f, decide (keyIx es (x, y, s, t) < es.length) = f := ⟨_, rfl⟩
  have HFK := Lib.hid hf
  clear hf
  have HA := Lib.hid (hA0.out.below HB.out)
  have p0 := BX.out.cell 0
  have p1 := BX.out.cell 1
  have p2 := BX.out.cell 2
  have p3 := BX.out.cell 3
  go_wp2_with fail
  refine (hasKey_any A es c x y s t _ HZ.out HA.out).mono ?_
  rintro e w6 ⟨rfl, hb⟩
  clear p0 p1 p2 p3
  clear HA
  have BX := Lib.hid (BX.out.below hb)
  have HB := Lib.hid (below_then HB.out hb)
  clear hb
  rw [HFK.out]
  cases f
  rotate_left
  · skip
    obtain ⟨e1, e2⟩ := takeN_full HF.out (of_decide_eq_true HG.out) HH.out (.inl (of_decide_eq_true HFK.out))
    have HN := Lib.hid (HN.out.symm.trans e1)
    have HL := Lib.hid (HL.out.symm.trans e2)
    clear e1 e2
    have p0 := BX.out.cell 0
    have p1 := BX.out.cell 1
    have p2 := BX.out.cell 2
    have p3 := BX.out.cell 3
    go_wp2
    refine bodyPost_ret (v := .tuple #[.slice none 0 0, .int .i64 4]) (by simp [results, Try.results23, go_sem]) rfl ?_
    exact ⟨_, by rw [HN.out], by rw [HL.out]; exact OwR.nil _ _, HB.out⟩
  by_cases h12 : es.length = 12
  · skip
    have h12b : ((es.length : Int) == 12) = true := by simp; omega
    have HA := Lib.hid (hA0.out.below HB.out)
    obtain ⟨e1, e2⟩ := takeN_full HF.out (of_decide_eq_true HG.out) HH.out (.inr h12)
    have HN := Lib.hid (HN.out.symm.trans e1)
    have HL := Lib.hid (HL.out.symm.trans e2)
    clear e1 e2
    have p0 := BX.out.cell 0
    have p1 := BX.out.cell 1
    have p2 := BX.out.cell 2
    have p3 := BX.out.cell 3
    go_wp2
    refine bodyPost_ret (v := .tuple #[.slice none 0 0, .int .i64 4]) (by simp [results, Try.results23, go_sem]) rfl ?_
    exact ⟨_, by rw [HN.out], by rw [HL.out]; exact OwR.nil _ _, HB.out⟩
  have h12b : ((es.length : Int) == 12) = false := by simp; omega
  obtain ⟨e1, e2⟩ := takeN_fine HF.out (of_decide_eq_true HG.out) HH.out (fun h => h.elim (of_decide_eq_false HFK.out) h12)
  have HN := Lib.hid (HN.out.symm.trans e1)
  have HL := Lib.hid (HL.out.symm.trans e2)
  clear e1 e2 h12
  have HA := Lib.hid (hA0.out.below HB.out)
  have p0 := BX.out.cell 0
  have p1 := BX.out.cell 1
  have p2 := BX.out.cell 2
  have p3 := BX.out.cell 3
  have zb := BX.out.lt
  have hzw := HB.out.size
  go_wp2_with fail
  refine wp_region_held_drew (S := (fun V => V.cell? ⟨w.heap.size, 0, none⟩ = some (.int .i64 x) ∧ V.cell? ⟨w.heap.size, 1, none⟩ = some (.int .i64 y) ∧ V.cell? ⟨w.heap.size, 2, none⟩ = some (.int .i64 s) ∧ V.cell? ⟨w.heap.size, 3, none⟩ = some (.int .i64 t))) (by kernel_rfl) (by exact ⟨p0, p1, p2, p3⟩) (fun hHeld => ?_)
  refine wpAnyH_take (i := 0) (oi := ?_) (v := ?_) ?_ ?_ ?_ ?_ ?_ ?_ (by exact hHeld) ?_
  rotate_left 2
  · (simp only [List.getElem?_toArray, List.getElem?_cons_zero]; try rfl)
  · kernel_rfl
  · kernel_rfl
  · kernel_rfl
  · exact fun _ _ _ h => h
  · refine Or.inl ⟨by rfl, ?_⟩
    (intro V hSV; (try dsimp only at hSV); obtain ⟨q0, q1, q2, q3⟩ := hSV; go_simp; try with_reducible rfl)
  (try simp only [Act.put, List.setIfInBounds_toArray, List.set_cons_zero, List.set_cons_succ])
  refine wpAnyH_take (i := 2) (oi := ?_) (v := ?_) ?_ ?_ ?_ ?_ ?_ ?_ (by exact hHeld) ?_
  rotate_left 2
  · (simp only [List.getElem?_toArray, List.getElem?_cons_zero, List.getElem?_cons_succ]; try rfl)
  · kernel_rfl
  · kernel_rfl
  · kernel_rfl
  · exact fun _ _ _ h => h
  · refine Or.inl ⟨by rfl, ?_⟩
    (intro V hSV; (try dsimp only at hSV); obtain ⟨q0, q1, q2, q3⟩ := hSV; go_simp; try with_reducible rfl)
  (try simp only [Act.put, List.setIfInBounds_toArray, List.set_cons_zero, List.set_cons_succ])
  refine wpAnyH_ready (rs := [1]) (by kernel_rfl) (by simp) ?_
  refine AllReadyH.cons rfl (fun K hK => ?_) AllReadyH.nil
  go_simp
  refine (cloneLe_any A es _ c _ rfl (by omega) (by exact HA.out)).mono ?_
  rintro e y1 ⟨v1, rfl, hO1, hb1⟩
  have hb1 : Below w6.heap.size w6 y1 := ⟨hb1.os, hb1.tape, hb1.output, hb1.size, hb1.block⟩
  have hO1 : OwR y1 w6.heap.size v1 es := ⟨hO1.row, hO1.in_⟩
  have HO1 := Lib.hid hO1
  have hz1 := hb1.size
  clear hO1
  go_wp2_with fail
  refine hK.out _ _ (by exact ⟨((hb1).cell (p := ⟨w.heap.size, 0, none⟩) zb).trans p0, ((hb1).cell (p := ⟨w.heap.size, 1, none⟩) zb).trans p1, ((hb1).cell (p := ⟨w.heap.size, 2, none⟩) zb).trans p2, ((hb1).cell (p := ⟨w.heap.size, 3, none⟩) zb).trans p3⟩) (fun hHeld => ?_)
  clear hK K
  (try simp only [Act.put, List.setIfInBounds_toArray, List.set_cons_zero, List.set_cons_succ])
  refine wpAnyH_ready (rs := [3]) (by kernel_rfl) (by simp) ?_
  refine AllReadyH.cons rfl (fun K hK => ?_) AllReadyH.nil
  go_simp
  refine (putLease_any v1 es x y s t w6.heap.size _ HZ.out HO1.out hin hz1).mono ?_
  rintro e y2 ⟨v2, rfl, hO2, hg2⟩
  have hb2 : Below w6.heap.size w6 y2 := hb1.trans ((Keeps.of_grown hg2).below hz1 (fun k hk => (HO1.out.range k hk).1))
  have HO2 := Lib.hid (hO2.mono (base' := w.heap.size) hzw)
  clear hO2 hg2
  go_wp2_with fail
  refine hK.out _ _ (by exact ⟨((hb2).cell (p := ⟨w.heap.size, 0, none⟩) zb).trans p0, ((hb2).cell (p := ⟨w.heap.size, 1, none⟩) zb).trans p1, ((hb2).cell (p := ⟨w.heap.size, 2, none⟩) zb).trans p2, ((hb2).cell (p := ⟨w.heap.size, 3, none⟩) zb).trans p3⟩) (fun hHeld => ?_)
  clear hK K
  (try simp only [Act.put, List.setIfInBounds_toArray, List.set_cons_zero, List.set_cons_succ])
  refine wpAnyH_take (i := 4) (oi := ?_) (v := ?_) ?_ ?_ ?_ ?_ ?_ ?_ (by exact hHeld) ?_
  rotate_left 2
  · (simp only [List.getElem?_toArray, List.getElem?_cons_zero, List.getElem?_cons_succ]; try rfl)
  · kernel_rfl
  · kernel_rfl
  · kernel_rfl
  · exact fun _ _ _ h => h
  · refine Or.inl ⟨by rfl, ?_⟩
    (intro V hSV; (try dsimp only at hSV); obtain ⟨q0, q1, q2, q3⟩ := hSV; go_simp; try with_reducible rfl)
  (try simp only [Act.put, List.setIfInBounds_toArray, List.set_cons_zero, List.set_cons_succ])
  refine wpAnyH_take (i := 5) (oi := ?_) (v := ?_) ?_ ?_ ?_ ?_ ?_ ?_ (by exact hHeld) ?_
  rotate_left 2
  · (simp only [List.getElem?_toArray, List.getElem?_cons_zero, List.getElem?_cons_succ]; try rfl)
  · kernel_rfl
  · kernel_rfl
  · kernel_rfl
  · exact fun _ _ _ h => h
  · refine Or.inl ⟨by rfl, ?_⟩
    (intro V hSV; (try dsimp only at hSV); obtain ⟨q0, q1, q2, q3⟩ := hSV; go_simp; try with_reducible rfl)
  (try simp only [Act.put, List.setIfInBounds_toArray, List.set_cons_zero, List.set_cons_succ])
  refine wpAnyH_done (by kernel_rfl) ?_ _
  clear hHeld p0 p1 p2 p3
  have HB := Lib.hid (below_then HB.out hb2)
  go_wp2
  refine bodyPost_ret (v := .tuple #[v2, .int .i64 0]) (by simp [results, Try.results23, go_sem]) rfl ?_
  exact ⟨_, by rw [HN.out], by rw [HL.out]; exact HO2.out, HB.out⟩

set_option maxHeartbeats 16000000 in
theorem implLeaseRenew_any (A : Option Addr) (es : List Le) (c : Nat) (x y s t a : Int) (w : World) (hl : es.length ≤ 1048576) (hA : Ll w A es) :
    Calls Try.prog 25 #[.slice A es.length c, .agg #[.int .i64 x, .int .i64 y, .int .i64 s, .int .i64 t], .int .i64 a] w fun e w' => ∃ v, e = .returned (.tuple #[v, .int .i64 (renewN es (x, y, s, t) a)]) ∧ OwR w' w.heap.size v (renewL es (x, y, s, t) a) ∧ Below w.heap.size w w' := by
  obtain ⟨N, hN⟩ : ∃ N, renewN es (x, y, s, t) a = N := ⟨_, rfl⟩
  obtain ⟨L, hL⟩ : ∃ L, renewL es (x, y, s, t) a = L := ⟨_, rfl⟩
  rw [hN, hL]
  have HN := Lib.hid hN
  have HL := Lib.hid hL
  clear hN hL
  have hn9 : es.length ≤ 9223372036854775807 := by omega
  obtain ⟨z, hz⟩ : ∃ z, leOk es = z := ⟨_, rfl⟩
  obtain ⟨q, hq⟩ : ∃ q, leRight (x, y, s, t) = q := ⟨_, rfl⟩
  obtain ⟨k, hk⟩ : ∃ k, decide (0 ≤ a ∧ a ≤ 1000) = k := ⟨_, rfl⟩
  have HZ := Lib.hid hz
  have HQ := Lib.hid hq
  have HK := Lib.hid hk
  clear hz hq hk
  have hA0 := Lib.hid hA
  have BX := Lib.hid (Blk.new w #[.int .i64 x, .int .i64 y, .int .i64 s, .int .i64 t] 26)
  have HB := Lib.hid ((Below.refl w.heap.size w).alloc (Nat.le_refl _) (.cells #[.int .i64 x, .int .i64 y, .int .i64 s, .int .i64 t] 26))
  clear hA
  go_enter Try.func25, Try.ntmps25
  have HA := Lib.hid (hA0.out.below HB.out)
  have p0 := BX.out.cell 0
  have p1 := BX.out.cell 1
  have p2 := BX.out.cell 2
  have p3 := BX.out.cell 3
  go_wp2_with fail
  refine (implLeasesOk_any A es c _ hn9 HA.out).mono ?_
  rintro e w1 ⟨rfl, hb⟩
  clear p0 p1 p2 p3
  clear HA
  have BX := Lib.hid (BX.out.below hb)
  have HB := Lib.hid (below_then HB.out hb)
  clear hb
  rw [HZ.out]
  cases z
  · skip
    obtain ⟨e1, e2⟩ := renewN_form (by rw [HZ.out]; rfl)
    have HN := Lib.hid (HN.out.symm.trans e1)
    have HL := Lib.hid (HL.out.symm.trans e2)
    clear e1 e2
    have p0 := BX.out.cell 0
    have p1 := BX.out.cell 1
    have p2 := BX.out.cell 2
    have p3 := BX.out.cell 3
    go_wp2
    refine bodyPost_ret (v := .tuple #[.slice none 0 0, .int .i64 1]) (by simp [results, Try.results25, go_sem]) rfl ?_
    exact ⟨_, by rw [HN.out], by rw [HL.out]; exact OwR.nil _ _, HB.out⟩
  have HA := Lib.hid (hA0.out.below HB.out)
  have p0 := BX.out.cell 0
  have p1 := BX.out.cell 1
  have p2 := BX.out.cell 2
  have p3 := BX.out.cell 3
  go_wp2_with fail
  refine (isValid_any x y s t _).mono ?_
  rintro e w2 ⟨rfl, hb⟩
  clear p0 p1 p2 p3
  clear HA
  have BX := Lib.hid (BX.out.below hb)
  have HB := Lib.hid (below_then HB.out hb)
  clear hb
  rw [HQ.out]
  cases q
  · skip
    obtain ⟨e1, e2⟩ := renewN_form (by rw [HZ.out, HQ.out]; rfl)
    have HN := Lib.hid (HN.out.symm.trans e1)
    have HL := Lib.hid (HL.out.symm.trans e2)
    clear e1 e2
    have p0 := BX.out.cell 0
    have p1 := BX.out.cell 1
    have p2 := BX.out.cell 2
    have p3 := BX.out.cell 3
    go_wp2
    refine bodyPost_ret (v := .tuple #[.slice none 0 0, .int .i64 1]) (by simp [results, Try.results25, go_sem]) rfl ?_
    exact ⟨_, by rw [HN.out], by rw [HL.out]; exact OwR.nil _ _, HB.out⟩
  have HA := Lib.hid (hA0.out.below HB.out)
  have p0 := BX.out.cell 0
  have p1 := BX.out.cell 1
  have p2 := BX.out.cell 2
  have p3 := BX.out.cell 3
  go_wp2_with fail
  refine (fitsClock_any a _).mono ?_
  rintro e w3 ⟨rfl, rfl⟩
  clear p0 p1 p2 p3
  clear HA
  rw [HK.out]
  cases k
  · skip
    obtain ⟨e1, e2⟩ := renewN_form (by rw [HZ.out, HQ.out, HK.out]; rfl)
    have HN := Lib.hid (HN.out.symm.trans e1)
    have HL := Lib.hid (HL.out.symm.trans e2)
    clear e1 e2
    have p0 := BX.out.cell 0
    have p1 := BX.out.cell 1
    have p2 := BX.out.cell 2
    have p3 := BX.out.cell 3
    go_wp2
    refine bodyPost_ret (v := .tuple #[.slice none 0 0, .int .i64 1]) (by simp [results, Try.results25, go_sem]) rfl ?_
    exact ⟨_, by rw [HN.out], by rw [HL.out]; exact OwR.nil _ _, HB.out⟩
  have hlen := leOk_len HZ.out
  have hin := leIn_right HQ.out
  have HF := Lib.hid (show (leOk es && leRight (x, y, s, t) && decide (0 ≤ a ∧ a ≤ 1000)) = true by rw [HZ.out, HQ.out, HK.out]; rfl)
  obtain ⟨g, hg⟩ : ∃ g, decide (a < t) = g := ⟨_, rfl⟩
  have HG := Lib.hid hg
  clear hg
  have HA := Lib.hid (hA0.out.below HB.out)
  have p0 := BX.out.cell 0
  have p1 := BX.out.cell 1
  have p2 := BX.out.cell 2
  have p3 := BX.out.cell 3
  go_wp2_with fail
  refine (isActive_any x y s t a _).mono ?_
  rintro e w4 ⟨rfl, hb⟩
  clear p0 p1 p2 p3
  clear HA
  have BX := Lib.hid (BX.out.below hb)
  have HB := Lib.hid (below_then HB.out hb)
  clear hb
  rw [HG.out]
  cases g
  · skip
    obtain ⟨e1, e2⟩ := renewN_clock HF.out (of_decide_eq_false HG.out)
    have HN := Lib.hid (HN.out.symm.trans e1)
    have HL := Lib.hid (HL.out.symm.trans e2)
    clear e1 e2
    have p0 := BX.out.cell 0
    have p1 := BX.out.cell 1
    have p2 := BX.out.cell 2
    have p3 := BX.out.cell 3
    go_wp2
    refine bodyPost_ret (v := .tuple #[.slice none 0 0, .int .i64 2]) (by simp [results, Try.results25, go_sem]) rfl ?_
    exact ⟨_, by rw [HN.out], by rw [HL.out]; exact OwR.nil _ _, HB.out⟩
  obtain ⟨h, hh⟩ : ∃ h, liveK es (x, y, s, t) a = h := ⟨_, rfl⟩
  have HH := Lib.hid hh
  have HX := Lib.hid (liveK_exp (l := (x, y, s, t)) (now := a) HZ.out)
  have HEO := Lib.hid (leExp_ok (now := a) HZ.out)
  clear hh
  have HA := Lib.hid (hA0.out.below HB.out)
  have p0 := BX.out.cell 0
  have p1 := BX.out.cell 1
  have p2 := BX.out.cell 2
  have p3 := BX.out.cell 3
  have zb := BX.out.lt
  have hzw := HB.out.size
  go_wp2_with fail
  refine wp_region_held_drew (S := (fun V => V.cell? ⟨w.heap.size, 0, none⟩ = some (.int .i64 x) ∧ V.cell? ⟨w.heap.size, 1, none⟩ = some (.int .i64 y) ∧ V.cell? ⟨w.heap.size, 2, none⟩ = some (.int .i64 s) ∧ V.cell? ⟨w.heap.size, 3, none⟩ = some (.int .i64 t))) (by kernel_rfl) (by exact ⟨p0, p1, p2, p3⟩) (fun hHeld => ?_)
  refine wpAnyH_take (i := 0) (oi := ?_) (v := ?_) ?_ ?_ ?_ ?_ ?_ ?_ (by exact hHeld) ?_
  rotate_left 2
  · (simp only [List.getElem?_toArray, List.getElem?_cons_zero]; try rfl)
  · kernel_rfl
  · kernel_rfl
  · kernel_rfl
  · exact fun _ _ _ h => h
  · refine Or.inl ⟨by rfl, ?_⟩
    (intro V hSV; (try dsimp only at hSV); obtain ⟨q0, q1, q2, q3⟩ := hSV; go_simp; try with_reducible rfl)
  (try simp only [Act.put, List.setIfInBounds_toArray, List.set_cons_zero, List.set_cons_succ])
  refine wpAnyH_take (i := 1) (oi := ?_) (v := ?_) ?_ ?_ ?_ ?_ ?_ ?_ (by exact hHeld) ?_
  rotate_left 2
  · (simp only [List.getElem?_toArray, List.getElem?_cons_zero, List.getElem?_cons_succ]; try rfl)
  · kernel_rfl
  · kernel_rfl
  · kernel_rfl
  · exact fun _ _ _ h => h
  · refine Or.inl ⟨by rfl, ?_⟩
    (intro V hSV; (try dsimp only at hSV); obtain ⟨q0, q1, q2, q3⟩ := hSV; go_simp; try with_reducible rfl)
  (try simp only [Act.put, List.setIfInBounds_toArray, List.set_cons_zero, List.set_cons_succ])
  refine wpAnyH_take (i := 3) (oi := ?_) (v := ?_) ?_ ?_ ?_ ?_ ?_ ?_ (by exact hHeld) ?_
  rotate_left 2
  · (simp only [List.getElem?_toArray, List.getElem?_cons_zero, List.getElem?_cons_succ]; try rfl)
  · kernel_rfl
  · kernel_rfl
  · kernel_rfl
  · exact fun _ _ _ h => h
  · refine Or.inl ⟨by rfl, ?_⟩
    (intro V hSV; (try dsimp only at hSV); obtain ⟨q0, q1, q2, q3⟩ := hSV; go_simp; try with_reducible rfl)
  (try simp only [Act.put, List.setIfInBounds_toArray, List.set_cons_zero, List.set_cons_succ])
  refine wpAnyH_ready (rs := [2]) (by kernel_rfl) (by simp) ?_
  refine AllReadyH.cons rfl (fun K hK => ?_) AllReadyH.nil
  go_simp
  refine (implLeaseExpire_any A es c a _ (by omega) (by exact HA.out)).mono ?_
  rintro e y1 ⟨v1, rfl, hO1, hb1⟩
  have hb1 : Below w4.heap.size w4 y1 := ⟨hb1.os, hb1.tape, hb1.output, hb1.size, hb1.block⟩
  obtain ⟨A1, c1, rfl, _, _, hA1⟩ := hO1.ll
  have HA1 := Lib.hid hA1
  clear hO1 hA1
  go_wp2_with fail
  refine hK.out _ _ (by exact ⟨((hb1).cell (p := ⟨w.heap.size, 0, none⟩) zb).trans p0, ((hb1).cell (p := ⟨w.heap.size, 1, none⟩) zb).trans p1, ((hb1).cell (p := ⟨w.heap.size, 2, none⟩) zb).trans p2, ((hb1).cell (p := ⟨w.heap.size, 3, none⟩) zb).trans p3⟩) (fun hHeld => ?_)
  clear hK K
  (try simp only [Act.put, List.setIfInBounds_toArray, List.set_cons_zero, List.set_cons_succ])
  refine wpAnyH_ready (rs := [4]) (by kernel_rfl) (by simp) ?_
  refine AllReadyH.cons rfl (fun K hK => ?_) AllReadyH.nil
  go_simp
  refine (hasKey_any A1 (leExp es a) c1 x y s t _ HEO.out HA1.out).mono ?_
  rintro e y2 ⟨rfl, hb2⟩
  rw [HX.out, HH.out]
  have hb2 := below_then hb1 hb2
  go_wp2_with fail
  refine hK.out _ _ (by exact ⟨((hb2).cell (p := ⟨w.heap.size, 0, none⟩) zb).trans p0, ((hb2).cell (p := ⟨w.heap.size, 1, none⟩) zb).trans p1, ((hb2).cell (p := ⟨w.heap.size, 2, none⟩) zb).trans p2, ((hb2).cell (p := ⟨w.heap.size, 3, none⟩) zb).trans p3⟩) (fun hHeld => ?_)
  clear hK K
  (try simp only [Act.put, List.setIfInBounds_toArray, List.set_cons_zero, List.set_cons_succ])
  refine wpAnyH_take (i := 5) (oi := ?_) (v := ?_) ?_ ?_ ?_ ?_ ?_ ?_ (by exact hHeld) ?_
  rotate_left 2
  · (simp only [List.getElem?_toArray, List.getElem?_cons_zero, List.getElem?_cons_succ]; try rfl)
  · kernel_rfl
  · kernel_rfl
  · kernel_rfl
  · exact fun _ _ _ h => h
  · refine Or.inl ⟨by rfl, ?_⟩
    (intro V hSV; (try dsimp only at hSV); obtain ⟨q0, q1, q2, q3⟩ := hSV; go_simp; try with_reducible rfl)
  (try simp only [Act.put, List.setIfInBounds_toArray, List.set_cons_zero, List.set_cons_succ])
  refine wpAnyH_take (i := 6) (oi := ?_) (v := ?_) ?_ ?_ ?_ ?_ ?_ ?_ (by exact hHeld) ?_
  rotate_left 2
  · (simp only [List.getElem?_toArray, List.getElem?_cons_zero, List.getElem?_cons_succ]; try rfl)
  · kernel_rfl
  · kernel_rfl
  · kernel_rfl
  · exact fun _ _ _ h => h
  · refine Or.inl ⟨by rfl, ?_⟩
    (intro V hSV; (try dsimp only at hSV); obtain ⟨q0, q1, q2, q3⟩ := hSV; go_simp; try with_reducible rfl)
  (try simp only [Act.put, List.setIfInBounds_toArray, List.set_cons_zero, List.set_cons_succ])
  refine wpAnyH_done (by kernel_rfl) ?_ _
  clear hHeld p0 p1 p2 p3 zb
  have BX := Lib.hid (BX.out.below hb2)
  have HB := Lib.hid (below_then HB.out hb2)
  clear hb1 hb2 HA
  cases h
  · skip
    obtain ⟨e1, e2⟩ := renewN_none HF.out (of_decide_eq_true HG.out) HH.out
    have HN := Lib.hid (HN.out.symm.trans e1)
    have HL := Lib.hid (HL.out.symm.trans e2)
    clear e1 e2
    have p0 := BX.out.cell 0
    have p1 := BX.out.cell 1
    have p2 := BX.out.cell 2
    have p3 := BX.out.cell 3
    go_wp2
    refine bodyPost_ret (v := .tuple #[.slice none 0 0, .int .i64 5]) (by simp [results, Try.results25, go_sem]) rfl ?_
    exact ⟨_, by rw [HN.out], by rw [HL.out]; exact OwR.nil _ _, HB.out⟩
  obtain ⟨e1, e2⟩ := renewN_fine HF.out (of_decide_eq_true HG.out) HH.out
  have HN := Lib.hid (HN.out.symm.trans e1)
  have HL := Lib.hid (HL.out.symm.trans (e2.trans (putL_key_set HZ.out (liveK_key HH.out)).symm))
  clear e1 e2
  have HA := Lib.hid (hA0.out.below HB.out)
  have p0 := BX.out.cell 0
  have p1 := BX.out.cell 1
  have p2 := BX.out.cell 2
  have p3 := BX.out.cell 3
  have zb := BX.out.lt
  have hzw := HB.out.size
  go_wp2_with fail
  refine wp_region_held_drew (S := (fun V => V.cell? ⟨w.heap.size, 0, none⟩ = some (.int .i64 x) ∧ V.cell? ⟨w.heap.size, 1, none⟩ = some (.int .i64 y) ∧ V.cell? ⟨w.heap.size, 2, none⟩ = some (.int .i64 s) ∧ V.cell? ⟨w.heap.size, 3, none⟩ = some (.int .i64 t))) (by kernel_rfl) (by exact ⟨p0, p1, p2, p3⟩) (fun hHeld => ?_)
  refine wpAnyH_take (i := 0) (oi := ?_) (v := ?_) ?_ ?_ ?_ ?_ ?_ ?_ (by exact hHeld) ?_
  rotate_left 2
  · (simp only [List.getElem?_toArray, List.getElem?_cons_zero]; try rfl)
  · kernel_rfl
  · kernel_rfl
  · kernel_rfl
  · exact fun _ _ _ h => h
  · refine Or.inl ⟨by rfl, ?_⟩
    (intro V hSV; (try dsimp only at hSV); obtain ⟨q0, q1, q2, q3⟩ := hSV; go_simp; try with_reducible rfl)
  (try simp only [Act.put, List.setIfInBounds_toArray, List.set_cons_zero, List.set_cons_succ])
  refine wpAnyH_take (i := 2) (oi := ?_) (v := ?_) ?_ ?_ ?_ ?_ ?_ ?_ (by exact hHeld) ?_
  rotate_left 2
  · (simp only [List.getElem?_toArray, List.getElem?_cons_zero, List.getElem?_cons_succ]; try rfl)
  · kernel_rfl
  · kernel_rfl
  · kernel_rfl
  · exact fun _ _ _ h => h
  · refine Or.inl ⟨by rfl, ?_⟩
    (intro V hSV; (try dsimp only at hSV); obtain ⟨q0, q1, q2, q3⟩ := hSV; go_simp; try with_reducible rfl)
  (try simp only [Act.put, List.setIfInBounds_toArray, List.set_cons_zero, List.set_cons_succ])
  refine wpAnyH_ready (rs := [1]) (by kernel_rfl) (by simp) ?_
  refine AllReadyH.cons rfl (fun K hK => ?_) AllReadyH.nil
  go_simp
  refine (cloneLe_any A es _ c _ rfl (by omega) (by exact HA.out)).mono ?_
  rintro e z1 ⟨v1, rfl, hO1, hb1⟩
  have hb1 : Below y2.heap.size y2 z1 := ⟨hb1.os, hb1.tape, hb1.output, hb1.size, hb1.block⟩
  have hO1 : OwR z1 y2.heap.size v1 es := ⟨hO1.row, hO1.in_⟩
  have HO1 := Lib.hid hO1
  have hz1 := hb1.size
  clear hO1
  go_wp2_with fail
  refine hK.out _ _ (by exact ⟨((hb1).cell (p := ⟨w.heap.size, 0, none⟩) zb).trans p0, ((hb1).cell (p := ⟨w.heap.size, 1, none⟩) zb).trans p1, ((hb1).cell (p := ⟨w.heap.size, 2, none⟩) zb).trans p2, ((hb1).cell (p := ⟨w.heap.size, 3, none⟩) zb).trans p3⟩) (fun hHeld => ?_)
  clear hK K
  (try simp only [Act.put, List.setIfInBounds_toArray, List.set_cons_zero, List.set_cons_succ])
  refine wpAnyH_ready (rs := [3]) (by kernel_rfl) (by simp) ?_
  refine AllReadyH.cons rfl (fun K hK => ?_) AllReadyH.nil
  go_simp
  refine (putLease_any v1 es x y s t y2.heap.size _ HZ.out HO1.out hin hz1).mono ?_
  rintro e z2 ⟨v2, rfl, hO2, hg2⟩
  have hb2 : Below y2.heap.size y2 z2 := hb1.trans ((Keeps.of_grown hg2).below hz1 (fun k hk => (HO1.out.range k hk).1))
  have HO2 := Lib.hid (hO2.mono (base' := w.heap.size) hzw)
  clear hO2 hg2
  go_wp2_with fail
  refine hK.out _ _ (by exact ⟨((hb2).cell (p := ⟨w.heap.size, 0, none⟩) zb).trans p0, ((hb2).cell (p := ⟨w.heap.size, 1, none⟩) zb).trans p1, ((hb2).cell (p := ⟨w.heap.size, 2, none⟩) zb).trans p2, ((hb2).cell (p := ⟨w.heap.size, 3, none⟩) zb).trans p3⟩) (fun hHeld => ?_)
  clear hK K
  (try simp only [Act.put, List.setIfInBounds_toArray, List.set_cons_zero, List.set_cons_succ])
  refine wpAnyH_take (i := 4) (oi := ?_) (v := ?_) ?_ ?_ ?_ ?_ ?_ ?_ (by exact hHeld) ?_
  rotate_left 2
  · (simp only [List.getElem?_toArray, List.getElem?_cons_zero, List.getElem?_cons_succ]; try rfl)
  · kernel_rfl
  · kernel_rfl
  · kernel_rfl
  · exact fun _ _ _ h => h
  · refine Or.inl ⟨by rfl, ?_⟩
    (intro V hSV; (try dsimp only at hSV); obtain ⟨q0, q1, q2, q3⟩ := hSV; go_simp; try with_reducible rfl)
  (try simp only [Act.put, List.setIfInBounds_toArray, List.set_cons_zero, List.set_cons_succ])
  refine wpAnyH_take (i := 5) (oi := ?_) (v := ?_) ?_ ?_ ?_ ?_ ?_ ?_ (by exact hHeld) ?_
  rotate_left 2
  · (simp only [List.getElem?_toArray, List.getElem?_cons_zero, List.getElem?_cons_succ]; try rfl)
  · kernel_rfl
  · kernel_rfl
  · kernel_rfl
  · exact fun _ _ _ h => h
  · refine Or.inl ⟨by rfl, ?_⟩
    (intro V hSV; (try dsimp only at hSV); obtain ⟨q0, q1, q2, q3⟩ := hSV; go_simp; try with_reducible rfl)
  (try simp only [Act.put, List.setIfInBounds_toArray, List.set_cons_zero, List.set_cons_succ])
  refine wpAnyH_done (by kernel_rfl) ?_ _
  clear hHeld p0 p1 p2 p3
  have HB := Lib.hid (below_then HB.out hb2)
  go_wp2
  refine bodyPost_ret (v := .tuple #[v2, .int .i64 0]) (by simp [results, Try.results25, go_sem]) rfl ?_
  exact ⟨_, by rw [HN.out], by rw [HL.out]; exact HO2.out, HB.out⟩
end Go.Proofs.Ytdmmdbapkogdhaa
