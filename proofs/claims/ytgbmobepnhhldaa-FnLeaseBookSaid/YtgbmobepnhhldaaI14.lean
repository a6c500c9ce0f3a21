/-
  Chapter 7, slices.Delete of one lease, LeaseDrop in the program: contracts. Own work.
-/
import Derived.Test.YtgbmobepnhhldaaI12
import Derived.Test.YtgbmobepnhhldaaI13
import Derived.Test.YtgbmobepnhhldaaS12
namespace Go.Proofs.Ytgbmobepnhhldaa
open Go.RowKit P
set_option linter.unusedVariables false
set_option linter.unusedSimpArgs false
set_option maxRecDepth 100000

theorem slcLe_from (g n c j : Nat) (hj : j ≤ n) (hc : n ≤ c) (hc9 : c ≤ maxLen) : ∀ W, (Instr.slice 24 (.slice (some ⟨g, 0, none⟩) n c) (some (.int .i64 (j : Int))) none none).run Try.prog W = .ok (.slice (some (if c = j then ⟨g, 0, none⟩ else ⟨g, j * 4, none⟩)) (n - j) (c - j)) W := by
  intro W
  unfold maxLen at hc9
  have hz : ∀ W, (Go.sizeOf 26).run Try.prog W = .ok 4 W := fun W => by kernel_rfl
  have ht' : Try.prog.underlying 24 = some (.slice (Try.prog.elem 24)) := by simp [Program.elem, Try.underlying24]
  have he : Try.prog.elem 24 = 26 := by simp [Program.elem, Try.underlying24]
  rw [run_slice_l W 24 _ _ _ ht' .i64 _ (by omega) (by omega), he, hz]
  by_cases h0 : c = j
  · simp [Result.andThen, sliced, h0]
  · by_cases h1 : j = 0
    · subst h1; simp [Result.andThen, sliced, Addr.add, h0]
    · have h2 : ¬ j * 4 = 0 := by omega
      simp [Result.andThen, sliced, Addr.add, h0, h1, h2]
theorem slcLe_three (g n c i : Nat) (hi : i < n) (hc : n ≤ c) (hc9 : c ≤ maxLen) : ∃ u, ∀ W, (Instr.slice 24 (.slice (some ⟨g, 0, none⟩) n c) (some (.int .i64 (i : Int))) (some (.int .i64 ((i : Int) + 1))) (some (.int .i64 (n : Int)))).run Try.prog W = .ok u W := by
  unfold maxLen at hc9
  have hz : ∀ W, (Go.sizeOf 26).run Try.prog W = .ok 4 W := fun W => by kernel_rfl
  have ht' : Try.prog.underlying 24 = some (.slice (Try.prog.elem 24)) := by simp [Program.elem, Try.underlying24]
  have he : Try.prog.elem 24 = 26 := by simp [Program.elem, Try.underlying24]
  refine ⟨sliced (some ⟨g, 0, none⟩) ((i : Int)).toNat ((i : Int) + 1).toNat ((n : Int)).toNat 4, fun W => ?_⟩
  rw [run_slice_lhm W 24 _ _ _ ht' .i64 .i64 .i64 _ _ _ (by omega) (by omega) (by omega) (by omega), he, hz]
  rfl
theorem slcLe_lh (g n c l h : Nat) (hl : l < h) (hh : h ≤ c) (hc9 : c ≤ maxLen) : ∀ W, (Instr.slice 24 (.slice (some ⟨g, 0, none⟩) n c) (some (.int .i64 (l : Int))) (some (.int .i64 (h : Int))) none).run Try.prog W = .ok (.slice (some ⟨g, l * 4, none⟩) (h - l) (c - l)) W := by
  intro W
  unfold maxLen at hc9
  have hz : ∀ W, (Go.sizeOf 26).run Try.prog W = .ok 4 W := fun W => by kernel_rfl
  have ht' : Try.prog.underlying 24 = some (.slice (Try.prog.elem 24)) := by simp [Program.elem, Try.underlying24]
  have he : Try.prog.elem 24 = 26 := by simp [Program.elem, Try.underlying24]
  rw [run_slice_lh W 24 _ _ _ ht' .i64 .i64 _ _ (by omega) (by omega) (by omega), he, hz]
  have h0 : ¬ c = l := by omega
  by_cases h1 : l = 0
  · subst h1; simp [Result.andThen, sliced, Addr.add, h0]
  · have h2 : ¬ l * 4 = 0 := by omega
    simp [Result.andThen, sliced, Addr.add, h0, h1, h2]

theorem step_run_app {w : World} {ops : Array Oper} {o : Oper} {a : Act} {K : Act → World → Prop} {Q : Exit → Act → World → Prop} {X : Prop} (hgd : o.guard = none) (s x : Operand)
    (ho : o.op = .call { callee := .builtin .append, args := #[s, x], argTypes := #[24, 24] })
    (v y : Value) (hs : a.eval s = v) (hx : a.eval x = y) {v' : Value} {w' : World} (hrun : (Builtin.append_ #[24, 24] o.type #[v, y]).run Try.prog w = .ok v' w') (h : K (a.put o.dst v') w') :
    if Region.wanted o (yielded ops a.tmps) = true then Oper.wp Try.prog o a w K Q else X := by
  have hw : Region.wanted o (yielded ops a.tmps) = true := by simp [Region.wanted, hgd]
  rw [if_pos hw]
  unfold Oper.wp execOp
  simp only [ho, resolve, invoke, builtin, Sem.run_bind, Sem.run_pure, Result.andThen_ok, List.map_toArray, List.map_cons, List.map_nil, hs, hx, hrun]
  exact h

/-- The append that closes the gap of one lease. -/
theorem run_gap {W : World} {g cap i : Nat} {cur : Array Value} {es : List Le} (hB : Blk W g cur 26) (hs : cur.size = cap * 4) (hn : es.length ≤ cap) (ht : cur.toList.take (es.length * 4) = es.flatMap leCl) (hi : i < es.length) :
    ∃ W1 cur1, (∀ ty c', (Builtin.append_ #[24, 24] ty #[.slice (some ⟨g, 0, none⟩) i cap, .slice (some (if cap = i + 1 then ⟨g, 0, none⟩ else ⟨g, (i + 1) * 4, none⟩)) (es.length - (i + 1)) c']).run Try.prog W = .ok (.slice (some ⟨g, 0, none⟩) (es.length - 1) cap) W1) ∧
      Blk W1 g cur1 26 ∧ cur1.size = cur.size ∧ cur1.toList.take ((es.length - 1) * 4) = (es.take i ++ es.drop (i + 1)).flatMap leCl ∧ Keeps [g] W W1 := by
  obtain ⟨inf, hif, hz, hsz, hby⟩ := info_parts Try.infoLe
  have hfl := leCl_flat es
  have hd : ((es.drop (i + 1)).flatMap leCl).length = (es.length - (i + 1)) * 4 := by rw [leCl_flat, List.length_drop]
  have hsplit : es.flatMap leCl = (es.take (i + 1)).flatMap leCl ++ (es.drop (i + 1)).flatMap leCl := by rw [← List.flatMap_append, List.take_append_drop]
  have ht1 : ((es.take (i + 1)).flatMap leCl).length = (i + 1) * 4 := by rw [leCl_flat, List.length_take]; omega
  have hget : ∀ j u, ((es.drop (i + 1)).flatMap leCl)[j]? = some u → cur[(i + 1) * 4 + j]? = some u := by
    intro j u hu
    have hj : j < (es.length - (i + 1)) * 4 := by
      have := (List.getElem?_eq_some_iff.1 hu).1
      omega
    have h9 : (es.flatMap leCl)[(i + 1) * 4 + j]? = some u := by
      rw [hsplit, List.getElem?_append_right (by omega), ht1, Nat.add_sub_cancel_left]
      exact hu
    rw [← ht, List.getElem?_take, if_pos (by omega)] at h9
    simpa using h9
  have hnews : ∀ j u, ((es.drop (i + 1)).flatMap leCl)[j]? = some u → W.cell? ((if cap = i + 1 then (⟨g, 0, none⟩ : Addr) else ⟨g, (i + 1) * 4, none⟩).add j) = some u := by
    intro j u hu
    have hj : j < (es.length - (i + 1)) * 4 := by
      have := (List.getElem?_eq_some_iff.1 hu).1
      omega
    rw [if_neg (by omega), add_plain, hB.cell]
    exact hget j u hu
  have hr := fun ty c' => run_append_room (P := Try.prog) W 24 ty 26 inf Try.underlying24 hif g i cap cur hB (if cap = i + 1 then (⟨g, 0, none⟩ : Addr) else ⟨g, (i + 1) * 4, none⟩) (es.length - (i + 1)) c' ((es.drop (i + 1)).flatMap leCl) (by rw [hd, hsz]) hnews (leCl_one _) (by omega) (by rw [hd, hsz]; omega)
  rw [show i + (es.length - (i + 1)) = es.length - 1 by omega] at hr
  refine ⟨_, _, hr, setRow_heap W g cur _ 26 _ hB, ?_, ?_, ?_⟩
  · rw [List.size_toArray, List.length_append, List.length_append, List.length_take, List.length_drop, hd, hsz, Array.length_toList]
    omega
  · rw [hsz, List.flatMap_append]
    have e1 : cur.toList.take (i * 4) = (es.take i).flatMap leCl := by
      have h9 : (cur.toList.take (es.length * 4)).take (i * 4) = (es.flatMap leCl).take (i * 4) := by rw [ht]
      rw [List.take_take, Nat.min_eq_left (by omega)] at h9
      rw [h9]
      have h8 : es.flatMap leCl = (es.take i).flatMap leCl ++ (es.drop i).flatMap leCl := by rw [← List.flatMap_append, List.take_append_drop]
      rw [h8, List.take_append_of_le_length (by rw [leCl_flat, List.length_take]; omega), List.take_of_length_le (by rw [leCl_flat, List.length_take]; omega)]
    rw [e1]
    simp only [List.toList_toArray]
    rw [List.take_append_of_le_length (by rw [List.length_append, leCl_flat, leCl_flat, List.length_take, List.length_drop]; omega), List.take_of_length_le (by rw [List.length_append, leCl_flat, leCl_flat, List.length_take, List.length_drop]; omega)]
  · exact ⟨rfl, rfl, rfl, by rw [Go.setRow_size]; exact Nat.le_refl _, fun k _ hk => Go.setRow_other W g k _ (fun e => hk (by rw [e]; simp))⟩

set_option maxHeartbeats 8000000 in
theorem deleteOne_any (v : Value) (es : List Le) (i base : Nat) (w : World) (hl : es.length ≤ 1000000) (hi : i < es.length) (hO : OwR w base v es) :
    Calls Try.prog 58 #[v, .int .i64 (i : Int), .int .i64 ((i : Int) + 1)] w fun e w' => ∃ v', e = .returned v' ∧ OwR w' base v' (es.take i ++ es.drop (i + 1)) ∧ Keeps v.ownBlock.toList w w' := by
  rcases hO.row.2 with ⟨_, h0⟩ | ⟨g, cap, cur, rfl, hbg, hh, hnc, hcm, hcs, htk⟩
  · omega
  have hin := hO.in_
  obtain ⟨W1, cur1, hap, hB1, hs1, ht1, hk1⟩ := run_gap (W := w.drew) (i := i) hh hcs hnc htk hi
  obtain ⟨W2, cur2, hcl, hB2, hs2, hlo2, hk2⟩ := run_clear_le (W := W1) (n := 1) (c := cap - (es.length - 1)) (o := (es.length - 1) * 4) hB1 (by omega) (by rw [hs1, hcs]; omega)
  obtain ⟨u3, hS3⟩ := slcLe_three g es.length cap i hi hnc hcm
  have hS1 := slcLe_head g es.length cap i (by omega) hnc hcm
  have hS2 := slcLe_from g es.length cap (i + 1) (by omega) hnc hcm
  rw [Int.natCast_add, Int.natCast_one] at hS2
  generalize (if cap = i + 1 then (⟨g, 0, none⟩ : Addr) else ⟨g, (i + 1) * 4, none⟩) = A2 at hap hS2
  have hS4 := slcLe_lh g (es.length - 1) cap (es.length - 1) es.length (by omega) hnc hcm
  rw [show es.length - (es.length - 1) = 1 by omega] at hS4
  have hfin : OwR W2 base (.slice (some ⟨g, 0, none⟩) (es.length - 1) cap) (es.take i ++ es.drop (i + 1)) := by
    have hL : (es.take i ++ es.drop (i + 1)).length = es.length - 1 := by rw [List.length_append, List.length_take, List.length_drop]; omega
    refine ⟨⟨by rw [leCl_flat], .inr ⟨g, cap, cur2, by rw [hL], hbg, hB2, by omega, hcm, by omega, ?_⟩⟩, fun l hl => ?_⟩
    · rw [hL, ← ht1]
      apply List.ext_getElem?
      intro j
      rw [List.getElem?_take, List.getElem?_take]
      by_cases hj : j < (es.length - 1) * 4
      · rw [if_pos hj, if_pos hj]
        have := hlo2 j hj
        simpa using this
      · rw [if_neg hj, if_neg hj]
    · rcases List.mem_append.1 hl with h | h
      · exact hin l (List.mem_of_mem_take h)
      · exact hin l (List.mem_of_mem_drop h)
  have HFIN := Lib.hid hfin
  have HKK := Lib.hid ((show Keeps [g] w W1 from ⟨hk1.os, hk1.tape, hk1.output, hk1.size, hk1.block⟩).trans hk2)
  have hne : ((i : Int) == (i : Int) + 1) = false := beq_eq_false_iff_ne.2 (by omega)
  clear hB1 hs1 ht1 hk1 hB2 hs2 hlo2 hk2 hfin hh hcs htk hO
  go_enter Try.func58, Try.ntmps58
  go_wp2_with fail
  refine wp_region_held_drew (S := (fun V => True)) (by kernel_rfl) (by exact trivial) (fun hHeld => ?_)
  refine wpAnyH_take (i := 0) (oi := ?_) (v := ?_) ?_ ?_ ?_ ?_ ?_ ?_ (by exact hHeld) ?_
  rotate_left 2
  · (simp only [List.getElem?_toArray, List.getElem?_cons_zero]; try rfl)
  · kernel_rfl
  · kernel_rfl
  · kernel_rfl
  · exact fun _ _ _ h => h
  · refine Or.inl ⟨by rfl, ?_⟩
    (intro V hSV; (try dsimp only at hSV); obtain ⟨⟩ := hSV; go_simp; try with_reducible rfl)
  (try simp only [Act.put, List.setIfInBounds_toArray, List.set_cons_zero, List.set_cons_succ])
  refine wpAnyH_take (i := 1) (oi := ?_) (v := ?_) ?_ ?_ ?_ ?_ ?_ ?_ (by exact hHeld) ?_
  rotate_left 2
  · (simp only [List.getElem?_toArray, List.getElem?_cons_zero, List.getElem?_cons_succ]; try rfl)
  · kernel_rfl
  · kernel_rfl
  · kernel_rfl
  · exact fun _ _ _ h => h
  · refine Or.inl ⟨by rfl, ?_⟩
    (intro V hSV; (try dsimp only at hSV); obtain ⟨⟩ := hSV; go_simp; try with_reducible rfl)
  (try simp only [Act.put, List.setIfInBounds_toArray, List.set_cons_zero, List.set_cons_succ])
  refine wpAnyH_take (i := 2) (oi := ?_) (v := ?_) ?_ ?_ ?_ ?_ ?_ ?_ (by exact hHeld) ?_
  rotate_left 2
  · (simp only [List.getElem?_toArray, List.getElem?_cons_zero, List.getElem?_cons_succ]; try rfl)
  · kernel_rfl
  · kernel_rfl
  · kernel_rfl
  · exact fun _ _ _ h => h
  · refine Or.inl ⟨by rfl, ?_⟩
    (intro V hSV; (try dsimp only at hSV); obtain ⟨⟩ := hSV; go_simp; try with_reducible rfl)
  (try simp only [Act.put, List.setIfInBounds_toArray, List.set_cons_zero, List.set_cons_succ])
  refine wpAnyH_take (i := 3) (oi := ?_) (v := ?_) ?_ ?_ ?_ ?_ ?_ ?_ (by exact hHeld) ?_
  rotate_left 2
  · (simp only [List.getElem?_toArray, List.getElem?_cons_zero, List.getElem?_cons_succ]; try rfl)
  · kernel_rfl
  · kernel_rfl
  · kernel_rfl
  · exact fun _ _ _ h => h
  · refine Or.inl ⟨by rfl, ?_⟩
    (intro V hSV; (try dsimp only at hSV); obtain ⟨⟩ := hSV; go_simp; try with_reducible rfl)
  (try simp only [Act.put, List.setIfInBounds_toArray, List.set_cons_zero, List.set_cons_succ])
  refine wpAnyH_take (i := 4) (oi := ?_) (v := ?_) ?_ ?_ ?_ ?_ ?_ ?_ (by exact hHeld) ?_
  rotate_left 2
  · (simp only [List.getElem?_toArray, List.getElem?_cons_zero, List.getElem?_cons_succ]; try rfl)
  · kernel_rfl
  · kernel_rfl
  · kernel_rfl
  · exact fun _ _ _ h => h
  · refine Or.inl ⟨by rfl, ?_⟩
    (intro V hSV; (try dsimp only at hSV); obtain ⟨⟩ := hSV; go_simp; try with_reducible rfl)
  (try simp only [Act.put, List.setIfInBounds_toArray, List.set_cons_zero, List.set_cons_succ])
  refine wpAnyH_take (i := 5) (oi := ?_) (v := ?_) ?_ ?_ ?_ ?_ ?_ ?_ (by exact hHeld) ?_
  rotate_left 2
  · (simp only [List.getElem?_toArray, List.getElem?_cons_zero, List.getElem?_cons_succ]; try rfl)
  · kernel_rfl
  · kernel_rfl
  · kernel_rfl
  · exact fun _ _ _ h => h
  · refine Or.inl ⟨by rfl, ?_⟩
    (intro V hSV; (try dsimp only at hSV); obtain ⟨⟩ := hSV; go_simp; try with_reducible rfl)
  (try simp only [Act.put, List.setIfInBounds_toArray, List.set_cons_zero, List.set_cons_succ])
  refine wpAnyH_ready (rs := [6]) (by kernel_rfl) (by simp) ?_
  refine AllReadyH.cons (o := ?_) ?_ (fun K hK => ?_) AllReadyH.nil
  rotate_left 1
  · (simp only [List.getElem?_toArray, List.getElem?_cons_zero, List.getElem?_cons_succ]; try rfl)
  refine step_run_app rfl (.tmp 22) (.tmp 25) rfl _ _ rfl rfl (hap _ _) ?_
  (try go_simp)
  refine hK.out _ _ (by exact trivial) (fun hHeld => ?_)
  clear hK K
  (try simp only [Act.put, List.setIfInBounds_toArray, List.set_cons_zero, List.set_cons_succ])
  refine wpAnyH_take (i := 7) (oi := ?_) (v := ?_) ?_ ?_ ?_ ?_ ?_ ?_ (by exact hHeld) ?_
  rotate_left 2
  · (simp only [List.getElem?_toArray, List.getElem?_cons_zero, List.getElem?_cons_succ]; try rfl)
  · kernel_rfl
  · kernel_rfl
  · kernel_rfl
  · exact fun _ _ _ h => h
  · refine Or.inl ⟨by rfl, ?_⟩
    (intro V hSV; (try dsimp only at hSV); obtain ⟨⟩ := hSV; go_simp; try with_reducible rfl)
  (try simp only [Act.put, List.setIfInBounds_toArray, List.set_cons_zero, List.set_cons_succ])
  refine wpAnyH_done (by kernel_rfl) ?_ _
  go_wp2
  go_ret
  exact ⟨_, rfl, HFIN.out, HKK.out⟩
/-- What LeaseDrop gives. -/
def Drops (es : List Le) (l : Le) (w : World) (e : Ending) (w' : World) : Prop := ∃ v, e = .returned (.tuple #[v, .int .i64 (dropN es l)]) ∧ OwR w' w.heap.size v (dropL es l) ∧ Below w.heap.size w w'
theorem drop_bad {es : List Le} {l : Le} (h : (leOk es && leRight l) = false) : dropL es l = [] ∧ dropN es l = 1 := by
  unfold dropL dropN
  rw [h]
  exact ⟨rfl, rfl⟩
theorem drop_none {es : List Le} {l : Le} (h : (leOk es && leRight l) = true) (h2 : ¬ keyIx es l < es.length) : dropL es l = [] ∧ dropN es l = 5 := by
  unfold dropL dropN
  rw [if_pos h, if_pos h, if_neg h2, if_neg h2]
  exact ⟨rfl, rfl⟩
theorem drop_fine {es : List Le} {l : Le} (h : (leOk es && leRight l) = true) (h2 : keyIx es l < es.length) : dropL es l = es.take (keyIx es l) ++ es.drop (keyIx es l + 1) ∧ dropN es l = 0 := by
  unfold dropL dropN
  rw [if_pos h, if_pos h, if_pos h2, if_pos h2]
  exact ⟨rfl, rfl⟩

set_option maxHeartbeats 8000000 in
theorem implLeaseDrop_any (A : Option Addr) (es : List Le) (c : Nat) (x y s t : Int) (w : World) (hl : es.length ≤ 1048576) (hA : Ll w A es) :
    Calls Try.prog 21 #[.slice A es.length c, .agg #[.int .i64 x, .int .i64 y, .int .i64 s, .int .i64 t]] w (Drops es (x, y, s, t) w) := by
  have hn9 : es.length ≤ 9223372036854775807 := by omega
  obtain ⟨z, hz⟩ : ∃ z, leOk es = z := ⟨_, rfl⟩
  obtain ⟨q, hq⟩ : ∃ q, leRight (x, y, s, t) = q := ⟨_, rfl⟩
  have HZ := Lib.hid hz
  have HQ := Lib.hid hq
  have hal := (Below.refl w.heap.size w).alloc (Nat.le_refl _) (.cells #[.int .i64 x, .int .i64 y, .int .i64 s, .int .i64 t] 26)
  have hbx := Blk.new w #[.int .i64 x, .int .i64 y, .int .i64 s, .int .i64 t] 26
  have hA1 := hA.below hal
  clear hz hq
  cases z
  · obtain ⟨d1, d2⟩ := drop_bad (es := es) (l := (x, y, s, t)) (by rw [HZ.out]; rfl)
    unfold Drops
    rw [d1, d2]
    clear d1 d2
    go_enter Try.func21, Try.ntmps21
    go_wp2_with fail
    refine (implLeasesOk_any A es c _ hn9 hA1).mono ?_
    rintro e w1 ⟨rfl, hb1⟩
    rw [HZ.out]
    have hb9 := below_then hal hb1
    go_wp2
    refine bodyPost_ret (v := .tuple #[.slice none 0 0, .int .i64 1]) (by simp [results, Try.results21, go_sem]) rfl ?_
    exact ⟨_, rfl, OwR.nil _ _, hb9⟩
  cases q
  · obtain ⟨d1, d2⟩ := drop_bad (es := es) (l := (x, y, s, t)) (by rw [HZ.out, HQ.out]; rfl)
    unfold Drops
    rw [d1, d2]
    clear d1 d2
    go_enter Try.func21, Try.ntmps21
    go_wp2_with fail
    refine (implLeasesOk_any A es c _ hn9 hA1).mono ?_
    rintro e w1 ⟨rfl, hb1⟩
    rw [HZ.out]
    have hb9 := below_then hal hb1
    have hbx1 := hbx.below hb1
    have p0 := hbx1.cell 0
    have p1 := hbx1.cell 1
    have p2 := hbx1.cell 2
    have p3 := hbx1.cell 3
    go_wp2_with fail
    refine (isValid_any x y s t _).mono ?_
    rintro e w2 ⟨rfl, hb2⟩
    rw [HQ.out]
    have hb3 := below_then hb9 hb2
    go_wp2
    refine bodyPost_ret (v := .tuple #[.slice none 0 0, .int .i64 1]) (by simp [results, Try.results21, go_sem]) rfl ?_
    exact ⟨_, rfl, OwR.nil _ _, hb3⟩
  have hboth : (leOk es && leRight (x, y, s, t)) = true := by rw [HZ.out, HQ.out]; rfl
  have hlen := leOk_len HZ.out
  by_cases hkx : keyIx es (x, y, s, t) < es.length
  · obtain ⟨d1, d2⟩ := drop_fine hboth hkx
    unfold Drops
    rw [d1, d2]
    have hdk : decide (keyIx es (x, y, s, t) < es.length) = true := decide_eq_true hkx
    generalize hK9 : keyIx es (x, y, s, t) = kx at *
    have HK9 := Lib.hid hK9
    clear d1 d2 hboth hK9
    go_enter Try.func21, Try.ntmps21
    go_wp2_with fail
    refine (implLeasesOk_any A es c _ hn9 hA1).mono ?_
    rintro e w1 ⟨rfl, hb1⟩
    rw [HZ.out]
    have hb9 := below_then hal hb1
    have hbx1 := hbx.below hb1
    have p0 := hbx1.cell 0
    have p1 := hbx1.cell 1
    have p2 := hbx1.cell 2
    have p3 := hbx1.cell 3
    go_wp2_with fail
    refine (isValid_any x y s t _).mono ?_
    rintro e w2 ⟨rfl, hb2⟩
    rw [HQ.out]
    have hb3 := below_then hb9 hb2
    have hbx2 := hbx1.below hb2
    have HA2 := Lib.hid (hA.below hb3)
    clear p0 p1 p2 p3
    have p0 := hbx2.cell 0
    have p1 := hbx2.cell 1
    have p2 := hbx2.cell 2
    have p3 := hbx2.cell 3
    have HDK := Lib.hid hdk
    clear hdk
    go_wp2_with fail
    refine (placeOfKey_any A es c x y s t _ HZ.out (by exact HA2.out)).mono ?_
    rintro e w3 ⟨i, f, rfl, hf, hfi, _, hb4⟩
    rw [HK9.out, HDK.out] at hf
    subst hf
    have hi9 := hfi rfl
    rw [HK9.out] at hi9
    subst hi9
    have hb5 := below_then hb3 hb4
    have HA3 := Lib.hid (hA.below hb5)
    clear hfi p0 p1 p2 p3
    go_wp2_with fail
    refine (cloneLe_any A es _ c _ rfl (by omega) (by exact HA3.out)).mono ?_
    rintro e w4 ⟨v, rfl, hown, hb6⟩
    have hb7 := below_then hb5 hb6
    have HO := Lib.hid hown
    have hz5 := hb5.size
    have hwr : IntKind.i64.wrap ((i : Int) + 1) = (i : Int) + 1 := IntWalk.i64_in _ (by omega)
    clear hown
    go_wp2_with fail
    refine (deleteOne_any v es i _ _ (by omega) hkx (by exact HO.out)).mono ?_
    rintro e w5 ⟨v', rfl, hown5, hke⟩
    have hb8 := hb7.trans (hke.below (B := w.heap.size) hb7.size (fun k hk => by
      have h9 := (World.ownsRow.lt HO.out.row k (by simpa using hk)).1
      omega))
    have HO5 := Lib.hid (hown5.mono (base' := w.heap.size) (by omega))
    clear hown5 hke
    go_wp2
    refine bodyPost_ret (v := .tuple #[v', .int .i64 0]) (by simp [results, Try.results21, go_sem]) rfl ?_
    exact ⟨_, rfl, HO5.out, hb8⟩
  · obtain ⟨d1, d2⟩ := drop_none hboth hkx
    unfold Drops
    rw [d1, d2]
    have HDK := Lib.hid (decide_eq_false hkx)
    clear d1 d2 hboth
    go_enter Try.func21, Try.ntmps21
    go_wp2_with fail
    refine (implLeasesOk_any A es c _ hn9 hA1).mono ?_
    rintro e w1 ⟨rfl, hb1⟩
    rw [HZ.out]
    have hb9 := below_then hal hb1
    have hbx1 := hbx.below hb1
    have p0 := hbx1.cell 0
    have p1 := hbx1.cell 1
    have p2 := hbx1.cell 2
    have p3 := hbx1.cell 3
    go_wp2_with fail
    refine (isValid_any x y s t _).mono ?_
    rintro e w2 ⟨rfl, hb2⟩
    rw [HQ.out]
    have hb3 := below_then hb9 hb2
    have hbx2 := hbx1.below hb2
    have HA2 := Lib.hid (hA.below hb3)
    clear p0 p1 p2 p3
    have p0 := hbx2.cell 0
    have p1 := hbx2.cell 1
    have p2 := hbx2.cell 2
    have p3 := hbx2.cell 3
    go_wp2_with fail
    refine (placeOfKey_any A es c x y s t _ HZ.out (by exact HA2.out)).mono ?_
    rintro e w3 ⟨i, f, rfl, hf, hfi, _, hb4⟩
    rw [HDK.out] at hf
    subst hf
    have hb5 := below_then hb3 hb4
    clear hfi
    go_wp2
    refine bodyPost_ret (v := .tuple #[.slice none 0 0, .int .i64 5]) (by simp [results, Try.results21, go_sem]) rfl ?_
    exact ⟨_, rfl, OwR.nil _ _, hb5⟩
end Go.Proofs.Ytgbmobepnhhldaa
