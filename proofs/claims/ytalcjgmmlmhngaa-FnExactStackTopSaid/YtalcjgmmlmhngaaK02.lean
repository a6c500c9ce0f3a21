/-
  Chapter 8, slices.Delete of one edit: contract. Own work.
-/
import Derived.Test.YtalcjgmmlmhngaaC07
import Derived.Laws.CopyRow
import Derived.Lib.SliceRun
import Derived.Laws.AppendOwn
namespace Go.Proofs.Ytalcjgmmlmhngaa
open Go.RowKit P
set_option linter.unusedVariables false
set_option linter.unusedSimpArgs false
set_option maxRecDepth 100000

theorem slcE_from (g n c j : Nat) (hj : j ≤ n) (hc : n ≤ c) (hc9 : c ≤ maxLen) : ∀ W, (Instr.slice 54 (.slice (some ⟨g, 0, none⟩) n c) (some (.int .i64 (j : Int))) none none).run Try.prog W = .ok (.slice (some (if c = j then ⟨g, 0, none⟩ else ⟨g, j * 3, none⟩)) (n - j) (c - j)) W := by
  intro W
  unfold maxLen at hc9
  have hz : ∀ W, (Go.sizeOf 42).run Try.prog W = .ok 3 W := fun W => by kernel_rfl
  have ht' : Try.prog.underlying 54 = some (.slice (Try.prog.elem 54)) := by simp [Program.elem, Try.underlying54]
  have he : Try.prog.elem 54 = 42 := by simp [Program.elem, Try.underlying54]
  rw [run_slice_l W 54 _ _ _ ht' .i64 _ (by omega) (by omega), he, hz]
  by_cases h0 : c = j
  · simp [Result.andThen, sliced, h0]
  · by_cases h1 : j = 0
    · subst h1; simp [Result.andThen, sliced, Addr.add, h0]
    · have h2 : ¬ j * 3 = 0 := by omega
      simp [Result.andThen, sliced, Addr.add, h0, h1, h2]
theorem slcE_head (g n c i : Nat) (hi : i ≤ n) (hc : n ≤ c) (hc9 : c ≤ maxLen) : ∀ W, (Instr.slice 54 (.slice (some ⟨g, 0, none⟩) n c) none (some (.int .i64 (i : Int))) none).run Try.prog W = .ok (.slice (some ⟨g, 0, none⟩) i c) W := by
  intro W
  unfold maxLen at hc9
  have hz : ∀ W, (Go.sizeOf 42).run Try.prog W = .ok 3 W := fun W => by kernel_rfl
  have ht' : Try.prog.underlying 54 = some (.slice (Try.prog.elem 54)) := by simp [Program.elem, Try.underlying54]
  have he : Try.prog.elem 54 = 42 := by simp [Program.elem, Try.underlying54]
  rw [run_slice_h W 54 _ _ _ ht' .i64 _ (by omega) (by omega), he, hz]
  simp [Result.andThen, sliced, Addr.add]
theorem slcE_lh (g n c l h : Nat) (hl : l < h) (hh : h ≤ c) (hc9 : c ≤ maxLen) : ∀ W, (Instr.slice 54 (.slice (some ⟨g, 0, none⟩) n c) (some (.int .i64 (l : Int))) (some (.int .i64 (h : Int))) none).run Try.prog W = .ok (.slice (some ⟨g, l * 3, none⟩) (h - l) (c - l)) W := by
  intro W
  unfold maxLen at hc9
  have hz : ∀ W, (Go.sizeOf 42).run Try.prog W = .ok 3 W := fun W => by kernel_rfl
  have ht' : Try.prog.underlying 54 = some (.slice (Try.prog.elem 54)) := by simp [Program.elem, Try.underlying54]
  have he : Try.prog.elem 54 = 42 := by simp [Program.elem, Try.underlying54]
  rw [run_slice_lh W 54 _ _ _ ht' .i64 .i64 _ _ (by omega) (by omega) (by omega), he, hz]
  have h0 : ¬ c = l := by omega
  by_cases h1 : l = 0
  · subst h1; simp [Result.andThen, sliced, Addr.add, h0]
  · have h2 : ¬ l * 3 = 0 := by omega
    simp [Result.andThen, sliced, Addr.add, h0, h1, h2]
theorem slcE_three (g n c i : Nat) (hi : i < n) (hc : n ≤ c) (hc9 : c ≤ maxLen) : ∃ u, ∀ W, (Instr.slice 54 (.slice (some ⟨g, 0, none⟩) n c) (some (.int .i64 (i : Int))) (some (.int .i64 ((i : Int) + 1))) (some (.int .i64 (n : Int)))).run Try.prog W = .ok u W := by
  unfold maxLen at hc9
  have hz : ∀ W, (Go.sizeOf 42).run Try.prog W = .ok 3 W := fun W => by kernel_rfl
  have ht' : Try.prog.underlying 54 = some (.slice (Try.prog.elem 54)) := by simp [Program.elem, Try.underlying54]
  have he : Try.prog.elem 54 = 42 := by simp [Program.elem, Try.underlying54]
  refine ⟨sliced (some ⟨g, 0, none⟩) ((i : Int)).toNat ((i : Int) + 1).toNat ((n : Int)).toNat 3, fun W => ?_⟩
  rw [run_slice_lhm W 54 _ _ _ ht' .i64 .i64 .i64 _ _ _ (by omega) (by omega) (by omega) (by omega), he, hz]
  rfl

theorem step_run_appE {w : World} {ops : Array Oper} {o : Oper} {a : Act} {K : Act → World → Prop} {Q : Exit → Act → World → Prop} {X : Prop} (hgd : o.guard = none) (s x : Operand)
    (ho : o.op = .call { callee := .builtin .append, args := #[s, x], argTypes := #[54, 54] })
    (v y : Value) (hs : a.eval s = v) (hx : a.eval x = y) {v' : Value} {w' : World} (hrun : (Builtin.append_ #[54, 54] o.type #[v, y]).run Try.prog w = .ok v' w') (h : K (a.put o.dst v') w') :
    if Region.wanted o (yielded ops a.tmps) = true then Oper.wp Try.prog o a w K Q else X := by
  have hw : Region.wanted o (yielded ops a.tmps) = true := by simp [Region.wanted, hgd]
  rw [if_pos hw]
  unfold Oper.wp execOp
  simp only [ho, resolve, invoke, builtin, Sem.run_bind, Sem.run_pure, Result.andThen_ok, List.map_toArray, List.map_cons, List.map_nil, hs, hx, hrun]
  exact h

theorem cells_one {w : World} {els : List (El Ed)} (hes : ∀ e ∈ els, Lay.edit.ow w e.1 e.2.1 e.2.2) : ∀ u ∈ els.flatMap (·.1), u.oneCell' = true := by
  intro u hu
  obtain ⟨e, he, hu⟩ := List.mem_flatMap.1 hu
  obtain ⟨v, h1, h2, _⟩ := edit_ow_inv (hes e he)
  rw [h1] at hu
  obtain ⟨A, c, rfl, _, _, _⟩ := h2.form
  simp at hu
  rcases hu with rfl | rfl | rfl <;> rfl
theorem els_flat {w : World} {els : List (El Ed)} (hes : ∀ e ∈ els, Lay.edit.ow w e.1 e.2.1 e.2.2) : (els.flatMap (·.1)).length = els.length * 3 :=
  flat_len 3 els (·.1) (fun e he => by obtain ⟨v, h1, _⟩ := edit_ow_inv (hes e he); rw [h1]; rfl)

/-- The append that closes the gap of one edit. -/
theorem run_gapE {W : World} {g cap i : Nat} {cur : Array Value} {els : List (El Ed)} (hes : ∀ e ∈ els, Lay.edit.ow W e.1 e.2.1 e.2.2) (hB : Blk W g cur 42) (hs : cur.size = cap * 3) (hn : els.length ≤ cap) (ht : cur.toList.take (els.length * 3) = els.flatMap (·.1)) (hi : i < els.length) :
    ∃ W1 cur1, (∀ ty c', (Builtin.append_ #[54, 54] ty #[.slice (some ⟨g, 0, none⟩) i cap, .slice (some (if cap = i + 1 then ⟨g, 0, none⟩ else ⟨g, (i + 1) * 3, none⟩)) (els.length - (i + 1)) c']).run Try.prog W = .ok (.slice (some ⟨g, 0, none⟩) (els.length - 1) cap) W1) ∧
      Blk W1 g cur1 42 ∧ cur1.size = cur.size ∧ cur1.toList.take ((els.length - 1) * 3) = (els.take i ++ els.drop (i + 1)).flatMap (·.1) ∧ Keeps [g] W W1 := by
  obtain ⟨inf, hif, hz, hsz, hby⟩ := info_parts Try.infoEd
  have hfl := els_flat hes
  have hmt : ∀ k, ∀ e ∈ els.take k, Lay.edit.ow W e.1 e.2.1 e.2.2 := fun k e he => hes e (List.mem_of_mem_take he)
  have hmd : ∀ k, ∀ e ∈ els.drop k, Lay.edit.ow W e.1 e.2.1 e.2.2 := fun k e he => hes e (List.mem_of_mem_drop he)
  have hd : ((els.drop (i + 1)).flatMap (·.1)).length = (els.length - (i + 1)) * 3 := by rw [els_flat (hmd _), List.length_drop]
  have hsplit : els.flatMap (·.1) = (els.take (i + 1)).flatMap (·.1) ++ (els.drop (i + 1)).flatMap (·.1) := by rw [← List.flatMap_append, List.take_append_drop]
  have ht1 : ((els.take (i + 1)).flatMap (·.1)).length = (i + 1) * 3 := by rw [els_flat (hmt _), List.length_take]; omega
  have hti : ((els.take i).flatMap (·.1)).length = i * 3 := by rw [els_flat (hmt _), List.length_take]; omega
  have hget : ∀ (j : Nat) (u : Value), ((els.drop (i + 1)).flatMap (·.1))[j]? = some u → cur[(i + 1) * 3 + j]? = some u := by
    intro j u hu
    have hj : j < (els.length - (i + 1)) * 3 := by
      have := (List.getElem?_eq_some_iff.1 hu).1
      omega
    have h9 : (els.flatMap (·.1))[(i + 1) * 3 + j]? = some u := by
      rw [hsplit, List.getElem?_append_right (by omega), ht1, Nat.add_sub_cancel_left]
      exact hu
    rw [← ht, List.getElem?_take, if_pos (by omega)] at h9
    simpa using h9
  have hnews : ∀ j u, ((els.drop (i + 1)).flatMap (·.1))[j]? = some u → W.cell? ((if cap = i + 1 then (⟨g, 0, none⟩ : Addr) else ⟨g, (i + 1) * 3, none⟩).add j) = some u := by
    intro j u hu
    have hj : j < (els.length - (i + 1)) * 3 := by
      have := (List.getElem?_eq_some_iff.1 hu).1
      omega
    rw [if_neg (by omega), add_plain, hB.cell]
    exact hget j u hu
  have hr := fun ty c' => run_append_room (P := Try.prog) W 54 ty 42 inf Try.underlying54 hif g i cap cur hB (if cap = i + 1 then (⟨g, 0, none⟩ : Addr) else ⟨g, (i + 1) * 3, none⟩) (els.length - (i + 1)) c' ((els.drop (i + 1)).flatMap (·.1)) (by rw [hd, hsz]) hnews (cells_one (hmd _)) (by omega) (by rw [hd, hsz]; omega)
  rw [show i + (els.length - (i + 1)) = els.length - 1 by omega] at hr
  refine ⟨_, _, hr, setRow_heap W g cur _ 42 _ hB, ?_, ?_, ?_⟩
  · rw [List.size_toArray, List.length_append, List.length_append, List.length_take, List.length_drop, hd, hsz, Array.length_toList]
    omega
  · rw [hsz, List.flatMap_append]
    have e1 : cur.toList.take (i * 3) = (els.take i).flatMap (·.1) := by
      have h9 : (cur.toList.take (els.length * 3)).take (i * 3) = (els.flatMap (·.1)).take (i * 3) := by rw [ht]
      rw [List.take_take, Nat.min_eq_left (by omega)] at h9
      rw [h9]
      have h8 : els.flatMap (·.1) = (els.take i).flatMap (·.1) ++ (els.drop i).flatMap (·.1) := by rw [← List.flatMap_append, List.take_append_drop]
      rw [h8, List.take_append_of_le_length (by rw [hti]; omega), List.take_of_length_le (by rw [hti]; omega)]
    rw [e1]
    simp only [List.toList_toArray]
    rw [List.take_append_of_le_length (by rw [List.length_append, hti, hd]; omega), List.take_of_length_le (by rw [List.length_append, hti, hd]; omega)]
  · exact ⟨rfl, rfl, rfl, by rw [Go.setRow_size]; exact Nat.le_refl _, fun k _ hk => Go.setRow_other W g k _ (fun e => hk (by rw [e]; simp))⟩

/-- clear on a back part of a row of edits. -/
theorem run_clear_E {W : World} {g o n c : Nat} {cur : Array Value} (hB : Blk W g cur 42) (hn : 0 < n) (hfit : o + n * 3 ≤ cur.size) :
    ∃ W9 cur9, (∀ ty, (Builtin.clear_ #[54] ty #[.slice (some ⟨g, o, none⟩) n c]).run Try.prog W = .ok (.tuple #[]) W9) ∧ Blk W9 g cur9 42 ∧ cur9.size = cur.size ∧ (∀ k, k < o → cur9[k]? = cur[k]?) ∧ Keeps [g] W W9 := by
  have hv : ∀ w, (zeroValue 42).run Try.prog w = .ok (.agg #[.int .i64 0, .int .i64 0, .slice none 0 0]) w := fun w => by kernel_rfl
  have hlen : (Builtin.zeroCells (Value.agg #[.int .i64 0, .int .i64 0, .slice none 0 0]).cells n).toList.length = n * 3 := by
    rw [Array.length_toList, size_zeroCells]; rfl
  have hst := run_storeCells_at Try.prog g o 42 (Builtin.zeroCells (Value.agg #[.int .i64 0, .int .i64 0, .slice none 0 0]).cells n).toList 0 cur W hB (by rw [hlen]; omega) (by
    intro v hv'
    simp only [Builtin.zeroCells, Array.toList_map, List.mem_map] at hv'
    obtain ⟨x, _, rfl⟩ := hv'
    have hx : x % 3 < 3 := Nat.mod_lt _ (by decide)
    have h4 : x % 3 = 0 ∨ x % 3 = 1 ∨ x % 3 = 2 := by omega
    show (#[Value.int .i64 0, .int .i64 0, .slice none 0 0] : Array Value)[x % 3]!.oneCell' = true
    rcases h4 with h4 | h4 | h4 <;> rw [h4] <;> rfl)
  rw [hlen, Nat.add_zero] at hst
  obtain ⟨m, rfl⟩ : ∃ m, n = m + 1 := ⟨n - 1, by omega⟩
  generalize hZ : (Builtin.zeroCells (Value.agg #[.int .i64 0, .int .i64 0, .slice none 0 0]).cells (m + 1)).toList = Z at *
  refine ⟨W.setRow g (cur.toList.take o ++ Z ++ cur.toList.drop (o + (m + 1) * 3)).toArray, (cur.toList.take o ++ Z ++ cur.toList.drop (o + (m + 1) * 3)).toArray, fun ty => ?_, setRow_heap W g cur _ 42 _ hB, ?_, fun k hk => ?_, ?_⟩
  · simp only [Builtin.clear_, Sem.run_bind]
    simp [run_underlying Try.underlying54, hv, hZ, hst]
  · rw [List.size_toArray, List.length_append, List.length_append, List.length_take, List.length_drop, hlen, Array.length_toList]
    omega
  · rw [List.getElem?_toArray, List.append_assoc, List.getElem?_append_left (by rw [List.length_take, Array.length_toList]; omega), List.getElem?_take, if_pos hk, Array.getElem?_toList]
  · exact ⟨rfl, rfl, rfl, by rw [Go.setRow_size]; exact Nat.le_refl _, fun k _ hk => Go.setRow_other W g k _ (fun e => hk (by rw [e]; simp))⟩

set_option maxHeartbeats 8000000 in
theorem deleteEd_any (A : Option Addr) (es : List Ed) (c base : Nat) (fp : List Nat) (i : Nat) (w : World) (hl : es.length ≤ 1000000) (hi : i < es.length) (hO : OwE w base A es c fp) :
    Calls Try.prog 153 #[.slice A es.length c, .int .i64 (i : Int), .int .i64 ((i : Int) + 1)] w fun e w' => ∃ A' fp', e = .returned (.slice A' (es.length - 1) c) ∧ Lay.edits.ow w' [.slice A' (es.length - 1) c] (es.take i ++ es.drop (i + 1)) fp' ∧ fp'.Nodup ∧ (∀ k ∈ fp', k ∈ fp) ∧ Keeps fp w w' := by
  obtain ⟨els, hes0, hrow, hes, hfp⟩ := ow_one hO.ow
  have hln : es.length = els.length := by rw [hes0, List.length_map]
  rcases hrow.2 with ⟨_, h0⟩ | ⟨g, cap, cur, hv, hbg, hh, hnc, hcm, hcs, htk⟩
  · omega
  simp only [Value.slice.injEq] at hv
  obtain ⟨rfl, hv2, rfl⟩ := hv
  have hsz3 : Lay.edit.sz = 3 := rfl
  rw [hsz3] at hcs htk
  have hgfp : g ∈ fp := by rw [hfp]; simp [Value.ownBlock]
  have hnd := hO.nd
  rw [hfp] at hnd
  have hgn : ∀ e ∈ els, ∀ k ∈ e.2.2, k ≠ g := by
    intro e he k hk e2
    simp only [Value.ownBlock, Option.toList_some, List.singleton_append, List.nodup_cons] at hnd
    exact hnd.1 (List.mem_flatMap.2 ⟨e, he, by rw [← e2]; exact hk⟩)
  obtain ⟨W1, cur1, hap, hB1, hs1, ht1, hk1⟩ := run_gapE (W := w.drew) (i := i) (els := els) (fun e he => Lay.edit.keeps (hes e he) (Keeps.of_below (fp := []) (Below.refl w.heap.size w).drew) (fun _ _ h => nomatch h)) hh hcs hnc htk (by omega)
  rw [← hln] at hap ht1
  obtain ⟨W2, cur2, hcl, hB2, hs2, hlo2, hk2⟩ := run_clear_E (W := W1) (n := 1) (c := c - (es.length - 1)) (o := (es.length - 1) * 3) hB1 (by omega) (by rw [hs1, hcs]; omega)
  have hncc : es.length ≤ c := by omega
  obtain ⟨u3, hS3⟩ := slcE_three g es.length c i hi hncc hcm
  have hS1 := slcE_head g es.length c i (by omega) hncc hcm
  have hS2 := slcE_from g es.length c (i + 1) (by omega) hncc hcm
  rw [Int.natCast_add, Int.natCast_one] at hS2
  have hS4 := slcE_lh g (es.length - 1) c (es.length - 1) es.length (by omega) hncc hcm
  rw [show es.length - (es.length - 1) = 1 by omega] at hS4
  have hkk : Keeps [g] w W2 := (show Keeps [g] w W1 from ⟨hk1.os, hk1.tape, hk1.output, hk1.size, hk1.block⟩).trans hk2
  have hsub : ∀ e ∈ els.take i ++ els.drop (i + 1), e ∈ els := fun e he => by
    rcases List.mem_append.1 he with h | h
    · exact List.mem_of_mem_take h
    · exact List.mem_of_mem_drop h
  have hL : (els.take i ++ els.drop (i + 1)).length = es.length - 1 := by rw [List.length_append, List.length_take, List.length_drop]; omega
  have hsubl : ((els.take i ++ els.drop (i + 1)).flatMap (·.2.2)).Sublist (els.flatMap (·.2.2)) := by
    have h1 : els.flatMap (·.2.2) = (els.take i).flatMap (·.2.2) ++ (els.drop i).flatMap (·.2.2) := by rw [← List.flatMap_append, List.take_append_drop]
    rw [h1, List.flatMap_append]
    refine List.Sublist.append (List.Sublist.refl _) ?_
    rw [List.drop_eq_getElem_cons (show i < els.length by omega), List.flatMap_cons]
    exact List.sublist_append_right _ _
  have hfin : Lay.edits.ow W2 [.slice (some ⟨g, 0, none⟩) (es.length - 1) c] (es.take i ++ es.drop (i + 1)) ([g] ++ (els.take i ++ els.drop (i + 1)).flatMap (·.2.2)) := by
    refine ⟨_, els.take i ++ els.drop (i + 1), rfl, by rw [List.map_append, List.map_take, List.map_drop, ← hes0], ⟨?_, .inr ⟨g, c, cur2, by rw [hL], Nat.zero_le _, hB2, by omega, hcm, ?_, ?_⟩⟩, fun e he => ?_, ?_⟩
    · rw [els_flat (w := w) (fun e he => hes e (hsub e he))]; rfl
    · rw [hsz3]; omega
    · rw [hL, hsz3, ← ht1]
      apply List.ext_getElem?
      intro j
      rw [List.getElem?_take, List.getElem?_take]
      by_cases hj : j < (es.length - 1) * 3
      · rw [if_pos hj, if_pos hj]
        have := hlo2 j hj
        simpa using this
      · rw [if_neg hj, if_neg hj]
    · exact Lay.edit.keeps (hes e (hsub e he)) hkk (fun k hk h => hgn e (hsub e he) k hk (by simpa using h))
    · simp [Value.ownBlock]
  have hndf : ([g] ++ (els.take i ++ els.drop (i + 1)).flatMap (·.2.2)).Nodup := by
    refine List.Nodup.sublist (List.Sublist.append (List.Sublist.refl [g]) hsubl) ?_
    simpa [Value.ownBlock] using hnd
  have hsf : ∀ k ∈ [g] ++ (els.take i ++ els.drop (i + 1)).flatMap (·.2.2), k ∈ fp := fun k hk => by
    rw [hfp]
    rcases List.mem_append.1 hk with h | h
    · exact List.mem_append.2 (.inl (by simpa [Value.ownBlock] using h))
    · exact List.mem_append.2 (.inr (hsubl.subset h))
  have HFIN := Lib.hid hfin
  have HND := Lib.hid hndf
  have HSF := Lib.hid hsf
  have HKK := Lib.hid (hkk.mono (fq := fp) (fun k hk => by simp at hk; rw [hk]; exact hgfp))
  generalize (if c = i + 1 then (⟨g, 0, none⟩ : Addr) else ⟨g, (i + 1) * 3, none⟩) = A2 at hap hS2
  have hne : ((i : Int) == (i : Int) + 1) = false := beq_eq_false_iff_ne.2 (by omega)
  clear hB1 hs1 ht1 hk1 hB2 hs2 hlo2 hk2 hfin hndf hsf hkk hsub hL hsubl hgn hnd hgfp hes hes0 hrow hfp hh hcs htk hO hv2 hln hsz3
  go_enter Try.func153, Try.ntmps153
  go_wp2_with fail
  refine wp_region_held_drew (S := (fun V => True)) (by kernel_rfl) (by exact trivial) (fun hHeld => ?_)
  refine wpAnyH_take (i := 0) (oi := ?_) (v := ?_) ?_ ?_ ?_ ?_ ?_ ?_ (by exact hHeld) ?_
  rotate_left 2
  · (simp only [List.getElem?_toArray, List.getElem?_cons_zero]; try rfl)
  · kernel_rfl
  · kernel_rfl
  · kernel_rfl
  · exact fun _ _ _ h => h
  · refine Or.inl ⟨by rfl, ?_⟩
    (intro V hSV; (try dsimp only at hSV); obtain ⟨⟩ := hSV; go_simp; try with_reducible rfl)
  (try simp only [Act.put, List.setIfInBounds_toArray, List.set_cons_zero, List.set_cons_succ])
  refine wpAnyH_take (i := 1) (oi := ?_) (v := ?_) ?_ ?_ ?_ ?_ ?_ ?_ (by exact hHeld) ?_
  rotate_left 2
  · (simp only [List.getElem?_toArray, List.getElem?_cons_zero, List.getElem?_cons_succ]; try rfl)
  · kernel_rfl
  · kernel_rfl
  · kernel_rfl
  · exact fun _ _ _ h => h
  · refine Or.inl ⟨by rfl, ?_⟩
    (intro V hSV; (try dsimp only at hSV); obtain ⟨⟩ := hSV; go_simp; try with_reducible rfl)
  (try simp only [Act.put, List.setIfInBounds_toArray, List.set_cons_zero, List.set_cons_succ])
  refine wpAnyH_take (i := 2) (oi := ?_) (v := ?_) ?_ ?_ ?_ ?_ ?_ ?_ (by exact hHeld) ?_
  rotate_left 2
  · (simp only [List.getElem?_toArray, List.getElem?_cons_zero, List.getElem?_cons_succ]; try rfl)
  · kernel_rfl
  · kernel_rfl
  · kernel_rfl
  · exact fun _ _ _ h => h
  · refine Or.inl ⟨by rfl, ?_⟩
    (intro V hSV; (try dsimp only at hSV); obtain ⟨⟩ := hSV; go_simp; try with_reducible rfl)
  (try simp only [Act.put, List.setIfInBounds_toArray, List.set_cons_zero, List.set_cons_succ])
  refine wpAnyH_take (i := 3) (oi := ?_) (v := ?_) ?_ ?_ ?_ ?_ ?_ ?_ (by exact hHeld) ?_
  rotate_left 2
  · (simp only [List.getElem?_toArray, List.getElem?_cons_zero, List.getElem?_cons_succ]; try rfl)
  · kernel_rfl
  · kernel_rfl
  · kernel_rfl
  · exact fun _ _ _ h => h
  · refine Or.inl ⟨by rfl, ?_⟩
    (intro V hSV; (try dsimp only at hSV); obtain ⟨⟩ := hSV; go_simp; try with_reducible rfl)
  (try simp only [Act.put, List.setIfInBounds_toArray, List.set_cons_zero, List.set_cons_succ])
  refine wpAnyH_take (i := 4) (oi := ?_) (v := ?_) ?_ ?_ ?_ ?_ ?_ ?_ (by exact hHeld) ?_
  rotate_left 2
  · (simp only [List.getElem?_toArray, List.getElem?_cons_zero, List.getElem?_cons_succ]; try rfl)
  · kernel_rfl
  · kernel_rfl
  · kernel_rfl
  · exact fun _ _ _ h => h
  · refine Or.inl ⟨by rfl, ?_⟩
    (intro V hSV; (try dsimp only at hSV); obtain ⟨⟩ := hSV; go_simp; try with_reducible rfl)
  (try simp only [Act.put, List.setIfInBounds_toArray, List.set_cons_zero, List.set_cons_succ])
  refine wpAnyH_take (i := 5) (oi := ?_) (v := ?_) ?_ ?_ ?_ ?_ ?_ ?_ (by exact hHeld) ?_
  rotate_left 2
  · (simp only [List.getElem?_toArray, List.getElem?_cons_zero, List.getElem?_cons_succ]; try rfl)
  · kernel_rfl
  · kernel_rfl
  · kernel_rfl
  · exact fun _ _ _ h => h
  · refine Or.inl ⟨by rfl, ?_⟩
    (intro V hSV; (try dsimp only at hSV); obtain ⟨⟩ := hSV; go_simp; try with_reducible rfl)
  (try simp only [Act.put, List.setIfInBounds_toArray, List.set_cons_zero, List.set_cons_succ])
  refine wpAnyH_ready (rs := [6]) (by kernel_rfl) (by simp) ?_
  refine AllReadyH.cons (o := ?_) ?_ (fun K hK => ?_) AllReadyH.nil
  rotate_left 1
  · (simp only [List.getElem?_toArray, List.getElem?_cons_zero, List.getElem?_cons_succ]; try rfl)
  refine step_run_appE rfl (.tmp 22) (.tmp 25) rfl _ _ rfl rfl (hap _ _) ?_
  (try go_simp)
  refine hK.out _ _ (by exact trivial) (fun hHeld => ?_)
  clear hK K
  (try simp only [Act.put, List.setIfInBounds_toArray, List.set_cons_zero, List.set_cons_succ])
  refine wpAnyH_take (i := 7) (oi := ?_) (v := ?_) ?_ ?_ ?_ ?_ ?_ ?_ (by exact hHeld) ?_
  rotate_left 2
  · (simp only [List.getElem?_toArray, List.getElem?_cons_zero, List.getElem?_cons_succ]; try rfl)
  · kernel_rfl
  · kernel_rfl
  · kernel_rfl
  · exact fun _ _ _ h => h
  · refine Or.inl ⟨by rfl, ?_⟩
    (intro V hSV; (try dsimp only at hSV); obtain ⟨⟩ := hSV; go_simp; try with_reducible rfl)
  (try simp only [Act.put, List.setIfInBounds_toArray, List.set_cons_zero, List.set_cons_succ])
  refine wpAnyH_done (by kernel_rfl) ?_ _
  go_wp2
  go_ret
  exact ⟨_, _, rfl, HFIN.out, HND.out, HSF.out, HKK.out⟩
end Go.Proofs.Ytalcjgmmlmhngaa
