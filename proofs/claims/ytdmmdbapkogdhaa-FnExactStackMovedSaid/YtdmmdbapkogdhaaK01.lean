/-
  Chapter 8, slices.Delete of one edit: contract. Own work.
  Chapter 8, the list of edits that lies in a variable: count, remove, add: contracts. Own work.
  Chapter 8, StackOk in the program and in the model: contracts. Own work.
  Chapter 8, newEditStack, top, l08Edit, StackTop in the program and in the model: contracts. Own work.
  Chapter 8, l08Side and StackTop in the model: contracts. Own work.
  Chapter 8, push and pop: contracts. Own work.
-/
import Derived.Test.YtdmmdbapkogdhaaC07
import Derived.Laws.CopyRow
import Derived.Lib.SliceRun
import Derived.Laws.AppendOwn
import Derived.Test.YtdmmdbapkogdhaaCl
import Derived.Test.YtdmmdbapkogdhaaP17
import Derived.Test.YtdmmdbapkogdhaaEs
import Derived.Test.YtdmmdbapkogdhaaJ07
import Derived.Test.YtdmmdbapkogdhaaEB
namespace Go.Proofs.Ytdmmdbapkogdhaa
open Go.RowKit P
set_option linter.unusedVariables false
set_option linter.unusedSimpArgs false
set_option maxRecDepth 100000

theorem slcE_from (g n c j : Nat) (hj : j ≤ n) (hc : n ≤ c) (hc9 : c ≤ maxLen) : ∀ W, (Instr.slice 44 (.slice (some ⟨g, 0, none⟩) n c) (some (.int .i64 (j : Int))) none none).run Try.prog W = .ok (.slice (some (if c = j then ⟨g, 0, none⟩ else ⟨g, j * 3, none⟩)) (n - j) (c - j)) W := by
  intro W
  unfold maxLen at hc9
  have hz : ∀ W, (Go.sizeOf 30).run Try.prog W = .ok 3 W := fun W => by kernel_rfl
  have ht' : Try.prog.underlying 44 = some (.slice (Try.prog.elem 44)) := by simp [Program.elem, Try.underlying44]
  have he : Try.prog.elem 44 = 30 := by simp [Program.elem, Try.underlying44]
  rw [run_slice_l W 44 _ _ _ ht' .i64 _ (by omega) (by omega), he, hz]
  by_cases h0 : c = j
  · simp [Result.andThen, sliced, h0]
  · by_cases h1 : j = 0
    · subst h1; simp [Result.andThen, sliced, Addr.add, h0]
    · have h2 : ¬ j * 3 = 0 := by omega
      simp [Result.andThen, sliced, Addr.add, h0, h1, h2]
theorem slcE_head (g n c i : Nat) (hi : i ≤ n) (hc : n ≤ c) (hc9 : c ≤ maxLen) : ∀ W, (Instr.slice 44 (.slice (some ⟨g, 0, none⟩) n c) none (some (.int .i64 (i : Int))) none).run Try.prog W = .ok (.slice (some ⟨g, 0, none⟩) i c) W := by
  intro W
  unfold maxLen at hc9
  have hz : ∀ W, (Go.sizeOf 30).run Try.prog W = .ok 3 W := fun W => by kernel_rfl
  have ht' : Try.prog.underlying 44 = some (.slice (Try.prog.elem 44)) := by simp [Program.elem, Try.underlying44]
  have he : Try.prog.elem 44 = 30 := by simp [Program.elem, Try.underlying44]
  rw [run_slice_h W 44 _ _ _ ht' .i64 _ (by omega) (by omega), he, hz]
  simp [Result.andThen, sliced, Addr.add]
theorem slcE_lh (g n c l h : Nat) (hl : l < h) (hh : h ≤ c) (hc9 : c ≤ maxLen) : ∀ W, (Instr.slice 44 (.slice (some ⟨g, 0, none⟩) n c) (some (.int .i64 (l : Int))) (some (.int .i64 (h : Int))) none).run Try.prog W = .ok (.slice (some ⟨g, l * 3, none⟩) (h - l) (c - l)) W := by
  intro W
  unfold maxLen at hc9
  have hz : ∀ W, (Go.sizeOf 30).run Try.prog W = .ok 3 W := fun W => by kernel_rfl
  have ht' : Try.prog.underlying 44 = some (.slice (Try.prog.elem 44)) := by simp [Program.elem, Try.underlying44]
  have he : Try.prog.elem 44 = 30 := by simp [Program.elem, Try.underlying44]
  rw [run_slice_lh W 44 _ _ _ ht' .i64 .i64 _ _ (by omega) (by omega) (by omega), he, hz]
  have h0 : ¬ c = l := by omega
  by_cases h1 : l = 0
  · subst h1; simp [Result.andThen, sliced, Addr.add, h0]
  · have h2 : ¬ l * 3 = 0 := by omega
    simp [Result.andThen, sliced, Addr.add, h0, h1, h2]
theorem slcE_three (g n c i : Nat) (hi : i < n) (hc : n ≤ c) (hc9 : c ≤ maxLen) : ∃ u, ∀ W, (Instr.slice 44 (.slice (some ⟨g, 0, none⟩) n c) (some (.int .i64 (i : Int))) (some (.int .i64 ((i : Int) + 1))) (some (.int .i64 (n : Int)))).run Try.prog W = .ok u W := by
  unfold maxLen at hc9
  have hz : ∀ W, (Go.sizeOf 30).run Try.prog W = .ok 3 W := fun W => by kernel_rfl
  have ht' : Try.prog.underlying 44 = some (.slice (Try.prog.elem 44)) := by simp [Program.elem, Try.underlying44]
  have he : Try.prog.elem 44 = 30 := by simp [Program.elem, Try.underlying44]
  refine ⟨sliced (some ⟨g, 0, none⟩) ((i : Int)).toNat ((i : Int) + 1).toNat ((n : Int)).toNat 3, fun W => ?_⟩
  rw [run_slice_lhm W 44 _ _ _ ht' .i64 .i64 .i64 _ _ _ (by omega) (by omega) (by omega) (by omega), he, hz]
  rfl

theorem step_run_appE {w : World} {ops : Array Oper} {o : Oper} {a : Act} {K : Act → World → Prop} {Q : Exit → Act → World → Prop} {X : Prop} (hgd : o.guard = none) (s x : Operand)
    (ho : o.op = .call { callee := .builtin .append, args := #[s, x], argTypes := #[44, 44] })
    (v y : Value) (hs : a.eval s = v) (hx : a.eval x = y) {v' : Value} {w' : World} (hrun : (Builtin.append_ #[44, 44] o.type #[v, y]).run Try.prog w = .ok v' w') (h : K (a.put o.dst v') w') :
    if Region.wanted o (yielded ops a.tmps) = true then Oper.wp Try.prog o a w K Q else X := by
  have hw : Region.wanted o (yielded ops a.tmps) = true := by simp [Region.wanted, hgd]
  rw [if_pos hw]
  unfold Oper.wp execOp
  simp only [ho, resolve, invoke, builtin, Sem.run_bind, Sem.run_pure, Result.andThen_ok, List.map_toArray, List.map_cons, List.map_nil, hs, hx, hrun]
  exact h

theorem cells_one {w : World} {els : List (El Ed)} (hes : ∀ e ∈ els, Lay.edit.ow w e.1 e.2.1 e.2.2) : ∀ u ∈ els.flatMap (·.1), u.oneCell' = true := by
  intro u hu
  obtain ⟨e, he, hu⟩ := List.mem_flatMap.1 hu
  obtain ⟨v, h1, h2, _⟩ := edit_ow_inv (hes e he)
  rw [h1] at hu
  obtain ⟨A, c, rfl, _, _, _⟩ := h2.form
  simp at hu
  rcases hu with rfl | rfl | rfl <;> rfl
theorem els_flat {w : World} {els : List (El Ed)} (hes : ∀ e ∈ els, Lay.edit.ow w e.1 e.2.1 e.2.2) : (els.flatMap (·.1)).length = els.length * 3 :=
  flat_len 3 els (·.1) (fun e he => by obtain ⟨v, h1, _⟩ := edit_ow_inv (hes e he); rw [h1]; rfl)

/-- The append that closes the gap of one edit. -/
theorem run_gapE {W : World} {g cap i : Nat} {cur : Array Value} {els : List (El Ed)} (hes : ∀ e ∈ els, Lay.edit.ow W e.1 e.2.1 e.2.2) (hB : Blk W g cur 30) (hs : cur.size = cap * 3) (hn : els.length ≤ cap) (ht : cur.toList.take (els.length * 3) = els.flatMap (·.1)) (hi : i < els.length) :
    ∃ W1 cur1, (∀ ty c', (Builtin.append_ #[44, 44] ty #[.slice (some ⟨g, 0, none⟩) i cap, .slice (some (if cap = i + 1 then ⟨g, 0, none⟩ else ⟨g, (i + 1) * 3, none⟩)) (els.length - (i + 1)) c']).run Try.prog W = .ok (.slice (some ⟨g, 0, none⟩) (els.length - 1) cap) W1) ∧
      Blk W1 g cur1 30 ∧ cur1.size = cur.size ∧ cur1.toList.take ((els.length - 1) * 3) = (els.take i ++ els.drop (i + 1)).flatMap (·.1) ∧ Keeps [g] W W1 := by
  obtain ⟨inf, hif, hz, hsz, hby⟩ := info_parts Try.infoEd
  have hfl := els_flat hes
  have hmt : ∀ k, ∀ e ∈ els.take k, Lay.edit.ow W e.1 e.2.1 e.2.2 := fun k e he => hes e (List.mem_of_mem_take he)
  have hmd : ∀ k, ∀ e ∈ els.drop k, Lay.edit.ow W e.1 e.2.1 e.2.2 := fun k e he => hes e (List.mem_of_mem_drop he)
  have hd : ((els.drop (i + 1)).flatMap (·.1)).length = (els.length - (i + 1)) * 3 := by rw [els_flat (hmd _), List.length_drop]
  have hsplit : els.flatMap (·.1) = (els.take (i + 1)).flatMap (·.1) ++ (els.drop (i + 1)).flatMap (·.1) := by rw [← List.flatMap_append, List.take_append_drop]
  have ht1 : ((els.take (i + 1)).flatMap (·.1)).length = (i + 1) * 3 := by rw [els_flat (hmt _), List.length_take]; omega
  have hti : ((els.take i).flatMap (·.1)).length = i * 3 := by rw [els_flat (hmt _), List.length_take]; omega
  have hget : ∀ (j : Nat) (u : Value), ((els.drop (i + 1)).flatMap (·.1))[j]? = some u → cur[(i + 1) * 3 + j]? = some u := by
    intro j u hu
    have hj : j < (els.length - (i + 1)) * 3 := by
      have := (List.getElem?_eq_some_iff.1 hu).1
      omega
    have h9 : (els.flatMap (·.1))[(i + 1) * 3 + j]? = some u := by
      rw [hsplit, List.getElem?_append_right (by omega), ht1, Nat.add_sub_cancel_left]
      exact hu
    rw [← ht, List.getElem?_take, if_pos (by omega)] at h9
    simpa using h9
  have hnews : ∀ j u, ((els.drop (i + 1)).flatMap (·.1))[j]? = some u → W.cell? ((if cap = i + 1 then (⟨g, 0, none⟩ : Addr) else ⟨g, (i + 1) * 3, none⟩).add j) = some u := by
    intro j u hu
    have hj : j < (els.length - (i + 1)) * 3 := by
      have := (List.getElem?_eq_some_iff.1 hu).1
      omega
    rw [if_neg (by omega), add_plain, hB.cell]
    exact hget j u hu
  have hr := fun ty c' => run_append_room (P := Try.prog) W 44 ty 30 inf Try.underlying44 hif g i cap cur hB (if cap = i + 1 then (⟨g, 0, none⟩ : Addr) else ⟨g, (i + 1) * 3, none⟩) (els.length - (i + 1)) c' ((els.drop (i + 1)).flatMap (·.1)) (by rw [hd, hsz]) hnews (cells_one (hmd _)) (by omega) (by rw [hd, hsz]; omega)
  rw [show i + (els.length - (i + 1)) = els.length - 1 by omega] at hr
  refine ⟨_, _, hr, setRow_heap W g cur _ 30 _ hB, ?_, ?_, ?_⟩
  · rw [List.size_toArray, List.length_append, List.length_append, List.length_take, List.length_drop, hd, hsz, Array.length_toList]
    omega
  · rw [hsz, List.flatMap_append]
    have e1 : cur.toList.take (i * 3) = (els.take i).flatMap (·.1) := by
      have h9 : (cur.toList.take (els.length * 3)).take (i * 3) = (els.flatMap (·.1)).take (i * 3) := by rw [ht]
      rw [List.take_take, Nat.min_eq_left (by omega)] at h9
      rw [h9]
      have h8 : els.flatMap (·.1) = (els.take i).flatMap (·.1) ++ (els.drop i).flatMap (·.1) := by rw [← List.flatMap_append, List.take_append_drop]
      rw [h8, List.take_append_of_le_length (by rw [hti]; omega), List.take_of_length_le (by rw [hti]; omega)]
    rw [e1]
    simp only [List.toList_toArray]
    rw [List.take_append_of_le_length (by rw [List.length_append, hti, hd]; omega), List.take_of_length_le (by rw [List.length_append, hti, hd]; omega)]
  · exact ⟨rfl, rfl, rfl, by rw [Go.setRow_size]; exact Nat.le_refl _, fun k _ hk => Go.setRow_other W g k _ (fun e => hk (by rw [e]; simp))⟩

/-- clear on a back part of a row of edits. -/
theorem run_clear_E {W : World} {g o n c : Nat} {cur : Array Value} (hB : Blk W g cur 30) (hn : 0 < n) (hfit : o + n * 3 ≤ cur.size) :
    ∃ W9 cur9, (∀ ty, (Builtin.clear_ #[44] ty #[.slice (some ⟨g, o, none⟩) n c]).run Try.prog W = .ok (.tuple #[]) W9) ∧ Blk W9 g cur9 30 ∧ cur9.size = cur.size ∧ (∀ k, k < o → cur9[k]? = cur[k]?) ∧ Keeps [g] W W9 := by
  have hv : ∀ w, (zeroValue 30).run Try.prog w = .ok (.agg #[.int .i64 0, .int .i64 0, .slice none 0 0]) w := fun w => by kernel_rfl
  have hlen : (Builtin.zeroCells (Value.agg #[.int .i64 0, .int .i64 0, .slice none 0 0]).cells n).toList.length = n * 3 := by
    rw [Array.length_toList, size_zeroCells]; rfl
  have hst := run_storeCells_at Try.prog g o 30 (Builtin.zeroCells (Value.agg #[.int .i64 0, .int .i64 0, .slice none 0 0]).cells n).toList 0 cur W hB (by rw [hlen]; omega) (by
    intro v hv'
    simp only [Builtin.zeroCells, Array.toList_map, List.mem_map] at hv'
    obtain ⟨x, _, rfl⟩ := hv'
    have hx : x % 3 < 3 := Nat.mod_lt _ (by decide)
    have h4 : x % 3 = 0 ∨ x % 3 = 1 ∨ x % 3 = 2 := by omega
    show (#[Value.int .i64 0, .int .i64 0, .slice none 0 0] : Array Value)[x % 3]!.oneCell' = true
    rcases h4 with h4 | h4 | h4 <;> rw [h4] <;> rfl)
  rw [hlen, Nat.add_zero] at hst
  obtain ⟨m, rfl⟩ : ∃ m, n = m + 1 := ⟨n - 1, by omega⟩
  generalize hZ : (Builtin.zeroCells (Value.agg #[.int .i64 0, .int .i64 0, .slice none 0 0]).cells (m + 1)).toList = Z at *
  refine ⟨W.setRow g (cur.toList.take o ++ Z ++ cur.toList.drop (o + (m + 1) * 3)).toArray, (cur.toList.take o ++ Z ++ cur.toList.drop (o + (m + 1) * 3)).toArray, fun ty => ?_, setRow_heap W g cur _ 30 _ hB, ?_, fun k hk => ?_, ?_⟩
  · simp only [Builtin.clear_, Sem.run_bind]
    simp [run_underlying Try.underlying44, hv, hZ, hst]
  · rw [List.size_toArray, List.length_append, List.length_append, List.length_take, List.length_drop, hlen, Array.length_toList]
    omega
  · rw [List.getElem?_toArray, List.append_assoc, List.getElem?_append_left (by rw [List.length_take, Array.length_toList]; omega), List.getElem?_take, if_pos hk, Array.getElem?_toList]
  · exact ⟨rfl, rfl, rfl, by rw [Go.setRow_size]; exact Nat.le_refl _, fun k _ hk => Go.setRow_other W g k _ (fun e => hk (by rw [e]; simp))⟩

set_option maxHeartbeats 8000000 in
theorem deleteEd_any (A : Option Addr) (es : List Ed) (c base : Nat) (fp : List Nat) (i : Nat) (w : World) (hl : es.length ≤ 1000000) (hi : i < es.length) (hO : OwE w base A es c fp) :
    Calls Try.prog 194 #[.slice A es.length c, .int .i64 (i : Int), .int .i64 ((i : Int) + 1)] w fun e w' => ∃ A' fp', e = .returned (.slice A' (es.length - 1) c) ∧ Lay.edits.ow w' [.slice A' (es.length - 1) c] (es.take i ++ es.drop (i + 1)) fp' ∧ fp'.Nodup ∧ (∀ k ∈ fp', k ∈ fp) ∧ Keeps fp w w' := by
  obtain ⟨els, hes0, hrow, hes, hfp⟩ := ow_one hO.ow
  have hln : es.length = els.length := by rw [hes0, List.length_map]
  rcases hrow.2 with ⟨_, h0⟩ | ⟨g, cap, cur, hv, hbg, hh, hnc, hcm, hcs, htk⟩
  · omega
  simp only [Value.slice.injEq] at hv
  obtain ⟨rfl, hv2, rfl⟩ := hv
  have hsz3 : Lay.edit.sz = 3 := rfl
  rw [hsz3] at hcs htk
  have hgfp : g ∈ fp := by rw [hfp]; simp [Value.ownBlock]
  have hnd := hO.nd
  rw [hfp] at hnd
  have hgn : ∀ e ∈ els, ∀ k ∈ e.2.2, k ≠ g := by
    intro e he k hk e2
    simp only [Value.ownBlock, Option.toList_some, List.singleton_append, List.nodup_cons] at hnd
    exact hnd.1 (List.mem_flatMap.2 ⟨e, he, by rw [← e2]; exact hk⟩)
  obtain ⟨W1, cur1, hap, hB1, hs1, ht1, hk1⟩ := run_gapE (W := w.drew) (i := i) (els := els) (fun e he => Lay.edit.keeps (hes e he) (Keeps.of_below (fp := []) (Below.refl w.heap.size w).drew) (fun _ _ h => nomatch h)) hh hcs hnc htk (by omega)
  rw [← hln] at hap ht1
  obtain ⟨W2, cur2, hcl, hB2, hs2, hlo2, hk2⟩ := run_clear_E (W := W1) (n := 1) (c := c - (es.length - 1)) (o := (es.length - 1) * 3) hB1 (by omega) (by rw [hs1, hcs]; omega)
  have hncc : es.length ≤ c := by omega
  obtain ⟨u3, hS3⟩ := slcE_three g es.length c i hi hncc hcm
  have hS1 := slcE_head g es.length c i (by omega) hncc hcm
  have hS2 := slcE_from g es.length c (i + 1) (by omega) hncc hcm
  rw [Int.natCast_add, Int.natCast_one] at hS2
  have hS4 := slcE_lh g (es.length - 1) c (es.length - 1) es.length (by omega) hncc hcm
  rw [show es.length - (es.length - 1) = 1 by omega] at hS4
  have hkk : Keeps [g] w W2 := (show Keeps [g] w W1 from ⟨hk1.os, hk1.tape, hk1.output, hk1.size, hk1.block⟩).trans hk2
  have hsub : ∀ e ∈ els.take i ++ els.drop (i + 1), e ∈ els := fun e he => by
    rcases List.mem_append.1 he with h | h
    · exact List.mem_of_mem_take h
    · exact List.mem_of_mem_drop h
  have hL : (els.take i ++ els.drop (i + 1)).length = es.length - 1 := by rw [List.length_append, List.length_take, List.length_drop]; omega
  have hsubl : ((els.take i ++ els.drop (i + 1)).flatMap (·.2.2)).Sublist (els.flatMap (·.2.2)) := by
    have h1 : els.flatMap (·.2.2) = (els.take i).flatMap (·.2.2) ++ (els.drop i).flatMap (·.2.2) := by rw [← List.flatMap_append, List.take_append_drop]
    rw [h1, List.flatMap_append]
    refine List.Sublist.append (List.Sublist.refl _) ?_
    rw [List.drop_eq_getElem_cons (show i < els.length by omega), List.flatMap_cons]
    exact List.sublist_append_right _ _
  have hfin : Lay.edits.ow W2 [.slice (some ⟨g, 0, none⟩) (es.length - 1) c] (es.take i ++ es.drop (i + 1)) ([g] ++ (els.take i ++ els.drop (i + 1)).flatMap (·.2.2)) := by
    refine ⟨_, els.take i ++ els.drop (i + 1), rfl, by rw [List.map_append, List.map_take, List.map_drop, ← hes0], ⟨?_, .inr ⟨g, c, cur2, by rw [hL], Nat.zero_le _, hB2, by omega, hcm, ?_, ?_⟩⟩, fun e he => ?_, ?_⟩
    · rw [els_flat (w := w) (fun e he => hes e (hsub e he))]; rfl
    · rw [hsz3]; omega
    · rw [hL, hsz3, ← ht1]
      apply List.ext_getElem?
      intro j
      rw [List.getElem?_take, List.getElem?_take]
      by_cases hj : j < (es.length - 1) * 3
      · rw [if_pos hj, if_pos hj]
        have := hlo2 j hj
        simpa using this
      · rw [if_neg hj, if_neg hj]
    · exact Lay.edit.keeps (hes e (hsub e he)) hkk (fun k hk h => hgn e (hsub e he) k hk (by simpa using h))
    · simp [Value.ownBlock]
  have hndf : ([g] ++ (els.take i ++ els.drop (i + 1)).flatMap (·.2.2)).Nodup := by
    refine List.Nodup.sublist (List.Sublist.append (List.Sublist.refl [g]) hsubl) ?_
    simpa [Value.ownBlock] using hnd
  have hsf : ∀ k ∈ [g] ++ (els.take i ++ els.drop (i + 1)).flatMap (·.2.2), k ∈ fp := fun k hk => by
    rw [hfp]
    rcases List.mem_append.1 hk with h | h
    · exact List.mem_append.2 (.inl (by simpa [Value.ownBlock] using h))
    · exact List.mem_append.2 (.inr (hsubl.subset h))
  have HFIN := Lib.hid hfin
  have HND := Lib.hid hndf
  have HSF := Lib.hid hsf
  have HKK := Lib.hid (hkk.mono (fq := fp) (fun k hk => by simp at hk; rw [hk]; exact hgfp))
  generalize (if c = i + 1 then (⟨g, 0, none⟩ : Addr) else ⟨g, (i + 1) * 3, none⟩) = A2 at hap hS2
  have hne : ((i : Int) == (i : Int) + 1) = false := beq_eq_false_iff_ne.2 (by omega)
  clear hB1 hs1 ht1 hk1 hB2 hs2 hlo2 hk2 hfin hndf hsf hkk hsub hL hsubl hgn hnd hgfp hes hes0 hrow hfp hh hcs htk hO hv2 hln hsz3
  go_enter Try.func194, Try.ntmps194
  go_wp2_with fail
  refine wp_region_held_drew (S := (fun V => True)) (by kernel_rfl) (by exact trivial) (fun hHeld => ?_)
  refine wpAnyH_take (i := 0) (oi := ?_) (v := ?_) ?_ ?_ ?_ ?_ ?_ ?_ (by exact hHeld) ?_
  rotate_left 2
  · (simp only [List.getElem?_toArray, List.getElem?_cons_zero]; try rfl)
  · kernel_rfl
  · kernel_rfl
  · kernel_rfl
  · exact fun _ _ _ h => h
  · refine Or.inl ⟨by rfl, ?_⟩
    (intro V hSV; (try dsimp only at hSV); obtain ⟨⟩ := hSV; go_simp; try with_reducible rfl)
  (try simp only [Act.put, List.setIfInBounds_toArray, List.set_cons_zero, List.set_cons_succ])
  refine wpAnyH_take (i := 1) (oi := ?_) (v := ?_) ?_ ?_ ?_ ?_ ?_ ?_ (by exact hHeld) ?_
  rotate_left 2
  · (simp only [List.getElem?_toArray, List.getElem?_cons_zero, List.getElem?_cons_succ]; try rfl)
  · kernel_rfl
  · kernel_rfl
  · kernel_rfl
  · exact fun _ _ _ h => h
  · refine Or.inl ⟨by rfl, ?_⟩
    (intro V hSV; (try dsimp only at hSV); obtain ⟨⟩ := hSV; go_simp; try with_reducible rfl)
  (try simp only [Act.put, List.setIfInBounds_toArray, List.set_cons_zero, List.set_cons_succ])
  refine wpAnyH_take (i := 2) (oi := ?_) (v := ?_) ?_ ?_ ?_ ?_ ?_ ?_ (by exact hHeld) ?_
  rotate_left 2
  · (simp only [List.getElem?_toArray, List.getElem?_cons_zero, List.getElem?_cons_succ]; try rfl)
  · kernel_rfl
  · kernel_rfl
  · kernel_rfl
  · exact fun _ _ _ h => h
  · refine Or.inl ⟨by rfl, ?_⟩
    (intro V hSV; (try dsimp only at hSV); obtain ⟨⟩ := hSV; go_simp; try with_reducible rfl)
  (try simp only [Act.put, List.setIfInBounds_toArray, List.set_cons_zero, List.set_cons_succ])
  refine wpAnyH_take (i := 3) (oi := ?_) (v := ?_) ?_ ?_ ?_ ?_ ?_ ?_ (by exact hHeld) ?_
  rotate_left 2
  · (simp only [List.getElem?_toArray, List.getElem?_cons_zero, List.getElem?_cons_succ]; try rfl)
  · kernel_rfl
  · kernel_rfl
  · kernel_rfl
  · exact fun _ _ _ h => h
  · refine Or.inl ⟨by rfl, ?_⟩
    (intro V hSV; (try dsimp only at hSV); obtain ⟨⟩ := hSV; go_simp; try with_reducible rfl)
  (try simp only [Act.put, List.setIfInBounds_toArray, List.set_cons_zero, List.set_cons_succ])
  refine wpAnyH_take (i := 4) (oi := ?_) (v := ?_) ?_ ?_ ?_ ?_ ?_ ?_ (by exact hHeld) ?_
  rotate_left 2
  · (simp only [List.getElem?_toArray, List.getElem?_cons_zero, List.getElem?_cons_succ]; try rfl)
  · kernel_rfl
  · kernel_rfl
  · kernel_rfl
  · exact fun _ _ _ h => h
  · refine Or.inl ⟨by rfl, ?_⟩
    (intro V hSV; (try dsimp only at hSV); obtain ⟨⟩ := hSV; go_simp; try with_reducible rfl)
  (try simp only [Act.put, List.setIfInBounds_toArray, List.set_cons_zero, List.set_cons_succ])
  refine wpAnyH_take (i := 5) (oi := ?_) (v := ?_) ?_ ?_ ?_ ?_ ?_ ?_ (by exact hHeld) ?_
  rotate_left 2
  · (simp only [List.getElem?_toArray, List.getElem?_cons_zero, List.getElem?_cons_succ]; try rfl)
  · kernel_rfl
  · kernel_rfl
  · kernel_rfl
  · exact fun _ _ _ h => h
  · refine Or.inl ⟨by rfl, ?_⟩
    (intro V hSV; (try dsimp only at hSV); obtain ⟨⟩ := hSV; go_simp; try with_reducible rfl)
  (try simp only [Act.put, List.setIfInBounds_toArray, List.set_cons_zero, List.set_cons_succ])
  refine wpAnyH_ready (rs := [6]) (by kernel_rfl) (by simp) ?_
  refine AllReadyH.cons (o := ?_) ?_ (fun K hK => ?_) AllReadyH.nil
  rotate_left 1
  · (simp only [List.getElem?_toArray, List.getElem?_cons_zero, List.getElem?_cons_succ]; try rfl)
  refine step_run_appE rfl (.tmp 22) (.tmp 25) rfl _ _ rfl rfl (hap _ _) ?_
  (try go_simp)
  refine hK.out _ _ (by exact trivial) (fun hHeld => ?_)
  clear hK K
  (try simp only [Act.put, List.setIfInBounds_toArray, List.set_cons_zero, List.set_cons_succ])
  refine wpAnyH_take (i := 7) (oi := ?_) (v := ?_) ?_ ?_ ?_ ?_ ?_ ?_ (by exact hHeld) ?_
  rotate_left 2
  · (simp only [List.getElem?_toArray, List.getElem?_cons_zero, List.getElem?_cons_succ]; try rfl)
  · kernel_rfl
  · kernel_rfl
  · kernel_rfl
  · exact fun _ _ _ h => h
  · refine Or.inl ⟨by rfl, ?_⟩
    (intro V hSV; (try dsimp only at hSV); obtain ⟨⟩ := hSV; go_simp; try with_reducible rfl)
  (try simp only [Act.put, List.setIfInBounds_toArray, List.set_cons_zero, List.set_cons_succ])
  refine wpAnyH_done (by kernel_rfl) ?_ _
  go_wp2
  go_ret
  exact ⟨_, _, rfl, HFIN.out, HND.out, HSF.out, HKK.out⟩
end Go.Proofs.Ytdmmdbapkogdhaa

namespace Go.Proofs.Ytdmmdbapkogdhaa
open Go.RowKit P
set_option linter.unusedVariables false
set_option linter.unusedSimpArgs false
set_option maxRecDepth 100000

/-- The variable at lb holds the list es, which lies in the blocks fp. -/
structure Lb (w : World) (B lb : Nat) (v : Value) (es : List Ed) (fp : List Nat) : Prop where
  hd : Blk w lb #[v] 139
  ow : Lay.edits.ow w [v] es fp
  nd : fp.Nodup
  ne : ∀ k ∈ fp, k ≠ lb
  lo : ∀ k ∈ fp, B ≤ k
  hB : B ≤ lb
theorem Lb.below {w w' : World} {B lb : Nat} {v : Value} {es : List Ed} {fp : List Nat} (h : Lb w B lb v es fp) (b : Below w.heap.size w w') : Lb w' B lb v es fp := ⟨h.hd.below b, Lay.edits.owBelow h.ow b, h.nd, h.ne, h.lo, h.hB⟩
theorem Lb.keeps {w w' : World} {B lb : Nat} {v : Value} {es : List Ed} {fp fq : List Nat} (h : Lb w B lb v es fp) (hk : Keeps fq w w') (hl : lb ∉ fq) (hd : ∀ k ∈ fp, k ∉ fq) : Lb w' B lb v es fp :=
  ⟨h.hd.of_block (hk.block lb h.hd.lt hl), Lay.edits.keeps h.ow hk hd, h.nd, h.ne, h.lo, h.hB⟩
theorem Lb.lt {w : World} {B lb : Nat} {v : Value} {es : List Ed} {fp : List Nat} (h : Lb w B lb v es fp) : ∀ k ∈ fp, k < w.heap.size := fun k hk => Lay.edits.lt h.ow k hk
theorem Lb.form {w : World} {B lb : Nat} {v : Value} {es : List Ed} {fp : List Nat} (h : Lb w B lb v es fp) : ∃ A c, v = .slice A es.length c ∧ OwE w B A es c fp := by
  obtain ⟨A, c, e, _, _, _⟩ := Lay.edits.read h.ow
  simp only [List.cons.injEq, and_true] at e
  subst e
  exact ⟨A, c, rfl, h.ow, h.nd, h.lo⟩
theorem own_in {w : World} {v : Value} {es : List Ed} {fp : List Nat} (h : Lay.edits.ow w [v] es fp) : ∀ k ∈ v.ownBlock.toList, k ∈ fp := by
  obtain ⟨els, _, _, _, hfp⟩ := ow_one h
  intro k hk
  rw [hfp]
  exact List.mem_append.2 (.inl hk)

theorem step_app_E {w : World} {ops : Array Oper} {o : Oper} {a : Act} {K : Act → World → Prop} {Q : Exit → Act → World → Prop} {X : Prop} (hgd : o.guard = none) (s x : Operand)
    (ho : o.op = .call { callee := .builtin .append, args := #[s, x], argTypes := #[44, 44] })
    (v : Value) (es : List Ed) (fp : List Nat) (e : Ed) (fx : List Nat) (us : List Value) (ad : Addr) (c : Nat) (hs : a.eval s = v) (hx : a.eval x = .slice (some ad) 1 c)
    (hown : Lay.edits.ow w [v] es fp) (hn : fp.Nodup) (hxe : Lay.edit.ow w us e fx) (hnx : fx.Nodup) (B : Nat) (hB : ∀ k ∈ fp, k < B) (hB2 : ∀ k ∈ fx, B ≤ k) (hc : ∀ j u, us[j]? = some u → w.cell? (ad.add j) = some u) (hlen : es.length ≤ 1000000)
    (h : ∀ v' w' fp', Lay.edits.ow w' [v'] (es ++ [e]) fp' → fp'.Nodup → (∀ k ∈ fp', k ∈ fp ∨ k ∈ fx ∨ k = w.heap.size) → w.grownBy w' v.ownBlock → K (a.put o.dst v') w') :
    if Region.wanted o (yielded ops a.tmps) = true then Oper.wp Try.prog o a w K Q else X := by
  obtain ⟨v', w', fp', hrun, h2, h3, h4, h5⟩ := run_app_one (P := Try.prog) (E := Lay.edit) 44 o.type Try.underlying44 Try.infoEd rfl rfl (by decide) hown hn hxe hnx B hB hB2 ad c hc hlen (by decide)
  exact step_run_appE hgd s x ho v _ hs hx hrun (h v' w' fp' h2 h3 h4 h5)

set_option maxHeartbeats 1000000 in
theorem edCount_any (A : Option Addr) (n c : Nat) (w : World) :
    Calls Try.prog 175 #[.agg #[.slice A n c]] w fun e w' => e = .returned (.int .i64 (n : Int)) ∧ Below w.heap.size w w' := by
  have hal := (Below.refl w.heap.size w).alloc (Nat.le_refl _) (.cells #[.slice A n c] 137)
  have p0 := (Blk.new w #[.slice A n c] 137).cell 0
  go_enter Try.func175, Try.ntmps175
  go_wp2
  go_ret
  exact ⟨rfl, hal⟩

set_option maxHeartbeats 4000000 in
theorem remove_any (B lb : Nat) (A : Option Addr) (es : List Ed) (c : Nat) (fp : List Nat) (i : Nat) (w : World) (hl : es.length ≤ 1000) (hi : i < es.length) (h : Lb w B lb (.slice A es.length c) es fp) :
    Calls Try.prog 176 #[.pointer (some ⟨lb, 0, none⟩), .int .i64 (i : Int)] w fun e w' => e = .returned (.tuple #[]) ∧ ∃ v' fp', Lb w' B lb v' (es.take i ++ es.drop (i + 1)) fp' ∧ (∀ k ∈ fp', k ∈ fp) ∧ Keeps (lb :: fp) w w' := by
  have p0 : w.cell? ⟨lb, 0, none⟩ = some (.slice A es.length c) := h.hd.cell 0
  have hwr : IntKind.i64.wrap ((i : Int) + 1) = (i : Int) + 1 := IntWalk.i64_in _ (by omega)
  have hdel := Lib.hid (deleteEd_any A es c B fp i w (by omega) hi ⟨h.ow, h.nd, h.lo⟩)
  have HL := Lib.hid h
  clear h
  go_enter Try.func176, Try.ntmps176
  go_wp2_with fail
  refine hdel.out.mono ?_
  rintro e w1 ⟨A', fp', rfl, hO, hN, hsub, hk⟩
  have hd1 := HL.out.hd.of_block (hk.block lb HL.out.hd.lt (fun h => HL.out.ne lb h rfl))
  have p1 := hd1.cell 0
  have f1 := hd1.frozen 0
  have HL2 := Lib.hid (show Lb (w1.setCell ⟨lb, 0, none⟩ (.slice A' (es.length - 1) c)) B lb (.slice A' (es.length - 1) c) (es.take i ++ es.drop (i + 1)) fp' from
    ⟨by simpa using hd1.set 0 (.slice A' (es.length - 1) c), Lay.edits.keeps hO ((Keeps.refl [lb] w1).set (List.mem_singleton.2 rfl) 0 _) (fun k hk h => HL.out.ne k (hsub k hk) (by simpa using h)), hN, fun k hk => HL.out.ne k (hsub k hk), fun k hk => HL.out.lo k (hsub k hk), HL.out.hB⟩)
  have HK2 := Lib.hid (((hk.mono (fq := lb :: fp) (fun k hk => List.mem_cons_of_mem _ hk))).set (List.mem_cons_self) 0 (.slice A' (es.length - 1) c))
  have HS := Lib.hid hsub
  clear hO hN hsub hk hd1 p0
  go_wp2
  go_end0
  exact ⟨rfl, _, _, HL2.out, HS.out, HK2.out⟩

set_option maxHeartbeats 16000000 in
theorem add_any (B lb : Nat) (v : Value) (es : List Ed) (fp : List Nat) (a m : Int) (P : Option Addr) (p : List UInt8) (d : Nat) (w : World) (hl : es.length ≤ 1000) (ha : -9223372036854775808 ≤ a ∧ a ≤ 9223372036854775807) (hm : -9223372036854775808 ≤ m ∧ m ≤ 9223372036854775807) (hp4 : p.length ≤ 1000) (hP : Bs w P p) (h : Lb w B lb v es fp) :
    Calls Try.prog 177 #[.pointer (some ⟨lb, 0, none⟩), .agg #[.int .i64 a, .int .i64 m, .slice P p.length d]] w fun e w' => e = .returned (.tuple #[]) ∧ ∃ v' fp', Lb w' B lb v' (es ++ [(a, m, p)]) fp' ∧ (∀ k ∈ fp', k ∈ fp ∨ w.heap.size ≤ k) ∧ Keeps (lb :: fp) w w' := by
  have hal := (Below.refl w.heap.size w).alloc (Nat.le_refl _) (.cells #[.int .i64 a, .int .i64 m, .slice P p.length d] 30)
  have bE := Blk.new w #[.int .i64 a, .int .i64 m, .slice P p.length d] 30
  have q2 := bE.cell 2
  have hBl := h.hB
  have hlw := h.hd.lt
  have HFP0 := Lib.hid h.lt
  have HNE := Lib.hid h.ne
  have HLO := Lib.hid h.lo
  have HND := Lib.hid h.nd
  have HOB := Lib.hid (own_in h.ow)
  have HL1 := Lib.hid (h.below hal)
  have HP1 := Lib.hid (hP.below hal)
  have HFP := Lib.hid (show ∀ k ∈ fp, k < w.heap.size + 1 from fun k hk => by have := h.lt k hk; omega)
  clear h hP
  go_enter Try.func177, Try.ntmps177
  go_wp2_with fail
  refine (bytesClone_opt P p p.length d _ rfl (by omega) (by exact HP1.out)).mono ?_
  rintro e w2 ⟨v3, rfl, hown3, hb2⟩
  obtain ⟨A3, c3, rfl, _, _, _⟩ := hown3.form
  have bE2 := bE.below hb2
  have hz1 := hb2.size
  have f2 := bE2.frozen 2
  have q2' := bE2.cell 2
  have HE3 := Lib.hid (show Blk (w2.setCell ⟨w.heap.size, 2, none⟩ (.slice A3 p.length c3)) w.heap.size #[.int .i64 a, .int .i64 m, .slice A3 p.length c3] 30 by simpa using bE2.set 2 (.slice A3 p.length c3))
  have hk3 := (Keeps.refl [w.heap.size] w2).set (List.mem_singleton.2 rfl) 2 (.slice A3 p.length c3)
  have HL3 := Lib.hid ((HL1.out.below hb2).keeps hk3 (by simp; omega) (fun k hk h => by have := HFP0.out k hk; simp at h; omega))
  have HB3 := Lib.hid ((below_then hal hb2).setCell (p := ⟨w.heap.size, 2, none⟩) (Nat.le_refl _) (.slice A3 p.length c3))
  have hown4 := hown3.setBelow (a := ⟨w.heap.size, 2, none⟩) (by simp) (.slice A3 p.length c3)
  have HXE := Lib.hid (own_edit ha hm hown4)
  have hfxr := hown3.fp
  have hfxn := hfxr.1
  have hfx9 : ∀ k ∈ (Value.slice A3 p.length c3).ownBlock.toList, w.heap.size + 1 ≤ k := fun k hk => by have := hfxr.2 k hk; simpa using this
  clear bE bE2 hown3 hown4 hb2 hk3 hal hfxr q2
  go_upto_region 2 with fail
  generalize w2.setCell ⟨w.heap.size, 2, none⟩ (.slice A3 p.length c3) = w3 at *
  clear q2' f2
  have HD3 := Lib.hid HL3.out.hd
  have HOW3 := Lib.hid HL3.out.ow
  have hb5 : Below w3.heap.size w3 (w3.drew.alloc (.cells #[.int .i64 a, .int .i64 m, .slice A3 p.length c3] 30)) := (Below.refl w3.heap.size w3).drew.alloc (by simp) _
  have c4 : w3.cell? ⟨lb, 0, none⟩ = some v := HD3.out.cell 0
  have hzw3 := HB3.out.size
  clear HL3 HL1
  refine wp_region_held_drew (S := (fun V => V.cell? ⟨w.heap.size, 0, none⟩ = some (.int .i64 a) ∧ V.cell? ⟨w.heap.size, 1, none⟩ = some (.int .i64 m) ∧ V.cell? ⟨w.heap.size, 2, none⟩ = some (.slice A3 p.length c3))) (by kernel_rfl) (by exact ⟨((show Blk _ w.heap.size #[.int .i64 a, .int .i64 m, .slice A3 p.length c3] 30 from HE3.out)).cell 0, ((show Blk _ w.heap.size #[.int .i64 a, .int .i64 m, .slice A3 p.length c3] 30 from HE3.out)).cell 1, ((show Blk _ w.heap.size #[.int .i64 a, .int .i64 m, .slice A3 p.length c3] 30 from HE3.out)).cell 2⟩) (fun hHeld => ?_)
  refine wpAnyH_take (i := 0) (oi := ?_) (v := ?_) ?_ ?_ ?_ ?_ ?_ ?_ (by exact hHeld) ?_
  rotate_left 2
  · (simp only [List.getElem?_toArray, List.getElem?_cons_zero]; try rfl)
  · kernel_rfl
  · kernel_rfl
  · kernel_rfl
  · exact fun _ _ _ h => h
  · refine Or.inl ⟨by rfl, ?_⟩
    (intro V hSV; (try dsimp only at hSV); obtain ⟨q0, q1, q2⟩ := hSV; go_simp; try with_reducible rfl)
  (try simp only [Act.put, List.setIfInBounds_toArray, List.set_cons_zero, List.set_cons_succ])
  refine wpAnyH_take (i := 1) (oi := ?_) (v := ?_) ?_ ?_ ?_ ?_ ?_ ?_ (by exact hHeld) ?_
  rotate_left 2
  · (simp only [List.getElem?_toArray, List.getElem?_cons_zero, List.getElem?_cons_succ]; try rfl)
  · kernel_rfl
  · kernel_rfl
  · kernel_rfl
  · exact fun _ _ _ h => h
  · refine Or.inl ⟨by rfl, ?_⟩
    (intro V hSV; (try dsimp only at hSV); obtain ⟨q0, q1, q2⟩ := hSV; go_simp; try with_reducible rfl)
  (try simp only [Act.put, List.setIfInBounds_toArray, List.set_cons_zero, List.set_cons_succ])
  refine wpAnyH_take (i := 2) (oi := ?_) (v := ?_) ?_ ?_ ?_ ?_ ?_ ?_ (by exact hHeld) ?_
  rotate_left 2
  · (simp only [List.getElem?_toArray, List.getElem?_cons_zero, List.getElem?_cons_succ]; try rfl)
  · kernel_rfl
  · kernel_rfl
  · kernel_rfl
  · exact fun _ _ _ h => h
  · refine Or.inl ⟨by rfl, ?_⟩
    (intro V hSV; (try dsimp only at hSV); obtain ⟨q0, q1, q2⟩ := hSV; go_simp; try with_reducible rfl)
  (try simp only [Act.put, List.setIfInBounds_toArray, List.set_cons_zero, List.set_cons_succ])
  refine wpAnyH_take (i := 3) (oi := ?_) (v := ?_) ?_ ?_ ?_ ?_ ?_ ?_ (by exact hHeld) ?_
  rotate_left 2
  · (simp only [List.getElem?_toArray, List.getElem?_cons_zero, List.getElem?_cons_succ]; try rfl)
  · kernel_rfl
  · kernel_rfl
  · kernel_rfl
  · exact fun _ _ _ h => h
  · refine Or.inl ⟨by rfl, ?_⟩
    (intro V hSV; (try dsimp only at hSV); obtain ⟨q0, q1, q2⟩ := hSV; go_simp; try with_reducible rfl)
  (try simp only [Act.put, List.setIfInBounds_toArray, List.set_cons_zero, List.set_cons_succ])
  refine wpAnyH_take (i := 5) (oi := ?_) (v := ?_) ?_ ?_ ?_ ?_ ?_ ?_ (by exact hHeld) ?_
  rotate_left 2
  · (simp only [List.getElem?_toArray, List.getElem?_cons_zero, List.getElem?_cons_succ]; try rfl)
  · kernel_rfl
  · kernel_rfl
  · kernel_rfl
  · exact fun _ _ _ h => h
  · refine Or.inl ⟨by rfl, ?_⟩
    (intro V hSV; (try dsimp only at hSV); obtain ⟨q0, q1, q2⟩ := hSV; go_simp; try with_reducible rfl)
  (try simp only [Act.put, List.setIfInBounds_toArray, List.set_cons_zero, List.set_cons_succ])
  refine wpAnyH_ready (rs := [4, 6]) (by kernel_rfl) (by simp) ?_
  refine AllReadyH.cons (o := ?_) ?_ (fun K hK => ?_) ?_
  rotate_left 1
  · (simp only [List.getElem?_toArray, List.getElem?_cons_zero, List.getElem?_cons_succ]; try rfl)
  · go_simp
    refine hK.out _ _ (by exact ⟨((show Blk _ w.heap.size #[.int .i64 a, .int .i64 m, .slice A3 p.length c3] 30 from HE3.out)).cell 0, ((show Blk _ w.heap.size #[.int .i64 a, .int .i64 m, .slice A3 p.length c3] 30 from HE3.out)).cell 1, ((show Blk _ w.heap.size #[.int .i64 a, .int .i64 m, .slice A3 p.length c3] 30 from HE3.out)).cell 2⟩) (fun hHeld => ?_)
    clear hK K
    (try simp only [Act.put, List.setIfInBounds_toArray, List.set_cons_zero, List.set_cons_succ])
    refine wpAnyH_ready (rs := [6]) (by kernel_rfl) (by simp) ?_
    refine AllReadyH.cons (o := ?_) ?_ (fun K hK => ?_) AllReadyH.nil
    rotate_left 1
    · (simp only [List.getElem?_toArray, List.getElem?_cons_zero, List.getElem?_cons_succ]; try rfl)
    go_simp
    refine hK.out _ _ (by exact ⟨((show Blk _ w.heap.size #[.int .i64 a, .int .i64 m, .slice A3 p.length c3] 30 from HE3.out.below hb5)).cell 0, ((show Blk _ w.heap.size #[.int .i64 a, .int .i64 m, .slice A3 p.length c3] 30 from HE3.out.below hb5)).cell 1, ((show Blk _ w.heap.size #[.int .i64 a, .int .i64 m, .slice A3 p.length c3] 30 from HE3.out.below hb5)).cell 2⟩) (fun hHeld => ?_)
    clear hK K
    (try simp only [Act.put, List.setIfInBounds_toArray, List.set_cons_zero, List.set_cons_succ])
    refine wpAnyH_ready (rs := [7]) (by kernel_rfl) (by simp) ?_
    refine AllReadyH.cons (o := ?_) ?_ (fun K hK => ?_) AllReadyH.nil
    rotate_left 1
    · (simp only [List.getElem?_toArray, List.getElem?_cons_zero, List.getElem?_cons_succ]; try rfl)
    refine step_app_E rfl (.tmp 12) (.tmp 14) rfl v es fp (a, m, p) (Value.slice A3 p.length c3).ownBlock.toList [.int .i64 a, .int .i64 m, .slice A3 p.length c3] ⟨w3.heap.size, 0, none⟩ 1 rfl rfl (by exact Lay.edits.owBelow HOW3.out hb5) HND.out (by exact Lay.edit.owBelow HXE.out hb5) hfxn (w.heap.size + 1) HFP.out hfx9 (by exact cell_new3) (by omega) ?_
    intro v6 w6 fp6 ho6 hn6 hs6 hg6
    obtain ⟨n6, A6, c6, rfl⟩ : ∃ n A c, v6 = .slice A n c := by
      obtain ⟨A6, c6, e6, _, _, _⟩ := Lay.edits.read ho6
      simp only [List.cons.injEq, and_true] at e6
      exact ⟨_, _, _, e6⟩
    have hg6 : (w3.drew.alloc (.cells #[.int .i64 a, .int .i64 m, .slice A3 p.length c3] 30)).grownBy w6 v.ownBlock := ⟨hg6.os, hg6.tape, hg6.output, hg6.size, hg6.block⟩
    have hk6 := Keeps.of_grown hg6
    have HD6 := Lib.hid (show Blk w6 lb #[v] 139 from ((HD3.out.below hb5)).of_block (hk6.block lb (HD3.out.below hb5).lt (fun h => HNE.out lb (HOB.out lb h) rfl)))
    have HE6 := Lib.hid (show Blk w6 w.heap.size #[.int .i64 a, .int .i64 m, .slice A3 p.length c3] 30 from ((HE3.out.below hb5)).of_block (hk6.block _ (HE3.out.below hb5).lt (fun h => by have := HFP0.out _ (HOB.out _ h); omega)))
    have HO6 := Lib.hid ho6
    have HN6 := Lib.hid hn6
    have HS6 := Lib.hid hs6
    have HK6 := Lib.hid hk6
    have f6 := HD6.out.frozen 0
    have cc6 := HD6.out.cell 0
    have hzz6 := hk6.size
    clear ho6 hn6 hs6 hg6 hk6
    (try go_simp)
    refine hK.out _ _ (by exact ⟨(HE6.out).cell 0, (HE6.out).cell 1, (HE6.out).cell 2⟩) (fun hHeld => ?_)
    clear hK K
    (try simp only [Act.put, List.setIfInBounds_toArray, List.set_cons_zero, List.set_cons_succ])
    refine wpAnyH_take (i := 8) (oi := ?_) (v := ?_) ?_ ?_ ?_ ?_ ?_ ?_ (by exact hHeld) ?_
    rotate_left 2
    · (simp only [List.getElem?_toArray, List.getElem?_cons_zero, List.getElem?_cons_succ]; try rfl)
    · kernel_rfl
    · kernel_rfl
    · kernel_rfl
    · exact fun _ _ _ h => h
    · refine Or.inl ⟨by rfl, ?_⟩
      (intro V hSV; (try dsimp only at hSV); obtain ⟨q0, q1, q2⟩ := hSV; go_simp; try with_reducible rfl)
    (try simp only [Act.put, List.setIfInBounds_toArray, List.set_cons_zero, List.set_cons_succ])
    refine wpAnyH_take (i := 9) (oi := ?_) (v := ?_) ?_ ?_ ?_ ?_ ?_ ?_ (by exact hHeld) ?_
    rotate_left 2
    · (simp only [List.getElem?_toArray, List.getElem?_cons_zero, List.getElem?_cons_succ]; try rfl)
    · kernel_rfl
    · kernel_rfl
    · kernel_rfl
    · exact fun _ _ _ h => h
    · refine Or.inl ⟨by rfl, ?_⟩
      (intro V hSV; (try dsimp only at hSV); obtain ⟨q0, q1, q2⟩ := hSV; go_simp; try with_reducible rfl)
    (try simp only [Act.put, List.setIfInBounds_toArray, List.set_cons_zero, List.set_cons_succ])
    refine wpAnyH_ready (rs := [10]) (by kernel_rfl) (by simp) ?_
    refine AllReadyH.cons (o := ?_) ?_ (fun K hK => ?_) AllReadyH.nil
    rotate_left 1
    · (simp only [List.getElem?_toArray, List.getElem?_cons_zero, List.getElem?_cons_succ]; try rfl)
    go_simp
    refine hK.out _ _ (by exact ⟨((show Blk (w6.setCell ⟨lb, 0, none⟩ (.slice A6 n6 c6)) w.heap.size #[.int .i64 a, .int .i64 m, .slice A3 p.length c3] 30 from HE6.out.setOther (by show w.heap.size ≠ lb; omega) (.slice A6 n6 c6))).cell 0, ((show Blk (w6.setCell ⟨lb, 0, none⟩ (.slice A6 n6 c6)) w.heap.size #[.int .i64 a, .int .i64 m, .slice A3 p.length c3] 30 from HE6.out.setOther (by show w.heap.size ≠ lb; omega) (.slice A6 n6 c6))).cell 1, ((show Blk (w6.setCell ⟨lb, 0, none⟩ (.slice A6 n6 c6)) w.heap.size #[.int .i64 a, .int .i64 m, .slice A3 p.length c3] 30 from HE6.out.setOther (by show w.heap.size ≠ lb; omega) (.slice A6 n6 c6))).cell 2⟩) (fun hHeld => ?_)
    clear hK K
    (try simp only [Act.put, List.setIfInBounds_toArray, List.set_cons_zero, List.set_cons_succ])
    refine wpAnyH_done (by kernel_rfl) ?_ _
    clear hHeld
    have hput := (((Keeps.of_below (fp := lb :: fp) (HB3.out.trans (hb5.mono (by omega)))).trans (HK6.out.mono (fun k hk => List.mem_cons_of_mem _ (HOB.out k hk)))).set (List.mem_cons_self) 0 (.slice A6 n6 c6))
    have hne6 : ∀ k ∈ fp6, k ≠ lb := fun k hk e => by
      have hz9 := HB3.out.size
      rcases HS6.out k hk with h | h | h
      · exact HNE.out k h e
      · have := hfx9 k h; omega
      · simp at h; omega
    have HL := Lib.hid (show Lb (w6.setCell ⟨lb, 0, none⟩ (.slice A6 n6 c6)) B lb (.slice A6 n6 c6) (es ++ [(a, m, p)]) fp6 from ⟨by simpa using HD6.out.set 0 (.slice A6 n6 c6), Lay.edits.keeps HO6.out ((Keeps.refl [lb] w6).set (List.mem_singleton.2 rfl) 0 (.slice A6 n6 c6)) (fun k hk h => hne6 k hk (by simpa using h)), HN6.out, hne6, fun k hk => by
        have hz9 := HB3.out.size
        rcases HS6.out k hk with h | h | h
        · exact HLO.out k h
        · have := hfx9 k h; omega
        · simp at h; omega, hBl⟩)
    have hsub : ∀ k ∈ fp6, k ∈ fp ∨ w.heap.size ≤ k := fun k hk => by
      have hz9 := HB3.out.size
      rcases HS6.out k hk with h | h | h
      · exact .inl h
      · have := hfx9 k h; right; omega
      · simp at h; right; omega
    go_wp2
    go_end0
    exact ⟨rfl, _, _, HL.out, hsub, hput⟩
  refine AllReadyH.cons (o := ?_) ?_ (fun K hK => ?_) AllReadyH.nil
  rotate_left 1
  · (simp only [List.getElem?_toArray, List.getElem?_cons_zero, List.getElem?_cons_succ]; try rfl)
  go_simp
  refine hK.out _ _ (by exact ⟨((show Blk _ w.heap.size #[.int .i64 a, .int .i64 m, .slice A3 p.length c3] 30 from HE3.out.below hb5)).cell 0, ((show Blk _ w.heap.size #[.int .i64 a, .int .i64 m, .slice A3 p.length c3] 30 from HE3.out.below hb5)).cell 1, ((show Blk _ w.heap.size #[.int .i64 a, .int .i64 m, .slice A3 p.length c3] 30 from HE3.out.below hb5)).cell 2⟩) (fun hHeld => ?_)
  clear hK K
  (try simp only [Act.put, List.setIfInBounds_toArray, List.set_cons_zero, List.set_cons_succ])
  refine wpAnyH_ready (rs := [4]) (by kernel_rfl) (by simp) ?_
  refine AllReadyH.cons (o := ?_) ?_ (fun K hK => ?_) AllReadyH.nil
  rotate_left 1
  · (simp only [List.getElem?_toArray, List.getElem?_cons_zero, List.getElem?_cons_succ]; try rfl)
  have c5 : (w3.alloc (.cells #[.int .i64 a, .int .i64 m, .slice A3 p.length c3] 30)).cell? ⟨lb, 0, none⟩ = some v := (HD3.out.alloc _).cell 0
  go_simp
  clear c5
  refine hK.out _ _ (by exact ⟨((show Blk _ w.heap.size #[.int .i64 a, .int .i64 m, .slice A3 p.length c3] 30 from HE3.out.below hb5)).cell 0, ((show Blk _ w.heap.size #[.int .i64 a, .int .i64 m, .slice A3 p.length c3] 30 from HE3.out.below hb5)).cell 1, ((show Blk _ w.heap.size #[.int .i64 a, .int .i64 m, .slice A3 p.length c3] 30 from HE3.out.below hb5)).cell 2⟩) (fun hHeld => ?_)
  clear hK K
  (try simp only [Act.put, List.setIfInBounds_toArray, List.set_cons_zero, List.set_cons_succ])
  refine wpAnyH_ready (rs := [7]) (by kernel_rfl) (by simp) ?_
  refine AllReadyH.cons (o := ?_) ?_ (fun K hK => ?_) AllReadyH.nil
  rotate_left 1
  · (simp only [List.getElem?_toArray, List.getElem?_cons_zero, List.getElem?_cons_succ]; try rfl)
  refine step_app_E rfl (.tmp 12) (.tmp 14) rfl v es fp (a, m, p) (Value.slice A3 p.length c3).ownBlock.toList [.int .i64 a, .int .i64 m, .slice A3 p.length c3] ⟨w3.heap.size, 0, none⟩ 1 rfl rfl (by exact Lay.edits.owBelow HOW3.out hb5) HND.out (by exact Lay.edit.owBelow HXE.out hb5) hfxn (w.heap.size + 1) HFP.out hfx9 (by exact cell_new3) (by omega) ?_
  intro v6 w6 fp6 ho6 hn6 hs6 hg6
  obtain ⟨n6, A6, c6, rfl⟩ : ∃ n A c, v6 = .slice A n c := by
    obtain ⟨A6, c6, e6, _, _, _⟩ := Lay.edits.read ho6
    simp only [List.cons.injEq, and_true] at e6
    exact ⟨_, _, _, e6⟩
  have hg6 : (w3.drew.alloc (.cells #[.int .i64 a, .int .i64 m, .slice A3 p.length c3] 30)).grownBy w6 v.ownBlock := ⟨hg6.os, hg6.tape, hg6.output, hg6.size, hg6.block⟩
  have hk6 := Keeps.of_grown hg6
  have HD6 := Lib.hid (show Blk w6 lb #[v] 139 from ((HD3.out.below hb5)).of_block (hk6.block lb (HD3.out.below hb5).lt (fun h => HNE.out lb (HOB.out lb h) rfl)))
  have HE6 := Lib.hid (show Blk w6 w.heap.size #[.int .i64 a, .int .i64 m, .slice A3 p.length c3] 30 from ((HE3.out.below hb5)).of_block (hk6.block _ (HE3.out.below hb5).lt (fun h => by have := HFP0.out _ (HOB.out _ h); omega)))
  have HO6 := Lib.hid ho6
  have HN6 := Lib.hid hn6
  have HS6 := Lib.hid hs6
  have HK6 := Lib.hid hk6
  have f6 := HD6.out.frozen 0
  have cc6 := HD6.out.cell 0
  have hzz6 := hk6.size
  clear ho6 hn6 hs6 hg6 hk6
  (try go_simp)
  refine hK.out _ _ (by exact ⟨(HE6.out).cell 0, (HE6.out).cell 1, (HE6.out).cell 2⟩) (fun hHeld => ?_)
  clear hK K
  (try simp only [Act.put, List.setIfInBounds_toArray, List.set_cons_zero, List.set_cons_succ])
  refine wpAnyH_take (i := 8) (oi := ?_) (v := ?_) ?_ ?_ ?_ ?_ ?_ ?_ (by exact hHeld) ?_
  rotate_left 2
  · (simp only [List.getElem?_toArray, List.getElem?_cons_zero, List.getElem?_cons_succ]; try rfl)
  · kernel_rfl
  · kernel_rfl
  · kernel_rfl
  · exact fun _ _ _ h => h
  · refine Or.inl ⟨by rfl, ?_⟩
    (intro V hSV; (try dsimp only at hSV); obtain ⟨q0, q1, q2⟩ := hSV; go_simp; try with_reducible rfl)
  (try simp only [Act.put, List.setIfInBounds_toArray, List.set_cons_zero, List.set_cons_succ])
  refine wpAnyH_take (i := 9) (oi := ?_) (v := ?_) ?_ ?_ ?_ ?_ ?_ ?_ (by exact hHeld) ?_
  rotate_left 2
  · (simp only [List.getElem?_toArray, List.getElem?_cons_zero, List.getElem?_cons_succ]; try rfl)
  · kernel_rfl
  · kernel_rfl
  · kernel_rfl
  · exact fun _ _ _ h => h
  · refine Or.inl ⟨by rfl, ?_⟩
    (intro V hSV; (try dsimp only at hSV); obtain ⟨q0, q1, q2⟩ := hSV; go_simp; try with_reducible rfl)
  (try simp only [Act.put, List.setIfInBounds_toArray, List.set_cons_zero, List.set_cons_succ])
  refine wpAnyH_ready (rs := [10]) (by kernel_rfl) (by simp) ?_
  refine AllReadyH.cons (o := ?_) ?_ (fun K hK => ?_) AllReadyH.nil
  rotate_left 1
  · (simp only [List.getElem?_toArray, List.getElem?_cons_zero, List.getElem?_cons_succ]; try rfl)
  go_simp
  refine hK.out _ _ (by exact ⟨((show Blk (w6.setCell ⟨lb, 0, none⟩ (.slice A6 n6 c6)) w.heap.size #[.int .i64 a, .int .i64 m, .slice A3 p.length c3] 30 from HE6.out.setOther (by show w.heap.size ≠ lb; omega) (.slice A6 n6 c6))).cell 0, ((show Blk (w6.setCell ⟨lb, 0, none⟩ (.slice A6 n6 c6)) w.heap.size #[.int .i64 a, .int .i64 m, .slice A3 p.length c3] 30 from HE6.out.setOther (by show w.heap.size ≠ lb; omega) (.slice A6 n6 c6))).cell 1, ((show Blk (w6.setCell ⟨lb, 0, none⟩ (.slice A6 n6 c6)) w.heap.size #[.int .i64 a, .int .i64 m, .slice A3 p.length c3] 30 from HE6.out.setOther (by show w.heap.size ≠ lb; omega) (.slice A6 n6 c6))).cell 2⟩) (fun hHeld => ?_)
  clear hK K
  (try simp only [Act.put, List.setIfInBounds_toArray, List.set_cons_zero, List.set_cons_succ])
  refine wpAnyH_done (by kernel_rfl) ?_ _
  clear hHeld
  have hput := (((Keeps.of_below (fp := lb :: fp) (HB3.out.trans (hb5.mono (by omega)))).trans (HK6.out.mono (fun k hk => List.mem_cons_of_mem _ (HOB.out k hk)))).set (List.mem_cons_self) 0 (.slice A6 n6 c6))
  have hne6 : ∀ k ∈ fp6, k ≠ lb := fun k hk e => by
    have hz9 := HB3.out.size
    rcases HS6.out k hk with h | h | h
    · exact HNE.out k h e
    · have := hfx9 k h; omega
    · simp at h; omega
  have HL := Lib.hid (show Lb (w6.setCell ⟨lb, 0, none⟩ (.slice A6 n6 c6)) B lb (.slice A6 n6 c6) (es ++ [(a, m, p)]) fp6 from ⟨by simpa using HD6.out.set 0 (.slice A6 n6 c6), Lay.edits.keeps HO6.out ((Keeps.refl [lb] w6).set (List.mem_singleton.2 rfl) 0 (.slice A6 n6 c6)) (fun k hk h => hne6 k hk (by simpa using h)), HN6.out, hne6, fun k hk => by
      have hz9 := HB3.out.size
      rcases HS6.out k hk with h | h | h
      · exact HLO.out k h
      · have := hfx9 k h; omega
      · simp at h; omega, hBl⟩)
  have hsub : ∀ k ∈ fp6, k ∈ fp ∨ w.heap.size ≤ k := fun k hk => by
    have hz9 := HB3.out.size
    rcases HS6.out k hk with h | h | h
    · exact .inl h
    · have := hfx9 k h; right; omega
    · simp at h; right; omega
  go_wp2
  go_end0
  exact ⟨rfl, _, _, HL.out, hsub, hput⟩
end Go.Proofs.Ytdmmdbapkogdhaa

namespace Go.Proofs.Ytdmmdbapkogdhaa
open Go.RowKit P
set_option linter.unusedVariables false
set_option linter.unusedSimpArgs false
set_option maxRecDepth 100000

set_option maxHeartbeats 4000000 in
theorem l08All_any (A : Option Addr) (es : List Ed) (c : Nat) (w : World) (hn9 : es.length ≤ 9223372036854775807) (hE : Es w A es) :
    Calls Try.prog 126 #[.slice A es.length c] w fun e w' => e = .returned (.bool (stFit es)) ∧ Below w.heap.size w w' := by
  by_cases hl : es.length ≤ 6
  · have hg : ¬ (6 : Int) < (es.length : Int) := by omega
    have HYES := Lib.hid (stFit_yes hl)
    go_enter Try.func126, Try.ntmps126
    go_wp2
    go_loopw [3] (fun i wr => ∃ k : Nat, k ≤ es.length ∧ i = .int .i64 k ∧ Hid ((es.take k).all smallE = true) ∧ Below w.heap.size w wr) (fun i _ => es.length - (intOf i).toNat)
    case atStart => exact ⟨0, Nat.zero_le _, rfl, Lib.hid (by simp), Below.refl _ _⟩
    case round =>
      obtain ⟨k, hk, rfl, HALL, hb⟩ := hrel
      by_cases hlt : k < es.length
      · have hki0 : (0 : Int) ≤ (k : Int) := by omega
        have hki : (k : Int) < (es.length : Int) := by omega
        obtain ⟨b, off, a, m, B, p, d, rfl, hbl, hek, k0, k1, k2, ha, hm, hpd, hdm, hBp⟩ := (hE.below hb).at_ k hlt
        have hp9 : p.length ≤ 9223372036854775807 := by unfold maxLen at hdm; omega
        have hnx : (es.take (k + 1)).all smallE = ((es.take k).all smallE && edSmall a m p) := by
          rw [List.take_succ_eq_append_getElem hlt, List.all_append, hek]; simp [smallE]
        have hsm : smallE es[k] = edSmall a m p := by rw [hek]; rfl
        have HNX := Lib.hid hnx
        have HSM := Lib.hid hsm
        obtain ⟨q, hq⟩ : ∃ q, edSmall a m p = q := ⟨_, rfl⟩
        have HQ := Lib.hid hq
        clear hnx hsm hek hq
        go_wp2_with fail
        refine (l05Small_any a m B p d _ hp9).mono ?_
        rintro e w1 ⟨rfl, hb1⟩
        rw [HQ.out]
        have hb9 := below_then hb hb1
        clear k0 k1 k2
        cases q
        · have HN := Lib.hid (stFit_bad hlt (HSM.out.trans HQ.out))
          go_wp2
          go_ret
          exact ⟨ret_bool HN.out.symm, hb9⟩
        · have HN := Lib.hid (show (es.take (k + 1)).all smallE = true by rw [HNX.out, HALL.out, HQ.out]; rfl)
          go_wp2
          go_roundw
          case rel => exact ⟨k + 1, by omega, by go_num, HN, hb9⟩
          case measure => simp [intOf]; omega
      · have e : k = es.length := by omega
        have HN := Lib.hid (show stFit es = true by rw [HYES.out]; have h9 := HALL.out; rw [e, List.take_length] at h9; exact h9)
        have hki : ¬ (k : Int) < (es.length : Int) := by omega
        clear e
        go_wp2
        go_ret
        exact ⟨ret_bool HN.out.symm, hb⟩
  · have hg : (6 : Int) < (es.length : Int) := by omega
    have HN := Lib.hid (stFit_big hl)
    clear hl
    go_enter Try.func126, Try.ntmps126
    go_wp2
    go_ret
    exact ⟨ret_bool HN.out.symm, Below.refl _ _⟩

set_option maxHeartbeats 4000000 in
theorem notSmall_any (a m : Int) (B : Option Addr) (p : List UInt8) (d : Nat) (w : World) (hp9 : p.length ≤ 9223372036854775807) :
    Calls Try.prog 180 #[.agg #[.int .i64 a, .int .i64 m, .slice B p.length d]] w fun e w' => e = .returned (.bool (!edSmall a m p)) ∧ Below w.heap.size w w' := by
  have hal := (Below.refl w.heap.size w).alloc (Nat.le_refl _) (.cells #[.int .i64 a, .int .i64 m, .slice B p.length d] 30)
  have bx := Blk.new w #[.int .i64 a, .int .i64 m, .slice B p.length d] 30
  have p0 := bx.cell 0
  have p1 := bx.cell 1
  have p2 := bx.cell 2
  go_enter Try.func180, Try.ntmps180
  go_wp2_with fail
  refine (isSmall_any a m B p d _ hp9).mono ?_
  rintro e w1 ⟨rfl, hb1⟩
  have hb9 := below_then hal hb1
  go_wp2
  go_ret
  exact ⟨rfl, hb9⟩

set_option maxHeartbeats 4000000 in
theorem ixSmall_any (A : Option Addr) (es : List Ed) (c : Nat) (w : World) (hn9 : es.length ≤ 6) (hE : Es w A es) :
    Calls Try.prog 195 #[.slice A es.length c, .func (.func 180) #[] #[]] w fun e w' => (∃ r : Int, e = .returned (.int .i64 r) ∧ decide (0 ≤ r) = !es.all smallE) ∧ Below w.heap.size w w' := by
  go_enter Try.func195, Try.ntmps195
  go_wp2
  go_loopw [8] (fun i wr => ∃ k : Nat, k ≤ es.length ∧ i = .int .i64 k ∧ Hid ((es.take k).all smallE = true) ∧ Below w.heap.size w wr) (fun i _ => es.length - (intOf i).toNat)
  case atStart => exact ⟨0, Nat.zero_le _, rfl, Lib.hid (by simp), Below.refl _ _⟩
  case round =>
    obtain ⟨k, hk, rfl, HALL, hb⟩ := hrel
    by_cases hlt : k < es.length
    · have hki : (k : Int) < (es.length : Int) := by omega
      obtain ⟨b, off, a, m, B, p, d, rfl, hbl, hek, k0, k1, k2, ha, hm, hpd, hdm, hBp⟩ := (hE.below hb).at_ k hlt
      have hp9 : p.length ≤ 9223372036854775807 := by unfold maxLen at hdm; omega
      have hnx : (es.take (k + 1)).all smallE = ((es.take k).all smallE && edSmall a m p) := by
        rw [List.take_succ_eq_append_getElem hlt, List.all_append, hek]; simp [smallE]
      have hal : edSmall a m p = false → es.all smallE = false := fun h => List.all_eq_false.2 ⟨_, List.getElem_mem hlt, by rw [hek]; show ¬ edSmall a m p = true; rw [h]; simp⟩
      have HNX := Lib.hid hnx
      have HAL := Lib.hid hal
      obtain ⟨q, hq⟩ : ∃ q, edSmall a m p = q := ⟨_, rfl⟩
      have HQ := Lib.hid hq
      clear hnx hal hek hq
      go_wp2_with fail
      refine (notSmall_any a m B p d _ hp9).mono ?_
      rintro e w1 ⟨rfl, hb1⟩
      rw [HQ.out]
      have hb9 := below_then hb hb1
      clear k0 k1 k2
      cases q
      · have HN := Lib.hid (HAL.out HQ.out)
        go_wp2
        go_ret
        exact ⟨⟨_, rfl, by rw [HN.out]; exact decide_eq_true (by omega)⟩, hb9⟩
      · have HN := Lib.hid (show (es.take (k + 1)).all smallE = true by rw [HNX.out, HALL.out, HQ.out]; rfl)
        go_wp2
        go_roundw
        case rel => exact ⟨k + 1, by omega, by go_num, HN, hb9⟩
        case measure => simp [intOf]; omega
    · have e : k = es.length := by omega
      have HN := Lib.hid (show es.all smallE = true by have h9 := HALL.out; rw [e, List.take_length] at h9; exact h9)
      clear e
      go_wp2
      go_ret
      exact ⟨⟨_, rfl, by rw [HN.out]; rfl⟩, hb⟩

set_option maxHeartbeats 4000000 in
theorem hasBig_any (A : Option Addr) (es : List Ed) (c : Nat) (w : World) (hn9 : es.length ≤ 6) (hE : Es w A es) :
    Calls Try.prog 179 #[.slice A es.length c, .func (.func 180) #[] #[]] w fun e w' => e = .returned (.bool (!es.all smallE)) ∧ Below w.heap.size w w' := by
  have hix := Lib.hid (ixSmall_any A es c w hn9 hE)
  clear hE
  go_enter Try.func179, Try.ntmps179
  go_wp2_with fail
  refine hix.out.mono ?_
  rintro e w1 ⟨⟨r, rfl, hr⟩, hb1⟩
  have HR := Lib.hid hr
  clear hr
  go_wp2
  go_ret
  exact ⟨ret_bool (by first | exact HR.out | simpa using HR.out), hb1⟩

set_option maxHeartbeats 2000000 in
theorem fitsStack_any (A : Option Addr) (es : List Ed) (c : Nat) (w : World) (hn9 : es.length ≤ 9223372036854775807) (hE : Es w A es) :
    Calls Try.prog 130 #[.slice A es.length c] w fun e w' => e = .returned (.bool (stFit es)) ∧ Below w.heap.size w w' := by
  by_cases hl : es.length ≤ 6
  · have hg : (es.length : Int) ≤ 6 := by omega
    have HYES := Lib.hid (stFit_yes hl)
    go_enter Try.func130, Try.ntmps130
    go_wp2_with fail
    refine (hasBig_any A es c _ hl hE).mono ?_
    rintro e w1 ⟨rfl, hb1⟩
    obtain ⟨q, hq⟩ : ∃ q, es.all smallE = q := ⟨_, rfl⟩
    rw [hq]
    have HQ := Lib.hid (HYES.out.trans hq)
    clear hq
    cases q
    · go_wp2
      go_ret
      exact ⟨ret_bool HQ.out.symm, hb1⟩
    · go_wp2
      go_ret
      exact ⟨ret_bool HQ.out.symm, hb1⟩
  · have hg : ¬ (es.length : Int) ≤ 6 := by omega
    have HN := Lib.hid (stFit_big hl)
    clear hl
    go_enter Try.func130, Try.ntmps130
    go_wp2
    go_ret
    exact ⟨ret_bool HN.out.symm, Below.refl _ _⟩

set_option maxHeartbeats 2000000 in
theorem implStackOk_any (A B : Option Addr) (u r : List Ed) (c d : Nat) (w : World) (hu9 : u.length ≤ 9223372036854775807) (hr9 : r.length ≤ 9223372036854775807) (hU : Es w A u) (hR : Es w B r) :
    Calls Try.prog 49 #[.agg #[.slice A u.length c, .slice B r.length d]] w fun e w' => e = .returned (.bool (stOk u r)) ∧ Below w.heap.size w w' := by
  have hal := (Below.refl w.heap.size w).alloc (Nat.le_refl _) (.cells #[.slice A u.length c, .slice B r.length d] 46)
  have HX := Lib.hid (Blk.new w #[.slice A u.length c, .slice B r.length d] 46)
  have p0 := HX.out.cell 0
  obtain ⟨y, hy⟩ : ∃ y, stFit u = y := ⟨_, rfl⟩
  obtain ⟨z, hz⟩ : ∃ z, stFit r = z := ⟨_, rfl⟩
  have HR := Lib.hid (show stOk u r = (y && z) by unfold stOk; rw [hy, hz])
  have HY := Lib.hid hy
  have HZ := Lib.hid hz
  have HU := Lib.hid (hU.below hal)
  have HV := Lib.hid (hR.below hal)
  clear hy hz hU hR
  go_enter Try.func49, Try.ntmps49
  go_wp2_with fail
  refine (fitsStack_any A u c _ hu9 HU.out).mono ?_
  rintro e w1 ⟨rfl, hb1⟩
  rw [HY.out]
  have hb9 := below_then hal hb1
  have HX := Lib.hid (HX.out.below hb1)
  have HV := Lib.hid (HV.out.below hb1)
  clear p0 hb1
  cases y
  · go_wp2
    go_ret
    exact ⟨ret_bool HR.out.symm, hb9⟩
  have p1 := HX.out.cell 1
  go_wp2_with fail
  refine (fitsStack_any B r d _ hr9 HV.out).mono ?_
  rintro e w2 ⟨rfl, hb2⟩
  rw [HZ.out]
  have hb9 := below_then hb9 hb2
  clear p1 hb2
  go_wp2
  go_ret
  exact ⟨ret_bool (by rw [HR.out]; cases z <;> rfl), hb9⟩

set_option maxHeartbeats 2000000 in
theorem specStackOk_any (A B : Option Addr) (u r : List Ed) (c d : Nat) (w : World) (hu9 : u.length ≤ 9223372036854775807) (hr9 : r.length ≤ 9223372036854775807) (hU : Es w A u) (hR : Es w B r) :
    Calls Try.prog 44 #[.agg #[.slice A u.length c, .slice B r.length d]] w fun e w' => e = .returned (.bool (stOk u r)) ∧ Below w.heap.size w w' := by
  have hal := (Below.refl w.heap.size w).alloc (Nat.le_refl _) (.cells #[.slice A u.length c, .slice B r.length d] 46)
  have HX := Lib.hid (Blk.new w #[.slice A u.length c, .slice B r.length d] 46)
  have p0 := HX.out.cell 0
  obtain ⟨y, hy⟩ : ∃ y, stFit u = y := ⟨_, rfl⟩
  obtain ⟨z, hz⟩ : ∃ z, stFit r = z := ⟨_, rfl⟩
  have HR := Lib.hid (show stOk u r = (y && z) by unfold stOk; rw [hy, hz])
  have HY := Lib.hid hy
  have HZ := Lib.hid hz
  have HU := Lib.hid (hU.below hal)
  have HV := Lib.hid (hR.below hal)
  clear hy hz hU hR
  go_enter Try.func44, Try.ntmps44
  go_wp2_with fail
  refine (l08All_any A u c _ hu9 HU.out).mono ?_
  rintro e w1 ⟨rfl, hb1⟩
  rw [HY.out]
  have hb9 := below_then hal hb1
  have HX := Lib.hid (HX.out.below hb1)
  have HV := Lib.hid (HV.out.below hb1)
  clear p0 hb1
  cases y
  · go_wp2
    go_ret
    exact ⟨ret_bool HR.out.symm, hb9⟩
  have p1 := HX.out.cell 1
  go_wp2_with fail
  refine (l08All_any B r d _ hr9 HV.out).mono ?_
  rintro e w2 ⟨rfl, hb2⟩
  rw [HZ.out]
  have hb9 := below_then hb9 hb2
  clear p1 hb2
  go_wp2
  go_ret
  exact ⟨ret_bool (by rw [HR.out]; cases z <;> rfl), hb9⟩
end Go.Proofs.Ytdmmdbapkogdhaa

namespace Go.Proofs.Ytdmmdbapkogdhaa
open Go.RowKit P
set_option linter.unusedVariables false
set_option linter.unusedSimpArgs false
set_option maxRecDepth 100000

theorem cell_oth {w : World} {a p : Addr} (v : Value) (h : p.block ≠ a.block) : (w.setCell a v).cell? p = w.cell? p := by
  unfold World.cell?
  rw [Below.heap_setCell w a v p.block h]

/-- What a call gives that returns an edit of its own: its numbers, what it puts, and from which block on. -/
def GivesE (d : Ed) (w : World) (e : Ending) (w' : World) : Prop := ∃ v, e = .returned (.agg #[.int .i64 d.1, .int .i64 d.2.1, v]) ∧ Own w' w.heap.size v d.2.2 ∧ Below w.heap.size w w'

set_option maxHeartbeats 8000000 in
theorem l08Edit_any (a m : Int) (P : Option Addr) (p : List UInt8) (d : Nat) (w : World) (hp4 : p.length ≤ 1000000) (hP : Bs w P p) :
    Calls Try.prog 174 #[.agg #[.int .i64 a, .int .i64 m, .slice P p.length d]] w (GivesE (a, m, p) w) := by
  have hal := ((Below.refl w.heap.size w).alloc (Nat.le_refl _) (.cells #[.int .i64 a, .int .i64 m, .slice P p.length d] 30)).alloc (by simp) (.cells #[.int .i64 0, .int .i64 0, .slice none 0 0] 30)
  have hbx := (Blk.new w #[.int .i64 a, .int .i64 m, .slice P p.length d] 30).alloc (.cells #[.int .i64 0, .int .i64 0, .slice none 0 0] 30)
  have hrx := Blk.new (w.alloc (.cells #[.int .i64 a, .int .i64 m, .slice P p.length d] 30)) #[.int .i64 0, .int .i64 0, .slice none 0 0] 30
  simp only [World.size_alloc] at hrx
  have BX := Lib.hid hbx
  have RX := Lib.hid hrx
  have HB := Lib.hid hal
  have HP := Lib.hid (hP.below hal)
  have hzw : ((w.alloc (.cells #[.int .i64 a, .int .i64 m, .slice P p.length d] 30)).alloc (.cells #[.int .i64 0, .int .i64 0, .slice none 0 0] 30)).heap.size ≥ w.heap.size + 2 := by simp
  clear hal hbx hrx hP
  unfold GivesE
  go_enter Try.func174, Try.ntmps174
  go_wp2_with fail
  generalize (w.alloc (.cells #[.int .i64 a, .int .i64 m, .slice P p.length d] 30)).alloc (.cells #[.int .i64 0, .int .i64 0, .slice none 0 0] 30) = W at *
  have p0 := BX.out.cell 0
  have p1 := BX.out.cell 1
  have p2 := BX.out.cell 2
  have zb := BX.out.lt
  have hO0 : Own (W.alloc (.cells #[] 5)) W.heap.size (.slice (some ⟨W.heap.size, 0, none⟩) 0 0) [] := World.ownsRow_made W #[] 0 (Nat.le_refl _) (by unfold maxLen; omega) rfl
  have hP0 : Bs (W.alloc (.cells #[] 5)) P p := HP.out.below ((Below.refl W.heap.size W).alloc (Nat.le_refl _) (.cells #[] 5))
  refine wp_region_held_drew (S := (fun V => V.cell? ⟨w.heap.size, 0, none⟩ = some (.int .i64 a) ∧ V.cell? ⟨w.heap.size, 1, none⟩ = some (.int .i64 m) ∧ V.cell? ⟨w.heap.size, 2, none⟩ = some (.slice P p.length d))) (by kernel_rfl) (by exact ⟨p0, p1, p2⟩) (fun hHeld => ?_)
  refine wpAnyH_take (i := 0) (oi := ?_) (v := ?_) ?_ ?_ ?_ ?_ ?_ ?_ (by exact hHeld) ?_
  rotate_left 2
  · (simp only [List.getElem?_toArray, List.getElem?_cons_zero]; try rfl)
  · kernel_rfl
  · kernel_rfl
  · kernel_rfl
  · exact fun _ _ _ h => h
  · refine Or.inl ⟨by rfl, ?_⟩
    (intro V hSV; (try dsimp only at hSV); obtain ⟨q0, q1, q2⟩ := hSV; go_simp; try with_reducible rfl)
  (try simp only [Act.put, List.setIfInBounds_toArray, List.set_cons_zero, List.set_cons_succ])
  refine wpAnyH_take (i := 1) (oi := ?_) (v := ?_) ?_ ?_ ?_ ?_ ?_ ?_ (by exact hHeld) ?_
  rotate_left 2
  · (simp only [List.getElem?_toArray, List.getElem?_cons_zero, List.getElem?_cons_succ]; try rfl)
  · kernel_rfl
  · kernel_rfl
  · kernel_rfl
  · exact fun _ _ _ h => h
  · refine Or.inl ⟨by rfl, ?_⟩
    (intro V hSV; (try dsimp only at hSV); obtain ⟨q0, q1, q2⟩ := hSV; go_simp; try with_reducible rfl)
  (try simp only [Act.put, List.setIfInBounds_toArray, List.set_cons_zero, List.set_cons_succ])
  refine wpAnyH_take (i := 2) (oi := ?_) (v := ?_) ?_ ?_ ?_ ?_ ?_ ?_ (by exact hHeld) ?_
  rotate_left 2
  · (simp only [List.getElem?_toArray, List.getElem?_cons_zero, List.getElem?_cons_succ]; try rfl)
  · kernel_rfl
  · kernel_rfl
  · kernel_rfl
  · exact fun _ _ _ h => h
  · refine Or.inl ⟨by rfl, ?_⟩
    (intro V hSV; (try dsimp only at hSV); obtain ⟨q0, q1, q2⟩ := hSV; go_simp; try with_reducible rfl)
  (try simp only [Act.put, List.setIfInBounds_toArray, List.set_cons_zero, List.set_cons_succ])
  refine wpAnyH_take (i := 3) (oi := ?_) (v := ?_) ?_ ?_ ?_ ?_ ?_ ?_ (by exact hHeld) ?_
  rotate_left 2
  · (simp only [List.getElem?_toArray, List.getElem?_cons_zero, List.getElem?_cons_succ]; try rfl)
  · kernel_rfl
  · kernel_rfl
  · kernel_rfl
  · exact fun _ _ _ h => h
  · refine Or.inl ⟨by rfl, ?_⟩
    (intro V hSV; (try dsimp only at hSV); obtain ⟨q0, q1, q2⟩ := hSV; go_simp; try with_reducible rfl)
  (try simp only [Act.put, List.setIfInBounds_toArray, List.set_cons_zero, List.set_cons_succ])
  refine wpAnyH_take (i := 5) (oi := ?_) (v := ?_) ?_ ?_ ?_ ?_ ?_ ?_ (by exact hHeld) ?_
  rotate_left 2
  · (simp only [List.getElem?_toArray, List.getElem?_cons_zero, List.getElem?_cons_succ]; try rfl)
  · kernel_rfl
  · kernel_rfl
  · kernel_rfl
  · exact fun _ _ _ h => h
  · refine Or.inl ⟨by rfl, ?_⟩
    (intro V hSV; (try dsimp only at hSV); obtain ⟨q0, q1, q2⟩ := hSV; go_simp; try with_reducible rfl)
  (try simp only [Act.put, List.setIfInBounds_toArray, List.set_cons_zero, List.set_cons_succ])
  refine wpAnyH_take (i := 6) (oi := ?_) (v := ?_) ?_ ?_ ?_ ?_ ?_ ?_ (by exact hHeld) ?_
  rotate_left 2
  · (simp only [List.getElem?_toArray, List.getElem?_cons_zero, List.getElem?_cons_succ]; try rfl)
  · kernel_rfl
  · kernel_rfl
  · kernel_rfl
  · exact fun _ _ _ h => h
  · refine Or.inl ⟨by rfl, ?_⟩
    (intro V hSV; (try dsimp only at hSV); obtain ⟨q0, q1, q2⟩ := hSV; go_simp; try with_reducible rfl)
  (try simp only [Act.put, List.setIfInBounds_toArray, List.set_cons_zero, List.set_cons_succ])
  refine wpAnyH_ready (rs := [4]) (by kernel_rfl) (by simp) ?_
  refine AllReadyH.cons (o := ?_) ?_ (fun K hK => ?_) AllReadyH.nil
  rotate_left 1
  · (simp only [List.getElem?_toArray, List.getElem?_cons_zero, List.getElem?_cons_succ]; try rfl)
  go_simp
  refine hK.out _ _ (by exact ⟨((show Blk _ w.heap.size #[.int .i64 a, .int .i64 m, .slice P p.length d] 30 from BX.out.alloc (.cells #[] 5))).cell 0, ((show Blk _ w.heap.size #[.int .i64 a, .int .i64 m, .slice P p.length d] 30 from BX.out.alloc (.cells #[] 5))).cell 1, ((show Blk _ w.heap.size #[.int .i64 a, .int .i64 m, .slice P p.length d] 30 from BX.out.alloc (.cells #[] 5))).cell 2⟩) (fun hHeld => ?_)
  clear hK K
  (try simp only [Act.put, List.setIfInBounds_toArray, List.set_cons_zero, List.set_cons_succ])
  refine wpAnyH_ready (rs := [7]) (by kernel_rfl) (by simp) ?_
  refine AllReadyH.cons (o := ?_) ?_ (fun K hK => ?_) AllReadyH.nil
  rotate_left 1
  · (simp only [List.getElem?_toArray, List.getElem?_cons_zero, List.getElem?_cons_succ]; try rfl)
  refine step_app_bytes9 rfl (.tmp 7) (.tmp 9) rfl W.heap.size (.slice (some ⟨W.heap.size, 0, none⟩) 0 0) [] p P p.length d rfl rfl rfl (by exact hO0) (by exact hP0) (by simp; omega) (by simp) ?_
  intro v6 w6 ho6 hg6 _
  have hg6 : (W.alloc (.cells #[] 5)).grownBy w6 (Value.slice (some ⟨W.heap.size, 0, none⟩) 0 0).ownBlock := ⟨hg6.os, hg6.tape, hg6.output, hg6.size, hg6.block⟩
  rw [List.nil_append] at ho6
  obtain ⟨A6, c6, rfl, _, _, _⟩ := ho6.form
  have hb6 : Below W.heap.size W w6 := ((Below.refl W.heap.size W).alloc (Nat.le_refl _) (.cells #[] 5)).grown hg6 (by simp) (fun j hj => by simp [Value.ownBlock] at hj; omega)
  have HO6 := Lib.hid ho6
  have HB6 := Lib.hid hb6
  have BX6 := Lib.hid (BX.out.below hb6)
  have RX6 := Lib.hid (RX.out.below hb6)
  clear ho6 hg6 hb6
  (try go_simp)
  refine hK.out _ _ (by exact ⟨(BX6.out).cell 0, (BX6.out).cell 1, (BX6.out).cell 2⟩) (fun hHeld => ?_)
  clear hK K
  (try simp only [Act.put, List.setIfInBounds_toArray, List.set_cons_zero, List.set_cons_succ])
  have f0 := RX6.out.frozen 0
  have f1 := RX6.out.frozen 1
  have f2 := RX6.out.frozen 2
  have c0 := RX6.out.cell 0
  have c1 := RX6.out.cell 1
  have c2 := RX6.out.cell 2
  have BX7 := Lib.hid (show Blk (((w6.setCell ⟨w.heap.size + 1, 0, none⟩ (.int .i64 a)).setCell ⟨w.heap.size + 1, 1, none⟩ (.int .i64 m)).setCell ⟨w.heap.size + 1, 2, none⟩ (.slice A6 p.length c6)) w.heap.size #[.int .i64 a, .int .i64 m, .slice P p.length d] 30 from ((BX6.out.setOther (by simp) _).setOther (by simp) _).setOther (by simp) _)
  have RX7 := Lib.hid (show Blk (((w6.setCell ⟨w.heap.size + 1, 0, none⟩ (.int .i64 a)).setCell ⟨w.heap.size + 1, 1, none⟩ (.int .i64 m)).setCell ⟨w.heap.size + 1, 2, none⟩ (.slice A6 p.length c6)) (w.heap.size + 1) #[.int .i64 a, .int .i64 m, .slice A6 p.length c6] 30 by simpa using ((RX6.out.set 0 (.int .i64 a)).set 1 (.int .i64 m)).set 2 (.slice A6 p.length c6))
  have HB7 := Lib.hid (show Below w.heap.size w (((w6.setCell ⟨w.heap.size + 1, 0, none⟩ (.int .i64 a)).setCell ⟨w.heap.size + 1, 1, none⟩ (.int .i64 m)).setCell ⟨w.heap.size + 1, 2, none⟩ (.slice A6 p.length c6)) from (((below_then HB.out HB6.out).setCell (p := ⟨w.heap.size + 1, 0, none⟩) (by simp) _).setCell (p := ⟨w.heap.size + 1, 1, none⟩) (by simp) _).setCell (p := ⟨w.heap.size + 1, 2, none⟩) (by simp) _)
  have HO7 := Lib.hid (((HO6.out.setBelow (a := ⟨w.heap.size + 1, 0, none⟩) (by simp; omega) (.int .i64 a)).setBelow (a := ⟨w.heap.size + 1, 1, none⟩) (by simp; omega) (.int .i64 m)).setBelow (a := ⟨w.heap.size + 1, 2, none⟩) (by simp; omega) (.slice A6 p.length c6))
  refine wpAnyH_take (i := 8) (oi := ?_) (v := ?_) ?_ ?_ ?_ ?_ ?_ ?_ (by exact hHeld) ?_
  rotate_left 2
  · (simp only [List.getElem?_toArray, List.getElem?_cons_zero, List.getElem?_cons_succ]; try rfl)
  · kernel_rfl
  · kernel_rfl
  · kernel_rfl
  · exact fun _ _ _ h => h
  · refine Or.inl ⟨by rfl, ?_⟩
    (intro V hSV; (try dsimp only at hSV); obtain ⟨q0, q1, q2⟩ := hSV; go_simp; try with_reducible rfl)
  (try simp only [Act.put, List.setIfInBounds_toArray, List.set_cons_zero, List.set_cons_succ])
  refine wpAnyH_ready (rs := [9]) (by kernel_rfl) (by simp) ?_
  refine AllReadyH.cons (o := ?_) ?_ (fun K hK => ?_) AllReadyH.nil
  rotate_left 1
  · (simp only [List.getElem?_toArray, List.getElem?_cons_zero, List.getElem?_cons_succ]; try rfl)
  go_simp
  refine hK.out _ _ (by exact ⟨(BX7.out).cell 0, (BX7.out).cell 1, (BX7.out).cell 2⟩) (fun hHeld => ?_)
  clear hK K
  (try simp only [Act.put, List.setIfInBounds_toArray, List.set_cons_zero, List.set_cons_succ])
  refine wpAnyH_done (by kernel_rfl) ?_ _
  clear hHeld p0 p1 p2 f0 f1 f2 c0 c1 c2
  have q0 := RX7.out.cell 0
  have q1 := RX7.out.cell 1
  have q2 := RX7.out.cell 2
  go_wp2
  refine bodyPost_ret (v := .agg #[.int .i64 a, .int .i64 m, .slice A6 p.length c6]) (by simp [results, Try.results174, go_sem, q0, q1, q2]) rfl ?_
  exact ⟨_, rfl, HO7.out.mono (by omega), HB7.out⟩

set_option maxHeartbeats 8000000 in
theorem newEditStack_any (A : Option Addr) (es : List Ed) (c : Nat) (w : World) (hl : es.length ≤ 100) (hp4 : ∀ e ∈ es, e.2.2.length ≤ 1000) (hE : Es w A es) :
    Calls Try.prog 122 #[.slice A es.length c] w fun e w' => ∃ v fp, e = .returned (.agg #[v]) ∧ Lay.edits.ow w' [v] es fp ∧ fp.Nodup ∧ (∀ k ∈ fp, w.heap.size ≤ k) ∧ Below w.heap.size w w' := by
  have hal := ((Below.refl w.heap.size w).alloc (Nat.le_refl _) (.cells #[.slice none 0 0] 139)).alloc (by simp) (.cells #[.slice none 0 0] 139)
  have hrx := (Blk.new w #[.slice none 0 0] 139).alloc (.cells #[.slice none 0 0] 139)
  have hlx := Blk.new (w.alloc (.cells #[.slice none 0 0] 139)) #[.slice none 0 0] 139
  simp only [World.size_alloc] at hlx
  have hL0 := Lib.hid (show Lb ((w.alloc (.cells #[.slice none 0 0] 139)).alloc (.cells #[.slice none 0 0] 139)) (w.heap.size + 1) (w.heap.size + 1) (.slice none 0 0) [] [] from ⟨hlx, Lay.slice_nil _ _ _, List.nodup_nil, (fun _ h => nomatch h), (fun _ h => nomatch h), Nat.le_refl _⟩)
  have HP4 := Lib.hid hp4
  clear hlx hp4
  go_enter Try.func122, Try.ntmps122
  go_wp2
  go_loopw [8] (fun i wr => ∃ (k : Nat) (v : Value) (fp : List Nat), k ≤ es.length ∧ i = .int .i64 k ∧ Hid (Lb wr (w.heap.size + 1) (w.heap.size + 1) v (es.take k) fp) ∧ Blk wr w.heap.size #[.slice none 0 0] 139 ∧ Below w.heap.size w wr)
    (fun i _ => es.length - (intOf i).toNat)
  case atStart => exact ⟨0, _, [], Nat.zero_le _, rfl, by simpa using hL0, hrx, hal⟩
  case round =>
    obtain ⟨k, v, fp, hk, rfl, HL, hrx2, hb⟩ := hrel
    have RX := Lib.hid hrx2
    have HB := Lib.hid hb
    clear hrx hrx2 hal hL0
    by_cases hlt : k < es.length
    · have hki0 : (0 : Int) ≤ (k : Int) := by omega
      have hki : (k : Int) < (es.length : Int) := by omega
      obtain ⟨b, off, a, m, P, p, d, rfl, hbl, hek, k0, k1, k2, ha, hm, hpd, hdm, hBp⟩ := (hE.below hb).at_ k hlt
      have hp4 := HP4.out _ (List.getElem_mem hlt)
      rw [hek] at hp4
      have hal := (Below.refl wr.heap.size wr).alloc (Nat.le_refl _) (.cells #[.int .i64 a, .int .i64 m, .slice P p.length d] 30)
      have BX := Lib.hid (Blk.new wr #[.int .i64 a, .int .i64 m, .slice P p.length d] 30)
      have HL := Lib.hid (HL.out.below hal)
      have RX := Lib.hid (RX.out.below hal)
      have HB2 := Lib.hid (below_then HB.out hal)
      have hBp2 := hBp.below hal
      have hadd := Lib.hid (add_any (w.heap.size + 1) (w.heap.size + 1) v (es.take k) fp a m P p d _ (by rw [List.length_take]; omega) ha hm hp4 hBp2 HL.out)
      have HNX := Lib.hid (show es.take (k + 1) = es.take k ++ [(a, m, p)] by rw [List.take_succ_eq_append_getElem hlt, hek])
      have p0 := BX.out.cell 0
      have p1 := BX.out.cell 1
      have p2 := BX.out.cell 2
      have hzr := RX.out.lt
      clear hal hb hBp hBp2 hek
      go_wp2_with fail
      generalize wr.alloc (.cells #[.int .i64 a, .int .i64 m, .slice P p.length d] 30) = W at *
      refine hadd.out.mono ?_
      rintro e w1 ⟨rfl, v1, fp1, hL1, hs1, hk1⟩
      rw [← HNX.out] at hL1
      have HL1 := Lib.hid hL1
      have hlr := HL.out.lo
      have RX1 := Lib.hid (RX.out.of_block (hk1.block _ hzr (fun h => by
        rcases List.mem_cons.1 h with h | h
        · omega
        · have := hlr _ h; omega)))
      have HB3 := Lib.hid (HB2.out.trans (hk1.below (B := w.heap.size) HB2.out.size (fun q hq => by
        rcases List.mem_cons.1 hq with h | h
        · omega
        · have := hlr _ h; omega)))
      clear hL1 hs1 hk1 hadd p0 p1 p2 k0 k1 k2
      go_wp2
      go_roundw
      case rel => exact ⟨k + 1, _, _, by omega, by go_num, HL1, RX1.out, HB3.out⟩
      case measure => simp [intOf]; omega
    · have e : k = es.length := by omega
      have hki : ¬ (k : Int) < (es.length : Int) := by omega
      subst e
      have hLe := HL.out
      rw [List.take_length] at hLe
      obtain ⟨A1, c1, rfl, hO1⟩ := hLe.form
      have HLE := Lib.hid hLe
      have p0 : wr.cell? ⟨w.heap.size + 1, 0, none⟩ = some (.slice A1 es.length c1) := hLe.hd.cell 0
      have q0 := RX.out.cell 0
      have f0 := RX.out.frozen 0
      have RX2 := Lib.hid (show Blk (wr.setCell ⟨w.heap.size, 0, none⟩ (.slice A1 es.length c1)) w.heap.size #[.slice A1 es.length c1] 139 by simpa using RX.out.set 0 (.slice A1 es.length c1))
      have HO2 := Lib.hid (Lay.edits.keeps hLe.ow ((Keeps.refl [w.heap.size] wr).set (List.mem_singleton.2 rfl) 0 (.slice A1 es.length c1)) (fun q hq h => by have := hLe.lo q hq; simp at h; omega))
      have HB2 := Lib.hid (HB.out.setCell (p := ⟨w.heap.size, 0, none⟩) (Nat.le_refl _) (.slice A1 es.length c1))
      have r0 := RX2.out.cell 0
      clear hO1 hLe HL
      go_wp2
      refine bodyPost_ret (v := .agg #[.slice A1 es.length c1]) (by simp [results, Try.results122, go_sem, r0]) rfl ?_
      exact ⟨_, rfl, _, HO2.out, HLE.out.nd, fun q hq => by have := HLE.out.lo q hq; omega, HB2.out⟩

theorem own_from {w : World} {v : Value} {p : List UInt8} {base : Nat} (h : Own w 0 v p) (hb : ∀ k ∈ v.ownBlock.toList, base ≤ k) : Own w base v p := by
  refine ⟨h.1, ?_⟩
  rcases h.2 with h2 | ⟨g, cap, cur, rfl, _, r⟩
  · exact .inl h2
  · exact .inr ⟨g, cap, cur, rfl, hb g (by simp [Value.ownBlock]), r⟩

/-- The last of a list of one's own. -/
theorem last_own {w : World} {base : Nat} {A : Option Addr} {es : List Ed} {c : Nat} {fp : List Nat} (h : OwE w base A es c fp) (h0 : 0 < es.length) :
    ∃ g P d, A = some ⟨g, 0, none⟩ ∧ g < w.heap.size ∧ es.length ≤ c ∧ w.cell? ⟨g, (es.length - 1) * 3, none⟩ = some (.int .i64 (lastE es).1) ∧ w.cell? ⟨g, (es.length - 1) * 3 + 1, none⟩ = some (.int .i64 (lastE es).2.1) ∧ w.cell? ⟨g, (es.length - 1) * 3 + 2, none⟩ = some (.slice P (lastE es).2.2.length d) ∧ Own w base (.slice P (lastE es).2.2.length d) (lastE es).2.2 := by
  obtain ⟨els, hes0, hrow, hes, hfp⟩ := ow_one h.ow
  have hln : es.length = els.length := by rw [hes0, List.length_map]
  rcases hrow.2 with ⟨_, h0'⟩ | ⟨g, cap, cur, hv, hbg, hh, hnc, hcm, hcs, htk⟩
  · omega
  simp only [Value.slice.injEq] at hv
  obtain ⟨rfl, _, rfl⟩ := hv
  have hi : els.length - 1 < els.length := by omega
  obtain ⟨v, e1, e2, e3⟩ := edit_ow_inv (hes _ (List.getElem_mem hi))
  have hlast : lastE es = els[els.length - 1].2.1 := by
    unfold lastE
    rw [List.getLastD_eq_getLast?, List.getLast?_eq_getElem?, hln, hes0, List.getElem?_map, List.getElem?_eq_getElem hi]
    rfl
  have hlen : ∀ e ∈ els, (e.1 : List Value).length = 3 := fun e he => by obtain ⟨v, h1, _⟩ := edit_ow_inv (hes e he); rw [h1]; rfl
  have hsz3 : Lay.edit.sz = 3 := rfl
  rw [hsz3] at htk
  have hget : ∀ j (hj : j < 3) (u : Value), ([.int .i64 els[els.length - 1].2.1.1, .int .i64 els[els.length - 1].2.1.2.1, v] : List Value)[j]? = some u → w.cell? ⟨g, (els.length - 1) * 3 + j, none⟩ = some u := by
    intro j hj u hu
    have h9 := flat_get 3 els (·.1) hlen (els.length - 1) hi j (by rw [e1]; exact hj)
    rw [← htk, List.getElem?_take] at h9
    split at h9
    · simp only [Array.getElem?_toList] at h9
      rw [Blk.cell (show Blk w g cur 30 from hh), h9]
      rw [← hu]
      simp only [e1]
      rw [List.getElem?_eq_getElem hj]
    · omega
  obtain ⟨P, d, rfl, _, _, _⟩ := e2.form
  rw [hlast, hln]
  refine ⟨g, P, d, rfl, Blk.lt (show Blk w g cur 30 from hh), by omega, ?_, ?_, ?_, ?_⟩
  · simpa using hget 0 (by omega) _ rfl
  · exact hget 1 (by omega) _ rfl
  · exact hget 2 (by omega) _ rfl
  · refine own_from e2 (fun k hk => h.lo k ?_)
    rw [hfp]
    exact List.mem_append.2 (.inr (List.mem_flatMap.2 ⟨_, List.getElem_mem hi, by rw [e3]; exact hk⟩))

/-- What top gives. -/
def Tops (w0 w : World) (base : Nat) (es : List Ed) (e : Ending) (w' : World) : Prop := ∃ v, e = .returned (.tuple #[.agg #[.int .i64 (if 0 < es.length then lastE es else (0, 0, [])).1, .int .i64 (if 0 < es.length then lastE es else (0, 0, [])).2.1, v], .bool (decide (0 < es.length))]) ∧ Own w' base v (if 0 < es.length then lastE es else (0, 0, [])).2.2 ∧ Below w.heap.size w w'

set_option maxHeartbeats 8000000 in
theorem top_any (A : Option Addr) (es : List Ed) (c base : Nat) (fp : List Nat) (w : World) (hl : es.length ≤ 100) (hO : OwE w base A es c fp) :
    Calls Try.prog 123 #[.agg #[.slice A es.length c]] w (Tops w w base es) := by
  unfold Tops
  have hal := ((Below.refl w.heap.size w).alloc (Nat.le_refl _) (.cells #[.slice A es.length c] 139)).alloc (by simp) (.cells #[.int .i64 0, .int .i64 0, .slice none 0 0] 30)
  have hbx := (Blk.new w #[.slice A es.length c] 139).alloc (.cells #[.int .i64 0, .int .i64 0, .slice none 0 0] 30)
  have hrx := Blk.new (w.alloc (.cells #[.slice A es.length c] 139)) #[.int .i64 0, .int .i64 0, .slice none 0 0] 30
  simp only [World.size_alloc] at hrx
  have BX := Lib.hid hbx
  have RX := Lib.hid hrx
  have HB := Lib.hid hal
  have hzw : ((w.alloc (.cells #[.slice A es.length c] 139)).alloc (.cells #[.int .i64 0, .int .i64 0, .slice none 0 0] 30)).heap.size ≥ w.heap.size + 2 := by simp
  by_cases h0 : 0 < es.length
  · obtain ⟨g, P, d, rfl, hgw, hnc, k0, k1, k2, hown⟩ := last_own hO h0
    rw [if_pos h0, decide_eq_true h0]
    obtain ⟨⟨a, m, p⟩, hlast⟩ : ∃ e, lastE es = e := ⟨_, rfl⟩
    rw [hlast] at k0 k1 k2 hown ⊢
    simp only at k0 k1 k2 hown ⊢
    obtain ⟨n1, hn1⟩ : ∃ n1, es.length = n1 + 1 := ⟨es.length - 1, by omega⟩
    have hn2 : es.length - 1 = n1 := by omega
    rw [hn2] at k0 k1 k2
    have HO := Lib.hid hown
    have k0 := (hal.cell (p := ⟨g, n1 * 3, none⟩) hgw).trans k0
    have k1 := (hal.cell (p := ⟨g, n1 * 3 + 1, none⟩) hgw).trans k1
    have k2 := (hal.cell (p := ⟨g, n1 * 3 + 2, none⟩) hgw).trans k2
    have hnz : ((es.length : Int) == 0) = false := beq_eq_false_iff_ne.2 (by omega)
    have hsub : (es.length : Int) - 1 = (n1 : Int) := by omega
    have hwr : IntKind.i64.wrap (n1 : Int) = (n1 : Int) := IntWalk.i64_in _ (by omega)
    have hi0 : (0 : Int) ≤ (n1 : Int) := by omega
    have hi1 : (n1 : Int) < (es.length : Int) := by omega
    clear hal hbx hrx hO hown hlast hn1 hn2
    go_enter Try.func123, Try.ntmps123
    have p0 := BX.out.cell 0
    go_wp2_with fail
    generalize (w.alloc (.cells #[.slice (some ⟨g, 0, none⟩) es.length c] 139)).alloc (.cells #[.int .i64 0, .int .i64 0, .slice none 0 0] 30) = W0 at *
    refine (edCount_any (some ⟨g, 0, none⟩) es.length c _).mono ?_
    rintro e W ⟨rfl, hb⟩
    have zg0 : g < W0.heap.size := by omega
    have k0 := (hb.cell (p := ⟨g, n1 * 3, none⟩) zg0).trans k0
    have k1 := (hb.cell (p := ⟨g, n1 * 3 + 1, none⟩) zg0).trans k1
    have k2 := (hb.cell (p := ⟨g, n1 * 3 + 2, none⟩) zg0).trans k2
    have zg : g < W.heap.size := Nat.lt_of_lt_of_le zg0 hb.size
    have BX := Lib.hid (BX.out.below hb)
    have RX := Lib.hid (RX.out.below hb)
    have HB := Lib.hid (below_then HB.out hb)
    have zb := BX.out.lt
    clear p0 hb
    have p0 := BX.out.cell 0
    go_wp2_with fail
    refine wp_region_held_drew (S := (fun V => V.cell? ⟨w.heap.size, 0, none⟩ = some (.slice (some ⟨g, 0, none⟩) es.length c) ∧ V.cell? ⟨g, n1 * 3, none⟩ = some (.int .i64 a) ∧ V.cell? ⟨g, n1 * 3 + 1, none⟩ = some (.int .i64 m) ∧ V.cell? ⟨g, n1 * 3 + 2, none⟩ = some (.slice P p.length d))) (by kernel_rfl) (by exact ⟨p0, k0, k1, k2⟩) (fun hHeld => ?_)
    refine wpAnyH_take (i := 0) (oi := ?_) (v := ?_) ?_ ?_ ?_ ?_ ?_ ?_ (by exact hHeld) ?_
    rotate_left 2
    · (simp only [List.getElem?_toArray, List.getElem?_cons_zero]; try rfl)
    · kernel_rfl
    · kernel_rfl
    · kernel_rfl
    · exact fun _ _ _ h => h
    · refine Or.inl ⟨by rfl, ?_⟩
      (intro V hSV; (try dsimp only at hSV); obtain ⟨q0, q1, q2, q3⟩ := hSV; go_simp; try with_reducible rfl)
    (try simp only [Act.put, List.setIfInBounds_toArray, List.set_cons_zero, List.set_cons_succ])
    refine wpAnyH_take (i := 1) (oi := ?_) (v := ?_) ?_ ?_ ?_ ?_ ?_ ?_ (by exact hHeld) ?_
    rotate_left 2
    · (simp only [List.getElem?_toArray, List.getElem?_cons_zero, List.getElem?_cons_succ]; try rfl)
    · kernel_rfl
    · kernel_rfl
    · kernel_rfl
    · exact fun _ _ _ h => h
    · refine Or.inl ⟨by rfl, ?_⟩
      (intro V hSV; (try dsimp only at hSV); obtain ⟨q0, q1, q2, q3⟩ := hSV; go_simp; try with_reducible rfl)
    (try simp only [Act.put, List.setIfInBounds_toArray, List.set_cons_zero, List.set_cons_succ])
    refine wpAnyH_take (i := 2) (oi := ?_) (v := ?_) ?_ ?_ ?_ ?_ ?_ ?_ (by exact hHeld) ?_
    rotate_left 2
    · (simp only [List.getElem?_toArray, List.getElem?_cons_zero, List.getElem?_cons_succ]; try rfl)
    · kernel_rfl
    · kernel_rfl
    · kernel_rfl
    · exact fun _ _ _ h => h
    · refine Or.inl ⟨by rfl, ?_⟩
      (intro V hSV; (try dsimp only at hSV); obtain ⟨q0, q1, q2, q3⟩ := hSV; go_simp; try with_reducible rfl)
    (try simp only [Act.put, List.setIfInBounds_toArray, List.set_cons_zero, List.set_cons_succ])
    refine wpAnyH_take (i := 3) (oi := ?_) (v := ?_) ?_ ?_ ?_ ?_ ?_ ?_ (by exact hHeld) ?_
    rotate_left 2
    · (simp only [List.getElem?_toArray, List.getElem?_cons_zero, List.getElem?_cons_succ]; try rfl)
    · kernel_rfl
    · kernel_rfl
    · kernel_rfl
    · exact fun _ _ _ h => h
    · refine Or.inl ⟨by rfl, ?_⟩
      (intro V hSV; (try dsimp only at hSV); obtain ⟨q0, q1, q2, q3⟩ := hSV; go_simp; try with_reducible rfl)
    (try simp only [Act.put, List.setIfInBounds_toArray, List.set_cons_zero, List.set_cons_succ])
    refine wpAnyH_take (i := 4) (oi := ?_) (v := ?_) ?_ ?_ ?_ ?_ ?_ ?_ (by exact hHeld) ?_
    rotate_left 2
    · (simp only [List.getElem?_toArray, List.getElem?_cons_zero, List.getElem?_cons_succ]; try rfl)
    · kernel_rfl
    · kernel_rfl
    · kernel_rfl
    · exact fun _ _ _ h => h
    · refine Or.inl ⟨by rfl, ?_⟩
      (intro V hSV; (try dsimp only at hSV); obtain ⟨q0, q1, q2, q3⟩ := hSV; go_simp; try with_reducible rfl)
    (try simp only [Act.put, List.setIfInBounds_toArray, List.set_cons_zero, List.set_cons_succ])
    refine wpAnyH_ready (rs := [5]) (by kernel_rfl) (by simp) ?_
    refine AllReadyH.cons rfl (fun K hK => ?_) AllReadyH.nil
    go_simp
    refine (edCount_any (some ⟨g, 0, none⟩) es.length c _).mono ?_
    rintro e y1 ⟨rfl, hby1⟩
    have hby1 : Below W.heap.size W y1 := ⟨hby1.os, hby1.tape, hby1.output, hby1.size, hby1.block⟩
    have hbR := hby1
    have RX2 := Lib.hid (RX.out.below hby1)
    have BX2 := Lib.hid (BX.out.below hby1)
    have HO2 := Lib.hid (HO.out.below (below_then HB.out hby1))
    go_wp2_with fail
    refine hK.out _ _ (by exact ⟨((hbR).cell (p := ⟨w.heap.size, 0, none⟩) zb).trans p0, ((hbR).cell (p := ⟨g, n1 * 3, none⟩) zg).trans k0, ((hbR).cell (p := ⟨g, n1 * 3 + 1, none⟩) zg).trans k1, ((hbR).cell (p := ⟨g, n1 * 3 + 2, none⟩) zg).trans k2⟩) (fun hHeld => ?_)
    clear hK K
    (try simp only [Act.put, List.setIfInBounds_toArray, List.set_cons_zero, List.set_cons_succ])
    refine wpAnyH_take (i := 6) (oi := ?_) (v := ?_) ?_ ?_ ?_ ?_ ?_ ?_ (by exact hHeld) ?_
    rotate_left 2
    · (simp only [List.getElem?_toArray, List.getElem?_cons_zero, List.getElem?_cons_succ]; try rfl)
    · kernel_rfl
    · kernel_rfl
    · kernel_rfl
    · exact fun _ _ _ h => h
    · refine Or.inl ⟨by rfl, ?_⟩
      (intro V hSV; (try dsimp only at hSV); obtain ⟨q0, q1, q2, q3⟩ := hSV; go_simp; try with_reducible rfl)
    (try simp only [Act.put, List.setIfInBounds_toArray, List.set_cons_zero, List.set_cons_succ])
    refine wpAnyH_take (i := 7) (oi := ?_) (v := ?_) ?_ ?_ ?_ ?_ ?_ ?_ (by exact hHeld) ?_
    rotate_left 2
    · (simp only [List.getElem?_toArray, List.getElem?_cons_zero, List.getElem?_cons_succ]; try rfl)
    · kernel_rfl
    · kernel_rfl
    · kernel_rfl
    · exact fun _ _ _ h => h
    · refine Or.inl ⟨by rfl, ?_⟩
      (intro V hSV; (try dsimp only at hSV); obtain ⟨q0, q1, q2, q3⟩ := hSV; go_simp; try with_reducible rfl)
    (try simp only [Act.put, List.setIfInBounds_toArray, List.set_cons_zero, List.set_cons_succ])
    refine wpAnyH_take (i := 8) (oi := ?_) (v := ?_) ?_ ?_ ?_ ?_ ?_ ?_ (by exact hHeld) ?_
    rotate_left 2
    · (simp only [List.getElem?_toArray, List.getElem?_cons_zero, List.getElem?_cons_succ]; try rfl)
    · kernel_rfl
    · kernel_rfl
    · kernel_rfl
    · exact fun _ _ _ h => h
    · refine Or.inl ⟨by rfl, ?_⟩
      (intro V hSV; (try dsimp only at hSV); obtain ⟨q0, q1, q2, q3⟩ := hSV; go_simp; try with_reducible rfl)
    (try simp only [Act.put, List.setIfInBounds_toArray, List.set_cons_zero, List.set_cons_succ])
    have f0 := RX2.out.frozen 0
    have f1 := RX2.out.frozen 1
    have f2 := RX2.out.frozen 2
    have c0 := RX2.out.cell 0
    have c1 := RX2.out.cell 1
    have c2 := RX2.out.cell 2
    have e0 := (hbR.cell (p := ⟨w.heap.size, 0, none⟩) zb).trans p0
    have e1 := (hbR.cell (p := ⟨g, n1 * 3, none⟩) zg).trans k0
    have e2 := (hbR.cell (p := ⟨g, n1 * 3 + 1, none⟩) zg).trans k1
    have e3 := (hbR.cell (p := ⟨g, n1 * 3 + 2, none⟩) zg).trans k2
    have HS9 := Lib.hid (show ((((y1.setCell ⟨w.heap.size + 1, 0, none⟩ (.int .i64 a)).setCell ⟨w.heap.size + 1, 1, none⟩ (.int .i64 m)).setCell ⟨w.heap.size + 1, 2, none⟩ (.slice P p.length d)).cell? ⟨w.heap.size, 0, none⟩ = some (.slice (some ⟨g, 0, none⟩) es.length c) ∧ (((y1.setCell ⟨w.heap.size + 1, 0, none⟩ (.int .i64 a)).setCell ⟨w.heap.size + 1, 1, none⟩ (.int .i64 m)).setCell ⟨w.heap.size + 1, 2, none⟩ (.slice P p.length d)).cell? ⟨g, n1 * 3, none⟩ = some (.int .i64 a) ∧ (((y1.setCell ⟨w.heap.size + 1, 0, none⟩ (.int .i64 a)).setCell ⟨w.heap.size + 1, 1, none⟩ (.int .i64 m)).setCell ⟨w.heap.size + 1, 2, none⟩ (.slice P p.length d)).cell? ⟨g, n1 * 3 + 1, none⟩ = some (.int .i64 m) ∧ (((y1.setCell ⟨w.heap.size + 1, 0, none⟩ (.int .i64 a)).setCell ⟨w.heap.size + 1, 1, none⟩ (.int .i64 m)).setCell ⟨w.heap.size + 1, 2, none⟩ (.slice P p.length d)).cell? ⟨g, n1 * 3 + 2, none⟩ = some (.slice P p.length d)) from ⟨(((cell_oth (p := ⟨w.heap.size, 0, none⟩) _ (by show w.heap.size ≠ w.heap.size + 1; omega)).trans ((cell_oth (p := ⟨w.heap.size, 0, none⟩) _ (by show w.heap.size ≠ w.heap.size + 1; omega)).trans (cell_oth (p := ⟨w.heap.size, 0, none⟩) _ (by show w.heap.size ≠ w.heap.size + 1; omega)))).trans e0), (((cell_oth (p := ⟨g, n1 * 3, none⟩) _ (by show g ≠ w.heap.size + 1; omega)).trans ((cell_oth (p := ⟨g, n1 * 3, none⟩) _ (by show g ≠ w.heap.size + 1; omega)).trans (cell_oth (p := ⟨g, n1 * 3, none⟩) _ (by show g ≠ w.heap.size + 1; omega)))).trans e1), (((cell_oth (p := ⟨g, n1 * 3 + 1, none⟩) _ (by show g ≠ w.heap.size + 1; omega)).trans ((cell_oth (p := ⟨g, n1 * 3 + 1, none⟩) _ (by show g ≠ w.heap.size + 1; omega)).trans (cell_oth (p := ⟨g, n1 * 3 + 1, none⟩) _ (by show g ≠ w.heap.size + 1; omega)))).trans e2), (((cell_oth (p := ⟨g, n1 * 3 + 2, none⟩) _ (by show g ≠ w.heap.size + 1; omega)).trans ((cell_oth (p := ⟨g, n1 * 3 + 2, none⟩) _ (by show g ≠ w.heap.size + 1; omega)).trans (cell_oth (p := ⟨g, n1 * 3 + 2, none⟩) _ (by show g ≠ w.heap.size + 1; omega)))).trans e3)⟩)
    have RX7 := Lib.hid (show Blk (((y1.setCell ⟨w.heap.size + 1, 0, none⟩ (.int .i64 a)).setCell ⟨w.heap.size + 1, 1, none⟩ (.int .i64 m)).setCell ⟨w.heap.size + 1, 2, none⟩ (.slice P p.length d)) (w.heap.size + 1) #[.int .i64 a, .int .i64 m, .slice P p.length d] 30 by simpa using ((RX2.out.set 0 (.int .i64 a)).set 1 (.int .i64 m)).set 2 (.slice P p.length d))
    have HB7 := Lib.hid (show Below w.heap.size w (((y1.setCell ⟨w.heap.size + 1, 0, none⟩ (.int .i64 a)).setCell ⟨w.heap.size + 1, 1, none⟩ (.int .i64 m)).setCell ⟨w.heap.size + 1, 2, none⟩ (.slice P p.length d)) from (((below_then HB.out hbR).setCell (p := ⟨w.heap.size + 1, 0, none⟩) (by simp) _).setCell (p := ⟨w.heap.size + 1, 1, none⟩) (by simp) _).setCell (p := ⟨w.heap.size + 1, 2, none⟩) (by simp) _)
    clear e0 e1 e2 e3
    refine wpAnyH_ready (rs := [9]) (by kernel_rfl) (by simp) ?_
    refine AllReadyH.cons (o := ?_) ?_ (fun K hK => ?_) AllReadyH.nil
    rotate_left 1
    · (simp only [List.getElem?_toArray, List.getElem?_cons_zero, List.getElem?_cons_succ]; try rfl)
    go_simp
    refine hK.out _ _ (by exact HS9.out) (fun hHeld => ?_)
    clear hK K
    (try simp only [Act.put, List.setIfInBounds_toArray, List.set_cons_zero, List.set_cons_succ])
    refine wpAnyH_take (i := 10) (oi := ?_) (v := ?_) ?_ ?_ ?_ ?_ ?_ ?_ (by exact hHeld) ?_
    rotate_left 2
    · (simp only [List.getElem?_toArray, List.getElem?_cons_zero, List.getElem?_cons_succ]; try rfl)
    · kernel_rfl
    · kernel_rfl
    · kernel_rfl
    · exact fun _ _ _ h => h
    · refine Or.inl ⟨by rfl, ?_⟩
      (intro V hSV; (try dsimp only at hSV); obtain ⟨q0, q1, q2, q3⟩ := hSV; go_simp; try with_reducible rfl)
    (try simp only [Act.put, List.setIfInBounds_toArray, List.set_cons_zero, List.set_cons_succ])
    refine wpAnyH_done (by kernel_rfl) ?_ _
    clear hHeld p0 k0 k1 k2 f0 f1 f2 c0 c1 c2
    have q0 := RX7.out.cell 0
    have q1 := RX7.out.cell 1
    have q2 := RX7.out.cell 2
    go_wp2
    refine bodyPost_ret (v := .tuple #[.agg #[.int .i64 a, .int .i64 m, .slice P p.length d], .bool true]) (by simp [results, Try.results123, go_sem, q0, q1, q2]) rfl ?_
    exact ⟨_, rfl, HO.out.below HB7.out, HB7.out⟩
  · rw [if_neg h0, decide_eq_false h0]
    have hnz : ((es.length : Int) == 0) = true := by rw [beq_iff_eq]; omega
    have p0 := BX.out.cell 0
    clear hal hbx hrx hO
    go_enter Try.func123, Try.ntmps123
    go_wp2_with fail
    generalize (w.alloc (.cells #[.slice A es.length c] 139)).alloc (.cells #[.int .i64 0, .int .i64 0, .slice none 0 0] 30) = W0 at *
    refine (edCount_any A es.length c _).mono ?_
    rintro e W ⟨rfl, hb⟩
    have RX := Lib.hid (RX.out.below hb)
    have HB := Lib.hid (below_then HB.out hb)
    clear p0 hb
    have q0 := RX.out.cell 0
    have q1 := RX.out.cell 1
    have q2 := RX.out.cell 2
    have f0 := RX.out.frozen 0
    have f1 := RX.out.frozen 1
    have f2 := RX.out.frozen 2
    have hltR := RX.out.lt
    go_wp2
    refine bodyPost_ret (v := .tuple #[.agg #[.int .i64 0, .int .i64 0, .slice none 0 0], .bool false]) (by simp [results, Try.results123, go_sem, q0, q1, q2]) rfl ⟨.slice none 0 0, rfl, Own.nil _ _, ?_⟩
    exact ((HB.out.setCell (p := ⟨w.heap.size + 1, 0, none⟩) (by simp) _).setCell (p := ⟨w.heap.size + 1, 1, none⟩) (by simp) _).setCell (p := ⟨w.heap.size + 1, 2, none⟩) (by simp) _

set_option maxHeartbeats 8000000 in
theorem implStackTop_any (A : Option Addr) (u : List Ed) (c : Nat) (B : Option Addr) (r : List Ed) (d : Nat) (redo : Bool) (w : World) (hu9 : u.length ≤ 9223372036854775807) (hr9 : r.length ≤ 9223372036854775807) (hU : Es w A u) (hR : Es w B r) :
    Calls Try.prog 40 #[.agg #[.slice A u.length c, .slice B r.length d], .bool redo] w fun e w' => ∃ v, e = .returned (.tuple #[.agg #[.int .i64 (topV u r redo).1, .int .i64 (topV u r redo).2.1, v], .bool (topOk u r redo)]) ∧ Own w' w.heap.size v (topV u r redo).2.2 ∧ Below w.heap.size w w' := by
  have hal := ((Below.refl w.heap.size w).alloc (Nat.le_refl _) (.cells #[.slice A u.length c, .slice B r.length d] 46)).alloc (by simp) (.cells #[.int .i64 0, .int .i64 0, .slice none 0 0] 30)
  have hbx := (Blk.new w #[.slice A u.length c, .slice B r.length d] 46).alloc (.cells #[.int .i64 0, .int .i64 0, .slice none 0 0] 30)
  have hrx := Blk.new (w.alloc (.cells #[.slice A u.length c, .slice B r.length d] 46)) #[.int .i64 0, .int .i64 0, .slice none 0 0] 30
  simp only [World.size_alloc] at hrx
  have BX := Lib.hid hbx
  have RX := Lib.hid hrx
  have HB := Lib.hid hal
  have hzw : ((w.alloc (.cells #[.slice A u.length c, .slice B r.length d] 46)).alloc (.cells #[.int .i64 0, .int .i64 0, .slice none 0 0] 30)).heap.size ≥ w.heap.size + 2 := by simp
  have HU := Lib.hid (show ∀ W, Below w.heap.size w W → Es W A u from fun W h => hU.below h)
  have HR := Lib.hid (show ∀ W, Below w.heap.size w W → Es W B r from fun W h => hR.below h)
  obtain ⟨k, hk⟩ : ∃ k, topOk u r redo = k := ⟨_, rfl⟩
  obtain ⟨V, hV⟩ : ∃ V, topV u r redo = V := ⟨_, rfl⟩
  rw [hk, hV]
  have HK := Lib.hid hk
  have HV := Lib.hid hV
  obtain ⟨z, hz⟩ : ∃ z, stOk u r = z := ⟨_, rfl⟩
  have HZ := Lib.hid hz
  clear hk hV hz hal hbx hrx hU hR
  go_enter Try.func40, Try.ntmps40
  have p0 := BX.out.cell 0
  have p1 := BX.out.cell 1
  have hU1 := HU.out _ HB.out
  have hR1 := HR.out _ HB.out
  go_wp2_with fail
  generalize (w.alloc (.cells #[.slice A u.length c, .slice B r.length d] 46)).alloc (.cells #[.int .i64 0, .int .i64 0, .slice none 0 0] 30) = W at *
  refine (implStackOk_any A B u r c d _ hu9 hr9 hU1 hR1).mono ?_
  rintro e w1 ⟨rfl, hb⟩
  rw [HZ.out]
  clear p0 p1 hU1 hR1
  have hz1 := hb.size
  have BX := Lib.hid (BX.out.below hb)
  have RX := Lib.hid (RX.out.below hb)
  have HB := Lib.hid (below_then HB.out hb)
  clear hb
  cases z
  · have hk0 : k = false := by rw [← HK.out]; unfold topOk; rw [HZ.out]; rfl
    have hv0 : V = (0, 0, []) := by rw [← HV.out]; unfold topV; rw [HK.out, hk0]; rfl
    subst hk0 hv0
    have q0 := RX.out.cell 0
    have q1 := RX.out.cell 1
    have q2 := RX.out.cell 2
    have f0 := RX.out.frozen 0
    have f1 := RX.out.frozen 1
    have f2 := RX.out.frozen 2
    have hltR := RX.out.lt
    go_wp2
    refine bodyPost_ret (v := .tuple #[.agg #[.int .i64 0, .int .i64 0, .slice none 0 0], .bool false]) (by simp [results, Try.results40, go_sem, q0, q1, q2]) rfl ?_
    exact ⟨.slice none 0 0, rfl, Own.nil _ _, ((HB.out.setCell (p := ⟨w.heap.size + 1, 0, none⟩) (by simp) _).setCell (p := ⟨w.heap.size + 1, 1, none⟩) (by simp) _).setCell (p := ⟨w.heap.size + 1, 2, none⟩) (by simp) _⟩
  have hfu : stFit u = true := by have h9 := HZ.out; unfold stOk at h9; rw [Bool.and_eq_true] at h9; exact h9.1
  have hfr : stFit r = true := by have h9 := HZ.out; unfold stOk at h9; rw [Bool.and_eq_true] at h9; exact h9.2
  cases redo
  · have hes := HU.out _ HB.out
    have hsm : ∀ e ∈ u, e.2.2.length ≤ 1000 := fun e he => by have h9 := (edSmall_iff _ _ _).1 (show edSmall e.1 e.2.1 e.2.2 = true from stFit_all hfu e he); omega
    have hl6 := stFit_len hfu
    have p0 := BX.out.cell 0
    go_wp2_with fail
    refine (newEditStack_any A u c _ (by omega) hsm hes).mono ?_
    rintro e w2 ⟨v2, fp, rfl, ho2, hn2, hl2, hb⟩
    obtain ⟨A2, c2', e2, _, _, _⟩ := Lay.edits.read ho2
    simp only [List.cons.injEq, and_true] at e2
    subst e2
    have HO2 := Lib.hid (show OwE w2 w1.heap.size A2 u c2' fp from ⟨ho2, hn2, hl2⟩)
    clear ho2 hn2 hl2 p0 hes
    have BX := Lib.hid (BX.out.below hb)
    have RX := Lib.hid (RX.out.below hb)
    have HB := Lib.hid (below_then HB.out hb)
    clear hb
    go_wp2_with fail
    refine (top_any A2 u c2' w1.heap.size fp _ (by omega) HO2.out).mono ?_
    rintro e w3 ⟨v3, rfl, hO3, hb⟩
    have hz0 : (decide (0 < u.length)) = k := by rw [← HK.out]; unfold topOk; rw [HZ.out]; rfl
    have hv0 : (if 0 < u.length then lastE u else (0, 0, [])) = V := by
      rw [← HV.out]
      unfold topV topOk
      rw [HZ.out, Bool.true_and]
      show _ = if decide (0 < u.length) = true then lastE u else (0, 0, [])
      simp only [decide_eq_true_eq]
    rw [hz0, hv0]
    rw [hv0] at hO3
    clear hz0 hv0 HO2 HK HV
    have BX := Lib.hid (BX.out.below hb)
    have RX := Lib.hid (RX.out.below hb)
    have HB := Lib.hid (below_then HB.out hb)
    clear hb
    obtain ⟨a, m, p⟩ := V
    obtain ⟨P, d9, rfl, _, _, _⟩ := hO3.form
    have HO := Lib.hid hO3
    clear hO3
    have RX7 := Lib.hid (show Blk ((((w3).setCell ⟨w.heap.size + 1, 0, none⟩ (.int .i64 a)).setCell ⟨w.heap.size + 1, 1, none⟩ (.int .i64 m)).setCell ⟨w.heap.size + 1, 2, none⟩ (.slice P p.length d9)) (w.heap.size + 1) #[.int .i64 a, .int .i64 m, .slice P p.length d9] 30 by simpa using ((RX.out.set 0 (.int .i64 a)).set 1 (.int .i64 m)).set 2 (.slice P p.length d9))
    have HB7 := Lib.hid (show Below w.heap.size w ((((w3).setCell ⟨w.heap.size + 1, 0, none⟩ (.int .i64 a)).setCell ⟨w.heap.size + 1, 1, none⟩ (.int .i64 m)).setCell ⟨w.heap.size + 1, 2, none⟩ (.slice P p.length d9)) from ((HB.out.setCell (p := ⟨w.heap.size + 1, 0, none⟩) (by simp) _).setCell (p := ⟨w.heap.size + 1, 1, none⟩) (by simp) _).setCell (p := ⟨w.heap.size + 1, 2, none⟩) (by simp) _)
    have HO7 := Lib.hid (((HO.out.setBelow (a := ⟨w.heap.size + 1, 0, none⟩) (by simp; omega) (.int .i64 a)).setBelow (a := ⟨w.heap.size + 1, 1, none⟩) (by simp; omega) (.int .i64 m)).setBelow (a := ⟨w.heap.size + 1, 2, none⟩) (by simp; omega) (.slice P p.length d9))
    have f0 := RX.out.frozen 0
    have f1 := RX.out.frozen 1
    have f2 := RX.out.frozen 2
    have c0 := RX.out.cell 0
    have c1 := RX.out.cell 1
    have c2 := RX.out.cell 2
    have q0 := RX7.out.cell 0
    have q1 := RX7.out.cell 1
    have q2 := RX7.out.cell 2
    go_wp2
    refine bodyPost_ret (v := .tuple #[.agg #[.int .i64 a, .int .i64 m, .slice P p.length d9], .bool k]) (by simp [results, Try.results40, go_sem, q0, q1, q2]) rfl ?_
    exact ⟨_, rfl, HO7.out.mono (by omega), HB7.out⟩
  · have hes := HR.out _ HB.out
    have hsm : ∀ e ∈ r, e.2.2.length ≤ 1000 := fun e he => by have h9 := (edSmall_iff _ _ _).1 (show edSmall e.1 e.2.1 e.2.2 = true from stFit_all hfr e he); omega
    have hl6 := stFit_len hfr
    have p0 := BX.out.cell 1
    go_wp2_with fail
    refine (newEditStack_any B r d _ (by omega) hsm hes).mono ?_
    rintro e w2 ⟨v2, fp, rfl, ho2, hn2, hl2, hb⟩
    obtain ⟨A2, c2', e2, _, _, _⟩ := Lay.edits.read ho2
    simp only [List.cons.injEq, and_true] at e2
    subst e2
    have HO2 := Lib.hid (show OwE w2 w1.heap.size A2 r c2' fp from ⟨ho2, hn2, hl2⟩)
    clear ho2 hn2 hl2 p0 hes
    have BX := Lib.hid (BX.out.below hb)
    have RX := Lib.hid (RX.out.below hb)
    have HB := Lib.hid (below_then HB.out hb)
    clear hb
    go_wp2_with fail
    refine (top_any A2 r c2' w1.heap.size fp _ (by omega) HO2.out).mono ?_
    rintro e w3 ⟨v3, rfl, hO3, hb⟩
    have hz0 : (decide (0 < r.length)) = k := by rw [← HK.out]; unfold topOk; rw [HZ.out]; rfl
    have hv0 : (if 0 < r.length then lastE r else (0, 0, [])) = V := by
      rw [← HV.out]
      unfold topV topOk
      rw [HZ.out, Bool.true_and]
      show _ = if decide (0 < r.length) = true then lastE r else (0, 0, [])
      simp only [decide_eq_true_eq]
    rw [hz0, hv0]
    rw [hv0] at hO3
    clear hz0 hv0 HO2 HK HV
    have BX := Lib.hid (BX.out.below hb)
    have RX := Lib.hid (RX.out.below hb)
    have HB := Lib.hid (below_then HB.out hb)
    clear hb
    obtain ⟨a, m, p⟩ := V
    obtain ⟨P, d9, rfl, _, _, _⟩ := hO3.form
    have HO := Lib.hid hO3
    clear hO3
    have RX7 := Lib.hid (show Blk ((((w3).setCell ⟨w.heap.size + 1, 0, none⟩ (.int .i64 a)).setCell ⟨w.heap.size + 1, 1, none⟩ (.int .i64 m)).setCell ⟨w.heap.size + 1, 2, none⟩ (.slice P p.length d9)) (w.heap.size + 1) #[.int .i64 a, .int .i64 m, .slice P p.length d9] 30 by simpa using ((RX.out.set 0 (.int .i64 a)).set 1 (.int .i64 m)).set 2 (.slice P p.length d9))
    have HB7 := Lib.hid (show Below w.heap.size w ((((w3).setCell ⟨w.heap.size + 1, 0, none⟩ (.int .i64 a)).setCell ⟨w.heap.size + 1, 1, none⟩ (.int .i64 m)).setCell ⟨w.heap.size + 1, 2, none⟩ (.slice P p.length d9)) from ((HB.out.setCell (p := ⟨w.heap.size + 1, 0, none⟩) (by simp) _).setCell (p := ⟨w.heap.size + 1, 1, none⟩) (by simp) _).setCell (p := ⟨w.heap.size + 1, 2, none⟩) (by simp) _)
    have HO7 := Lib.hid (((HO.out.setBelow (a := ⟨w.heap.size + 1, 0, none⟩) (by simp; omega) (.int .i64 a)).setBelow (a := ⟨w.heap.size + 1, 1, none⟩) (by simp; omega) (.int .i64 m)).setBelow (a := ⟨w.heap.size + 1, 2, none⟩) (by simp; omega) (.slice P p.length d9))
    have f0 := RX.out.frozen 0
    have f1 := RX.out.frozen 1
    have f2 := RX.out.frozen 2
    have c0 := RX.out.cell 0
    have c1 := RX.out.cell 1
    have c2 := RX.out.cell 2
    have q0 := RX7.out.cell 0
    have q1 := RX7.out.cell 1
    have q2 := RX7.out.cell 2
    go_wp2
    refine bodyPost_ret (v := .tuple #[.agg #[.int .i64 a, .int .i64 m, .slice P p.length d9], .bool k]) (by simp [results, Try.results40, go_sem, q0, q1, q2]) rfl ?_
    exact ⟨_, rfl, HO7.out.mono (by omega), HB7.out⟩
end Go.Proofs.Ytdmmdbapkogdhaa

namespace Go.Proofs.Ytdmmdbapkogdhaa
open Go.RowKit P
set_option linter.unusedVariables false
set_option linter.unusedSimpArgs false
set_option maxRecDepth 100000

set_option maxHeartbeats 2000000 in
theorem l08Side_any (x y : Value) (redo : Bool) (w : World) :
    Calls Try.prog 193 #[.agg #[x, y], .bool redo] w fun e w' => e = .returned (if redo = true then y else x) ∧ Below w.heap.size w w' := by
  have hal := (Below.refl w.heap.size w).alloc (Nat.le_refl _) (.cells #[x, y] 46)
  have bx := Blk.new w #[x, y] 46
  have p0 := bx.cell 0
  have p1 := bx.cell 1
  cases redo
  · go_enter Try.func193, Try.ntmps193
    go_wp2
    go_ret
    exact ⟨rfl, hal⟩
  · go_enter Try.func193, Try.ntmps193
    go_wp2
    go_ret
    exact ⟨rfl, hal⟩
theorem lastE_get {es : List Ed} {n1 : Nat} (h : es.length = n1 + 1) : lastE es = es[n1]'(by omega) := by
  unfold lastE
  rw [List.getLastD_eq_getLast?, List.getLast?_eq_getElem?, List.getElem?_eq_getElem (by omega), Option.getD_some]
  congr 1
  omega

set_option maxHeartbeats 8000000 in
theorem specStackTop_any (A : Option Addr) (u : List Ed) (c : Nat) (B : Option Addr) (r : List Ed) (d : Nat) (redo : Bool) (w : World) (hu9 : u.length ≤ 9223372036854775807) (hr9 : r.length ≤ 9223372036854775807) (hU : Es w A u) (hR : Es w B r) :
    Calls Try.prog 192 #[.agg #[.slice A u.length c, .slice B r.length d], .bool redo] w fun e w' => ∃ v, e = .returned (.tuple #[.agg #[.int .i64 (topV u r redo).1, .int .i64 (topV u r redo).2.1, v], .bool (topOk u r redo)]) ∧ Own w' w.heap.size v (topV u r redo).2.2 ∧ Below w.heap.size w w' := by
  have hal := ((Below.refl w.heap.size w).alloc (Nat.le_refl _) (.cells #[.slice A u.length c, .slice B r.length d] 46)).alloc (by simp) (.cells #[.int .i64 0, .int .i64 0, .slice none 0 0] 30)
  have hbx := (Blk.new w #[.slice A u.length c, .slice B r.length d] 46).alloc (.cells #[.int .i64 0, .int .i64 0, .slice none 0 0] 30)
  have hrx := Blk.new (w.alloc (.cells #[.slice A u.length c, .slice B r.length d] 46)) #[.int .i64 0, .int .i64 0, .slice none 0 0] 30
  simp only [World.size_alloc] at hrx
  have BX := Lib.hid hbx
  have RX := Lib.hid hrx
  have HB := Lib.hid hal
  have hzw : ((w.alloc (.cells #[.slice A u.length c, .slice B r.length d] 46)).alloc (.cells #[.int .i64 0, .int .i64 0, .slice none 0 0] 30)).heap.size ≥ w.heap.size + 2 := by simp
  have HU := Lib.hid (show ∀ W, Below w.heap.size w W → Es W A u from fun W h => hU.below h)
  have HR := Lib.hid (show ∀ W, Below w.heap.size w W → Es W B r from fun W h => hR.below h)
  obtain ⟨k, hk⟩ : ∃ k, topOk u r redo = k := ⟨_, rfl⟩
  obtain ⟨V, hV⟩ : ∃ V, topV u r redo = V := ⟨_, rfl⟩
  rw [hk, hV]
  have HK := Lib.hid hk
  have HV := Lib.hid hV
  obtain ⟨z, hz⟩ : ∃ z, stOk u r = z := ⟨_, rfl⟩
  have HZ := Lib.hid hz
  clear hk hV hz hal hbx hrx hU hR
  go_enter Try.func192, Try.ntmps192
  cases redo
  · have p0 := BX.out.cell 0
    have p1 := BX.out.cell 1
    go_wp2_with fail
    generalize (w.alloc (.cells #[.slice A u.length c, .slice B r.length d] 46)).alloc (.cells #[.int .i64 0, .int .i64 0, .slice none 0 0] 30) = W at *
    refine (l08Side_any (.slice A u.length c) (.slice B r.length d) false _).mono ?_
    rintro e w1 ⟨rfl, hb⟩
    rw [if_neg (by simp)]
    clear p0 p1
    have hz1 := hb.size
    have BX := Lib.hid (BX.out.below hb)
    have RX := Lib.hid (RX.out.below hb)
    have HB := Lib.hid (below_then HB.out hb)
    clear hb
    have p0 := BX.out.cell 0
    have p1 := BX.out.cell 1
    have hU1 := HU.out _ HB.out
    have hR1 := HR.out _ HB.out
    go_wp2_with fail
    refine (specStackOk_any A B u r c d _ hu9 hr9 hU1 hR1).mono ?_
    rintro e w2 ⟨rfl, hb⟩
    rw [HZ.out]
    clear p0 p1 hU1 hR1
    have hz2 := hb.size
    have BX := Lib.hid (BX.out.below hb)
    have RX := Lib.hid (RX.out.below hb)
    have HB := Lib.hid (below_then HB.out hb)
    clear hb
    cases z
    · have hk0 : k = false := by rw [← HK.out]; unfold topOk; rw [HZ.out]; rfl
      have hv0 : V = (0, 0, []) := by rw [← HV.out]; unfold topV; rw [HK.out, hk0]; rfl
      subst hk0 hv0
      have q0 := RX.out.cell 0
      have q1 := RX.out.cell 1
      have q2 := RX.out.cell 2
      have f0 := RX.out.frozen 0
      have f1 := RX.out.frozen 1
      have f2 := RX.out.frozen 2
      have hltR := RX.out.lt
      go_wp2
      refine bodyPost_ret (v := .tuple #[.agg #[.int .i64 0, .int .i64 0, .slice none 0 0], .bool false]) (by simp [results, Try.results192, go_sem, q0, q1, q2]) rfl ?_
      exact ⟨.slice none 0 0, rfl, Own.nil _ _, ((HB.out.setCell (p := ⟨w.heap.size + 1, 0, none⟩) (by simp) _).setCell (p := ⟨w.heap.size + 1, 1, none⟩) (by simp) _).setCell (p := ⟨w.heap.size + 1, 2, none⟩) (by simp) _⟩
    have hfx : stFit u = true := by have h9 := HZ.out; unfold stOk at h9; rw [Bool.and_eq_true] at h9; exact h9.1
    have hl6 := stFit_len hfx
    by_cases h0 : 0 < u.length
    rotate_left
    · have hnz : ((u.length : Int) == 0) = true := by rw [beq_iff_eq]; omega
      have hk0 : k = false := by rw [← HK.out]; unfold topOk; rw [HZ.out]; exact decide_eq_false h0
      have hv0 : V = (0, 0, []) := by rw [← HV.out]; unfold topV; rw [HK.out, hk0]; rfl
      subst hk0 hv0
      have q0 := RX.out.cell 0
      have q1 := RX.out.cell 1
      have q2 := RX.out.cell 2
      have f0 := RX.out.frozen 0
      have f1 := RX.out.frozen 1
      have f2 := RX.out.frozen 2
      have hltR := RX.out.lt
      go_wp2
      refine bodyPost_ret (v := .tuple #[.agg #[.int .i64 0, .int .i64 0, .slice none 0 0], .bool false]) (by simp [results, Try.results192, go_sem, q0, q1, q2]) rfl ?_
      exact ⟨.slice none 0 0, rfl, Own.nil _ _, ((HB.out.setCell (p := ⟨w.heap.size + 1, 0, none⟩) (by simp) _).setCell (p := ⟨w.heap.size + 1, 1, none⟩) (by simp) _).setCell (p := ⟨w.heap.size + 1, 2, none⟩) (by simp) _⟩
    have hnz : ((u.length : Int) == 0) = false := beq_eq_false_iff_ne.2 (by omega)
    obtain ⟨n1, hn1⟩ : ∃ n1, u.length = n1 + 1 := ⟨u.length - 1, by omega⟩
    have hlt : n1 < u.length := by omega
    obtain ⟨b, off, a, m, P, p, d9, rfl, hbl, hek, k0, k1, k2, ha, hm, hpd, hdm, hBp⟩ := (HU.out _ HB.out).at_ n1 hlt
    have hk1 : k = true := by rw [← HK.out]; unfold topOk; rw [HZ.out]; exact decide_eq_true h0
    have hv1 : V = (a, m, p) := by
      rw [← HV.out]
      unfold topV
      rw [HK.out, hk1, if_pos rfl]
      show lastE u = _
      rw [lastE_get hn1, hek]
    have hp4 : p.length ≤ 1000000 := by
      have h9 := stFit_all hfx _ (List.getElem_mem hlt)
      rw [hek] at h9
      have h8 := (edSmall_iff _ _ _).1 (show edSmall a m p = true from h9)
      omega
    have hsub : (u.length : Int) - 1 = (n1 : Int) := by omega
    have hwr : IntKind.i64.wrap (n1 : Int) = (n1 : Int) := IntWalk.i64_in _ (by omega)
    have hi0 : (0 : Int) ≤ (n1 : Int) := by omega
    have hi1 : (n1 : Int) < (u.length : Int) := by omega
    have HBP := Lib.hid hBp
    subst hk1 hv1
    clear hek hn1 hBp hpd hdm ha hm
    go_wp2_with fail
    refine (l08Edit_any a m P p d9 _ hp4 HBP.out).mono ?_
    rintro e w3 ⟨v3, rfl, hO3, hb⟩
    clear k0 k1 k2 HBP
    have BX := Lib.hid (BX.out.below hb)
    have RX := Lib.hid (RX.out.below hb)
    have HB := Lib.hid (below_then HB.out hb)
    clear hb
    obtain ⟨P, d9, rfl, _, _, _⟩ := hO3.form
    have HO := Lib.hid hO3
    clear hO3
    have RX7 := Lib.hid (show Blk ((((w3).setCell ⟨w.heap.size + 1, 0, none⟩ (.int .i64 a)).setCell ⟨w.heap.size + 1, 1, none⟩ (.int .i64 m)).setCell ⟨w.heap.size + 1, 2, none⟩ (.slice P p.length d9)) (w.heap.size + 1) #[.int .i64 a, .int .i64 m, .slice P p.length d9] 30 by simpa using ((RX.out.set 0 (.int .i64 a)).set 1 (.int .i64 m)).set 2 (.slice P p.length d9))
    have HB7 := Lib.hid (show Below w.heap.size w ((((w3).setCell ⟨w.heap.size + 1, 0, none⟩ (.int .i64 a)).setCell ⟨w.heap.size + 1, 1, none⟩ (.int .i64 m)).setCell ⟨w.heap.size + 1, 2, none⟩ (.slice P p.length d9)) from ((HB.out.setCell (p := ⟨w.heap.size + 1, 0, none⟩) (by simp) _).setCell (p := ⟨w.heap.size + 1, 1, none⟩) (by simp) _).setCell (p := ⟨w.heap.size + 1, 2, none⟩) (by simp) _)
    have HO7 := Lib.hid (((HO.out.setBelow (a := ⟨w.heap.size + 1, 0, none⟩) (by simp; omega) (.int .i64 a)).setBelow (a := ⟨w.heap.size + 1, 1, none⟩) (by simp; omega) (.int .i64 m)).setBelow (a := ⟨w.heap.size + 1, 2, none⟩) (by simp; omega) (.slice P p.length d9))
    have f0 := RX.out.frozen 0
    have f1 := RX.out.frozen 1
    have f2 := RX.out.frozen 2
    have c0 := RX.out.cell 0
    have c1 := RX.out.cell 1
    have c2 := RX.out.cell 2
    have q0 := RX7.out.cell 0
    have q1 := RX7.out.cell 1
    have q2 := RX7.out.cell 2
    go_wp2
    refine bodyPost_ret (v := .tuple #[.agg #[.int .i64 a, .int .i64 m, .slice P p.length d9], .bool true]) (by simp [results, Try.results192, go_sem, q0, q1, q2]) rfl ?_
    exact ⟨_, rfl, HO7.out.mono (by omega), HB7.out⟩
  · have p0 := BX.out.cell 0
    have p1 := BX.out.cell 1
    go_wp2_with fail
    generalize (w.alloc (.cells #[.slice A u.length c, .slice B r.length d] 46)).alloc (.cells #[.int .i64 0, .int .i64 0, .slice none 0 0] 30) = W at *
    refine (l08Side_any (.slice A u.length c) (.slice B r.length d) true _).mono ?_
    rintro e w1 ⟨rfl, hb⟩
    rw [if_pos rfl]
    clear p0 p1
    have hz1 := hb.size
    have BX := Lib.hid (BX.out.below hb)
    have RX := Lib.hid (RX.out.below hb)
    have HB := Lib.hid (below_then HB.out hb)
    clear hb
    have p0 := BX.out.cell 0
    have p1 := BX.out.cell 1
    have hU1 := HU.out _ HB.out
    have hR1 := HR.out _ HB.out
    go_wp2_with fail
    refine (specStackOk_any A B u r c d _ hu9 hr9 hU1 hR1).mono ?_
    rintro e w2 ⟨rfl, hb⟩
    rw [HZ.out]
    clear p0 p1 hU1 hR1
    have hz2 := hb.size
    have BX := Lib.hid (BX.out.below hb)
    have RX := Lib.hid (RX.out.below hb)
    have HB := Lib.hid (below_then HB.out hb)
    clear hb
    cases z
    · have hk0 : k = false := by rw [← HK.out]; unfold topOk; rw [HZ.out]; rfl
      have hv0 : V = (0, 0, []) := by rw [← HV.out]; unfold topV; rw [HK.out, hk0]; rfl
      subst hk0 hv0
      have q0 := RX.out.cell 0
      have q1 := RX.out.cell 1
      have q2 := RX.out.cell 2
      have f0 := RX.out.frozen 0
      have f1 := RX.out.frozen 1
      have f2 := RX.out.frozen 2
      have hltR := RX.out.lt
      go_wp2
      refine bodyPost_ret (v := .tuple #[.agg #[.int .i64 0, .int .i64 0, .slice none 0 0], .bool false]) (by simp [results, Try.results192, go_sem, q0, q1, q2]) rfl ?_
      exact ⟨.slice none 0 0, rfl, Own.nil _ _, ((HB.out.setCell (p := ⟨w.heap.size + 1, 0, none⟩) (by simp) _).setCell (p := ⟨w.heap.size + 1, 1, none⟩) (by simp) _).setCell (p := ⟨w.heap.size + 1, 2, none⟩) (by simp) _⟩
    have hfx : stFit r = true := by have h9 := HZ.out; unfold stOk at h9; rw [Bool.and_eq_true] at h9; exact h9.2
    have hl6 := stFit_len hfx
    by_cases h0 : 0 < r.length
    rotate_left
    · have hnz : ((r.length : Int) == 0) = true := by rw [beq_iff_eq]; omega
      have hk0 : k = false := by rw [← HK.out]; unfold topOk; rw [HZ.out]; exact decide_eq_false h0
      have hv0 : V = (0, 0, []) := by rw [← HV.out]; unfold topV; rw [HK.out, hk0]; rfl
      subst hk0 hv0
      have q0 := RX.out.cell 0
      have q1 := RX.out.cell 1
      have q2 := RX.out.cell 2
      have f0 := RX.out.frozen 0
      have f1 := RX.out.frozen 1
      have f2 := RX.out.frozen 2
      have hltR := RX.out.lt
      go_wp2
      refine bodyPost_ret (v := .tuple #[.agg #[.int .i64 0, .int .i64 0, .slice none 0 0], .bool false]) (by simp [results, Try.results192, go_sem, q0, q1, q2]) rfl ?_
      exact ⟨.slice none 0 0, rfl, Own.nil _ _, ((HB.out.setCell (p := ⟨w.heap.size + 1, 0, none⟩) (by simp) _).setCell (p := ⟨w.heap.size + 1, 1, none⟩) (by simp) _).setCell (p := ⟨w.heap.size + 1, 2, none⟩) (by simp) _⟩
    have hnz : ((r.length : Int) == 0) = false := beq_eq_false_iff_ne.2 (by omega)
    obtain ⟨n1, hn1⟩ : ∃ n1, r.length = n1 + 1 := ⟨r.length - 1, by omega⟩
    have hlt : n1 < r.length := by omega
    obtain ⟨b, off, a, m, P, p, d9, rfl, hbl, hek, k0, k1, k2, ha, hm, hpd, hdm, hBp⟩ := (HR.out _ HB.out).at_ n1 hlt
    have hk1 : k = true := by rw [← HK.out]; unfold topOk; rw [HZ.out]; exact decide_eq_true h0
    have hv1 : V = (a, m, p) := by
      rw [← HV.out]
      unfold topV
      rw [HK.out, hk1, if_pos rfl]
      show lastE r = _
      rw [lastE_get hn1, hek]
    have hp4 : p.length ≤ 1000000 := by
      have h9 := stFit_all hfx _ (List.getElem_mem hlt)
      rw [hek] at h9
      have h8 := (edSmall_iff _ _ _).1 (show edSmall a m p = true from h9)
      omega
    have hsub : (r.length : Int) - 1 = (n1 : Int) := by omega
    have hwr : IntKind.i64.wrap (n1 : Int) = (n1 : Int) := IntWalk.i64_in _ (by omega)
    have hi0 : (0 : Int) ≤ (n1 : Int) := by omega
    have hi1 : (n1 : Int) < (r.length : Int) := by omega
    have HBP := Lib.hid hBp
    subst hk1 hv1
    clear hek hn1 hBp hpd hdm ha hm
    go_wp2_with fail
    refine (l08Edit_any a m P p d9 _ hp4 HBP.out).mono ?_
    rintro e w3 ⟨v3, rfl, hO3, hb⟩
    clear k0 k1 k2 HBP
    have BX := Lib.hid (BX.out.below hb)
    have RX := Lib.hid (RX.out.below hb)
    have HB := Lib.hid (below_then HB.out hb)
    clear hb
    obtain ⟨P, d9, rfl, _, _, _⟩ := hO3.form
    have HO := Lib.hid hO3
    clear hO3
    have RX7 := Lib.hid (show Blk ((((w3).setCell ⟨w.heap.size + 1, 0, none⟩ (.int .i64 a)).setCell ⟨w.heap.size + 1, 1, none⟩ (.int .i64 m)).setCell ⟨w.heap.size + 1, 2, none⟩ (.slice P p.length d9)) (w.heap.size + 1) #[.int .i64 a, .int .i64 m, .slice P p.length d9] 30 by simpa using ((RX.out.set 0 (.int .i64 a)).set 1 (.int .i64 m)).set 2 (.slice P p.length d9))
    have HB7 := Lib.hid (show Below w.heap.size w ((((w3).setCell ⟨w.heap.size + 1, 0, none⟩ (.int .i64 a)).setCell ⟨w.heap.size + 1, 1, none⟩ (.int .i64 m)).setCell ⟨w.heap.size + 1, 2, none⟩ (.slice P p.length d9)) from ((HB.out.setCell (p := ⟨w.heap.size + 1, 0, none⟩) (by simp) _).setCell (p := ⟨w.heap.size + 1, 1, none⟩) (by simp) _).setCell (p := ⟨w.heap.size + 1, 2, none⟩) (by simp) _)
    have HO7 := Lib.hid (((HO.out.setBelow (a := ⟨w.heap.size + 1, 0, none⟩) (by simp; omega) (.int .i64 a)).setBelow (a := ⟨w.heap.size + 1, 1, none⟩) (by simp; omega) (.int .i64 m)).setBelow (a := ⟨w.heap.size + 1, 2, none⟩) (by simp; omega) (.slice P p.length d9))
    have f0 := RX.out.frozen 0
    have f1 := RX.out.frozen 1
    have f2 := RX.out.frozen 2
    have c0 := RX.out.cell 0
    have c1 := RX.out.cell 1
    have c2 := RX.out.cell 2
    have q0 := RX7.out.cell 0
    have q1 := RX7.out.cell 1
    have q2 := RX7.out.cell 2
    go_wp2
    refine bodyPost_ret (v := .tuple #[.agg #[.int .i64 a, .int .i64 m, .slice P p.length d9], .bool true]) (by simp [results, Try.results192, go_sem, q0, q1, q2]) rfl ?_
    exact ⟨_, rfl, HO7.out.mono (by omega), HB7.out⟩

theorem topV_len (u r : List Ed) (redo : Bool) : (topV u r redo).2.2.length ≤ 1000 := by
  unfold topV
  split
  · rename_i h
    unfold topOk at h
    rw [Bool.and_eq_true] at h
    have h0 := of_decide_eq_true h.2
    have hs : stFit (sideE u r redo) = true := by
      have h9 := h.1
      unfold stOk at h9
      rw [Bool.and_eq_true] at h9
      cases redo
      · exact h9.1
      · exact h9.2
    obtain ⟨n1, hn1⟩ : ∃ n1, (sideE u r redo).length = n1 + 1 := ⟨(sideE u r redo).length - 1, by omega⟩
    rw [lastE_get hn1]
    have h7 : n1 < (sideE u r redo).length := by omega
    have h8 := (edSmall_iff _ _ _).1 (show edSmall _ _ _ = true from stFit_all hs _ (List.getElem_mem h7))
    omega
  · simp
end Go.Proofs.Ytdmmdbapkogdhaa

namespace Go.Proofs.Ytdmmdbapkogdhaa
open Go.RowKit P
set_option linter.unusedVariables false
set_option linter.unusedSimpArgs false
set_option maxRecDepth 100000

theorem bs_keeps {X Y : World} {P : Option Addr} {p : List UInt8} {B lb : Nat} {fp : List Nat} (hb : Bs X P p) (hk : Keeps (lb :: fp) X Y) (hP : 0 < p.length → ∀ q, P = some q → q.block < B ∧ q.block < lb) (hlo : ∀ k ∈ fp, B ≤ k) : Bs Y P p := by
  intro k hkl
  obtain ⟨b, off, e, hlt, hc⟩ := hb k hkl
  subst e
  obtain ⟨h1, h2⟩ := hP (by omega) _ rfl
  have hbl := hk.block b hlt (fun h => by
    rcases List.mem_cons.1 h with h | h
    · exact absurd h (Nat.ne_of_lt h2)
    · have := hlo b h
      exact absurd this (Nat.not_le.2 h1))
  refine ⟨b, off, rfl, Nat.lt_of_lt_of_le hlt hk.size, ?_⟩
  unfold World.cell? at hc ⊢
  rw [hbl]
  exact hc

set_option maxHeartbeats 8000000 in
theorem pushE_any (B lb : Nat) (v : Value) (es : List Ed) (fp : List Nat) (a m : Int) (P : Option Addr) (p : List UInt8) (d : Nat) (w : World) (hl : es.length ≤ 6) (ha : -9223372036854775808 ≤ a ∧ a ≤ 9223372036854775807) (hm : -9223372036854775808 ≤ m ∧ m ≤ 9223372036854775807) (hp4 : p.length ≤ 1000) (hP : Bs w P p) (hPB : 0 < p.length → ∀ q, P = some q → q.block < B ∧ q.block < lb) (h : Lb w B lb v es fp) :
    Calls Try.prog 121 #[.pointer (some ⟨lb, 0, none⟩), .agg #[.int .i64 a, .int .i64 m, .slice P p.length d]] w fun e w' => e = .returned (.tuple #[]) ∧ ∃ v' fp', Lb w' B lb v' (topE es (a, m, p)) fp' ∧ (∀ k ∈ fp', k ∈ fp ∨ w.heap.size ≤ k) ∧ Keeps (lb :: fp) w w' := by
  obtain ⟨A, c, rfl, hO⟩ := h.form
  have hal := (Below.refl w.heap.size w).alloc (Nat.le_refl _) (.cells #[.int .i64 a, .int .i64 m, .slice P p.length d] 30)
  have BX := Lib.hid (Blk.new w #[.int .i64 a, .int .i64 m, .slice P p.length d] 30)
  have HLT := Lib.hid h.lt
  have HPK := Lib.hid (show ∀ (X Y : World), Bs X P p → Keeps (lb :: fp) X Y → Bs Y P p from fun X Y hb hk => bs_keeps hb hk hPB h.lo)
  have hlw := h.hd.lt
  have HL := Lib.hid (h.below hal)
  have HP := Lib.hid (hP.below hal)
  have HB := Lib.hid hal
  have hzw : (w.alloc (.cells #[.int .i64 a, .int .i64 m, .slice P p.length d] 30)).heap.size ≥ w.heap.size + 1 := by simp
  clear h hP hO hal
  go_enter Try.func121, Try.ntmps121
  have q0 := HL.out.hd.cell 0
  go_wp2_with fail
  generalize w.alloc (.cells #[.int .i64 a, .int .i64 m, .slice P p.length d] 30) = W0 at *
  refine (edCount_any A es.length c _).mono ?_
  rintro e W ⟨rfl, hb⟩
  have HL := Lib.hid (HL.out.below hb)
  have HP := Lib.hid (HP.out.below hb)
  have BX := Lib.hid (BX.out.below hb)
  have HB := Lib.hid (below_then HB.out hb)
  have hzw : W.heap.size ≥ w.heap.size + 1 := Nat.le_trans hzw hb.size
  clear q0 hb
  by_cases h6 : es.length = 6
  · have hb6 : ((es.length : Int) == 6) = true := by rw [beq_iff_eq]; omega
    have hrm := Lib.hid (remove_any B lb A es c fp 0 W (by omega) (by omega) HL.out)
    go_wp2_with fail
    refine hrm.out.mono ?_
    rintro e w1 ⟨rfl, v1, fp1, hL1, hs1, hk1⟩
    have hd1 : es.take 0 ++ es.drop (0 + 1) = es.drop 1 := by simp
    rw [hd1] at hL1
    have HTP := Lib.hid (topE_full (e := (a, m, p)) h6)
    have BX := Lib.hid (BX.out.of_block (hk1.block _ BX.out.lt (fun h => by
      rcases List.mem_cons.1 h with h | h
      · omega
      · have := HLT.out _ h; omega)))
    have HLK := Lib.hid (fun k hk => HLT.out k (hs1 k hk))
    have HP := Lib.hid (HPK.out _ _ HP.out hk1)
    have hl5 : (es.drop 1).length ≤ 1000 := by rw [List.length_drop]; omega
    have HL := Lib.hid hL1
    have HS1 := Lib.hid hs1
    have HK1 := Lib.hid hk1
    have hzw : w1.heap.size ≥ w.heap.size + 1 := Nat.le_trans hzw hk1.size
    have zb := BX.out.lt
    have p0 := BX.out.cell 0
    have p1 := BX.out.cell 1
    have p2 := BX.out.cell 2
    clear hL1 hs1 hk1 hd1 hrm
    have HLT := HLK
    go_wp2_with fail
    refine wp_region_held_drew (S := (fun V => V.cell? ⟨w.heap.size, 0, none⟩ = some (.int .i64 a) ∧ V.cell? ⟨w.heap.size, 1, none⟩ = some (.int .i64 m) ∧ V.cell? ⟨w.heap.size, 2, none⟩ = some (.slice P p.length d))) (by kernel_rfl) (by exact ⟨p0, p1, p2⟩) (fun hHeld => ?_)
    refine wpAnyH_take (i := 0) (oi := ?_) (v := ?_) ?_ ?_ ?_ ?_ ?_ ?_ (by exact hHeld) ?_
    rotate_left 2
    · (simp only [List.getElem?_toArray, List.getElem?_cons_zero]; try rfl)
    · kernel_rfl
    · kernel_rfl
    · kernel_rfl
    · exact fun _ _ _ h => h
    · refine Or.inl ⟨by rfl, ?_⟩
      (intro V hSV; (try dsimp only at hSV); obtain ⟨q0, q1, q2⟩ := hSV; go_simp; try with_reducible rfl)
    (try simp only [Act.put, List.setIfInBounds_toArray, List.set_cons_zero, List.set_cons_succ])
    refine wpAnyH_take (i := 1) (oi := ?_) (v := ?_) ?_ ?_ ?_ ?_ ?_ ?_ (by exact hHeld) ?_
    rotate_left 2
    · (simp only [List.getElem?_toArray, List.getElem?_cons_zero, List.getElem?_cons_succ]; try rfl)
    · kernel_rfl
    · kernel_rfl
    · kernel_rfl
    · exact fun _ _ _ h => h
    · refine Or.inl ⟨by rfl, ?_⟩
      (intro V hSV; (try dsimp only at hSV); obtain ⟨q0, q1, q2⟩ := hSV; go_simp; try with_reducible rfl)
    (try simp only [Act.put, List.setIfInBounds_toArray, List.set_cons_zero, List.set_cons_succ])
    refine wpAnyH_take (i := 2) (oi := ?_) (v := ?_) ?_ ?_ ?_ ?_ ?_ ?_ (by exact hHeld) ?_
    rotate_left 2
    · (simp only [List.getElem?_toArray, List.getElem?_cons_zero, List.getElem?_cons_succ]; try rfl)
    · kernel_rfl
    · kernel_rfl
    · kernel_rfl
    · exact fun _ _ _ h => h
    · refine Or.inl ⟨by rfl, ?_⟩
      (intro V hSV; (try dsimp only at hSV); obtain ⟨q0, q1, q2⟩ := hSV; go_simp; try with_reducible rfl)
    (try simp only [Act.put, List.setIfInBounds_toArray, List.set_cons_zero, List.set_cons_succ])
    refine wpAnyH_take (i := 3) (oi := ?_) (v := ?_) ?_ ?_ ?_ ?_ ?_ ?_ (by exact hHeld) ?_
    rotate_left 2
    · (simp only [List.getElem?_toArray, List.getElem?_cons_zero, List.getElem?_cons_succ]; try rfl)
    · kernel_rfl
    · kernel_rfl
    · kernel_rfl
    · exact fun _ _ _ h => h
    · refine Or.inl ⟨by rfl, ?_⟩
      (intro V hSV; (try dsimp only at hSV); obtain ⟨q0, q1, q2⟩ := hSV; go_simp; try with_reducible rfl)
    (try simp only [Act.put, List.setIfInBounds_toArray, List.set_cons_zero, List.set_cons_succ])
    refine wpAnyH_ready (rs := [4]) (by kernel_rfl) (by simp) ?_
    refine AllReadyH.cons rfl (fun K hK => ?_) AllReadyH.nil
    go_simp
    refine (add_any B lb v1 (es.drop 1) fp1 a m P p d _ (by first | omega | (simp; omega)) ha hm hp4 (by exact HP.out) (by have h9 := HL.out; exact ⟨h9.hd, h9.ow, h9.nd, h9.ne, h9.lo, h9.hB⟩)).mono ?_
    rintro e w8 ⟨rfl, v8, fp8, hL8, hs8, hk8⟩
    have hL8 : Lb w8 B lb v8 ((es.drop 1) ++ [(a, m, p)]) fp8 := hL8
    have hk8 : Keeps (lb :: fp1) w1 w8 := ⟨hk8.os, hk8.tape, hk8.output, hk8.size, hk8.block⟩
    have hbx8 := BX.out.of_block (hk8.block _ BX.out.lt (fun h => by
      rcases List.mem_cons.1 h with h | h
      · omega
      · have := HLT.out _ h; omega))
    go_wp2_with fail
    refine hK.out _ _ (by exact ⟨(hbx8).cell 0, (hbx8).cell 1, (hbx8).cell 2⟩) (fun hHeld => ?_)
    clear hK K
    (try simp only [Act.put, List.setIfInBounds_toArray, List.set_cons_zero, List.set_cons_succ])
    refine wpAnyH_done (by kernel_rfl) ?_ _
    clear hHeld p0 p1 p2
    rw [← HTP.out] at hL8
    have HL8 := Lib.hid hL8
    have hsf : ∀ k ∈ fp8, k ∈ fp ∨ w.heap.size ≤ k := fun k hk => by
      rcases hs8 k hk with h | h
      · exact .inl (HS1.out k h)
      · right; have h9 : w1.heap.size ≤ k := h; omega
    have hkk := (Keeps.of_below (fp := lb :: fp) HB.out).trans (HK1.out.trans (hk8.mono (fq := lb :: fp) (fun k hk => by
      rcases List.mem_cons.1 hk with h | h
      · exact List.mem_cons.2 (.inl h)
      · exact List.mem_cons.2 (.inr (HS1.out k h)))))
    clear hL8 hbx8 hk8
    go_wp2
    go_end0
    exact ⟨rfl, _, _, HL8.out, hsf, hkk⟩
  · have hb6 : ((es.length : Int) == 6) = false := beq_eq_false_iff_ne.2 (by omega)
    have HTP := Lib.hid (topE_room (e := (a, m, p)) (show es.length < 6 by omega))
    have zb := BX.out.lt
    have p0 := BX.out.cell 0
    have p1 := BX.out.cell 1
    have p2 := BX.out.cell 2
    go_wp2_with fail
    refine wp_region_held_drew (S := (fun V => V.cell? ⟨w.heap.size, 0, none⟩ = some (.int .i64 a) ∧ V.cell? ⟨w.heap.size, 1, none⟩ = some (.int .i64 m) ∧ V.cell? ⟨w.heap.size, 2, none⟩ = some (.slice P p.length d))) (by kernel_rfl) (by exact ⟨p0, p1, p2⟩) (fun hHeld => ?_)
    refine wpAnyH_take (i := 0) (oi := ?_) (v := ?_) ?_ ?_ ?_ ?_ ?_ ?_ (by exact hHeld) ?_
    rotate_left 2
    · (simp only [List.getElem?_toArray, List.getElem?_cons_zero]; try rfl)
    · kernel_rfl
    · kernel_rfl
    · kernel_rfl
    · exact fun _ _ _ h => h
    · refine Or.inl ⟨by rfl, ?_⟩
      (intro V hSV; (try dsimp only at hSV); obtain ⟨q0, q1, q2⟩ := hSV; go_simp; try with_reducible rfl)
    (try simp only [Act.put, List.setIfInBounds_toArray, List.set_cons_zero, List.set_cons_succ])
    refine wpAnyH_take (i := 1) (oi := ?_) (v := ?_) ?_ ?_ ?_ ?_ ?_ ?_ (by exact hHeld) ?_
    rotate_left 2
    · (simp only [List.getElem?_toArray, List.getElem?_cons_zero, List.getElem?_cons_succ]; try rfl)
    · kernel_rfl
    · kernel_rfl
    · kernel_rfl
    · exact fun _ _ _ h => h
    · refine Or.inl ⟨by rfl, ?_⟩
      (intro V hSV; (try dsimp only at hSV); obtain ⟨q0, q1, q2⟩ := hSV; go_simp; try with_reducible rfl)
    (try simp only [Act.put, List.setIfInBounds_toArray, List.set_cons_zero, List.set_cons_succ])
    refine wpAnyH_take (i := 2) (oi := ?_) (v := ?_) ?_ ?_ ?_ ?_ ?_ ?_ (by exact hHeld) ?_
    rotate_left 2
    · (simp only [List.getElem?_toArray, List.getElem?_cons_zero, List.getElem?_cons_succ]; try rfl)
    · kernel_rfl
    · kernel_rfl
    · kernel_rfl
    · exact fun _ _ _ h => h
    · refine Or.inl ⟨by rfl, ?_⟩
      (intro V hSV; (try dsimp only at hSV); obtain ⟨q0, q1, q2⟩ := hSV; go_simp; try with_reducible rfl)
    (try simp only [Act.put, List.setIfInBounds_toArray, List.set_cons_zero, List.set_cons_succ])
    refine wpAnyH_take (i := 3) (oi := ?_) (v := ?_) ?_ ?_ ?_ ?_ ?_ ?_ (by exact hHeld) ?_
    rotate_left 2
    · (simp only [List.getElem?_toArray, List.getElem?_cons_zero, List.getElem?_cons_succ]; try rfl)
    · kernel_rfl
    · kernel_rfl
    · kernel_rfl
    · exact fun _ _ _ h => h
    · refine Or.inl ⟨by rfl, ?_⟩
      (intro V hSV; (try dsimp only at hSV); obtain ⟨q0, q1, q2⟩ := hSV; go_simp; try with_reducible rfl)
    (try simp only [Act.put, List.setIfInBounds_toArray, List.set_cons_zero, List.set_cons_succ])
    refine wpAnyH_ready (rs := [4]) (by kernel_rfl) (by simp) ?_
    refine AllReadyH.cons rfl (fun K hK => ?_) AllReadyH.nil
    go_simp
    refine (add_any B lb (.slice A es.length c) es fp a m P p d _ (by first | omega | (simp; omega)) ha hm hp4 (by exact HP.out) (by have h9 := HL.out; exact ⟨h9.hd, h9.ow, h9.nd, h9.ne, h9.lo, h9.hB⟩)).mono ?_
    rintro e w8 ⟨rfl, v8, fp8, hL8, hs8, hk8⟩
    have hL8 : Lb w8 B lb v8 (es ++ [(a, m, p)]) fp8 := hL8
    have hk8 : Keeps (lb :: fp) W w8 := ⟨hk8.os, hk8.tape, hk8.output, hk8.size, hk8.block⟩
    have hbx8 := BX.out.of_block (hk8.block _ BX.out.lt (fun h => by
      rcases List.mem_cons.1 h with h | h
      · omega
      · have := HLT.out _ h; omega))
    go_wp2_with fail
    refine hK.out _ _ (by exact ⟨(hbx8).cell 0, (hbx8).cell 1, (hbx8).cell 2⟩) (fun hHeld => ?_)
    clear hK K
    (try simp only [Act.put, List.setIfInBounds_toArray, List.set_cons_zero, List.set_cons_succ])
    refine wpAnyH_done (by kernel_rfl) ?_ _
    clear hHeld p0 p1 p2
    rw [← HTP.out] at hL8
    have HL8 := Lib.hid hL8
    have hsf : ∀ k ∈ fp8, k ∈ fp ∨ w.heap.size ≤ k := fun k hk => by
      rcases hs8 k hk with h | h
      · exact .inl h
      · right; have h9 : W.heap.size ≤ k := h; omega
    have hkk := (Keeps.of_below (fp := lb :: fp) HB.out).trans hk8
    clear hL8 hbx8 hk8
    go_wp2
    go_end0
    exact ⟨rfl, _, _, HL8.out, hsf, hkk⟩

set_option maxHeartbeats 8000000 in
theorem popE_any (B lb : Nat) (v : Value) (es : List Ed) (fp : List Nat) (w : World) (hl : es.length ≤ 6) (h : Lb w B lb v es fp) :
    Calls Try.prog 125 #[.pointer (some ⟨lb, 0, none⟩)] w fun e w' => e = .returned (.bool (decide (0 < es.length))) ∧ ∃ v' fp', Lb w' B lb v' (es.take (es.length - 1)) fp' ∧ (∀ k ∈ fp', k ∈ fp) ∧ Keeps (lb :: fp) w w' := by
  obtain ⟨A, c, rfl, hO⟩ := h.form
  have HL := Lib.hid h
  clear h hO
  have q0 : w.cell? ⟨lb, 0, none⟩ = some (.slice A es.length c) := HL.out.hd.cell 0
  go_enter Try.func125, Try.ntmps125
  go_wp2_with fail
  refine (edCount_any A es.length c _).mono ?_
  rintro e W ⟨rfl, hb⟩
  have HL := Lib.hid (HL.out.below hb)
  have HB := Lib.hid hb
  clear q0 hb
  by_cases h0 : es.length = 0
  · have hb6 : ((es.length : Int) == 0) = true := by rw [beq_iff_eq]; omega
    have he : es = [] := List.eq_nil_of_length_eq_zero h0
    have hkk := Keeps.of_below (fp := lb :: fp) HB.out
    have HE := Lib.hid he
    clear he
    go_wp2
    go_ret
    refine ⟨ret_bool (by rw [decide_eq_false (by omega)]), .slice A es.length c, fp, ?_, (fun k (hk : k ∈ fp) => hk), hkk⟩
    have h9 := HL.out
    rw [show es.take (es.length - 1) = es by rw [HE.out]; rfl]
    exact h9
  · have hb6 : ((es.length : Int) == 0) = false := beq_eq_false_iff_ne.2 (by omega)
    obtain ⟨n1, hn1⟩ : ∃ n1, es.length = n1 + 1 := ⟨es.length - 1, by omega⟩
    have hsub : (es.length : Int) - 1 = (n1 : Int) := by omega
    have hwr : IntKind.i64.wrap (n1 : Int) = (n1 : Int) := IntWalk.i64_in _ (by omega)
    have HTK := Lib.hid (show es.take n1 ++ es.drop (n1 + 1) = es.take (es.length - 1) by rw [← hn1, List.drop_length, List.append_nil]; congr 1; omega)
    have zl := HL.out.hd.lt
    have q0 : W.cell? ⟨lb, 0, none⟩ = some (.slice A es.length c) := HL.out.hd.cell 0
    have hn1l : n1 < es.length := by omega
    have HN := Lib.hid hn1
    clear hn1
    go_wp2_with fail
    refine wp_region_held_drew (S := (fun V => True)) (by kernel_rfl) (by exact trivial) (fun hHeld => ?_)
    refine wpAnyH_take (i := 0) (oi := ?_) (v := ?_) ?_ ?_ ?_ ?_ ?_ ?_ (by exact hHeld) ?_
    rotate_left 2
    · (simp only [List.getElem?_toArray, List.getElem?_cons_zero]; try rfl)
    · kernel_rfl
    · kernel_rfl
    · kernel_rfl
    · exact fun _ _ _ h => h
    · refine Or.inl ⟨by rfl, ?_⟩
      (intro V hSV; (try dsimp only at hSV); obtain ⟨⟩ := hSV; go_simp; try with_reducible rfl)
    (try simp only [Act.put, List.setIfInBounds_toArray, List.set_cons_zero, List.set_cons_succ])
    refine wpAnyH_take (i := 1) (oi := ?_) (v := ?_) ?_ ?_ ?_ ?_ ?_ ?_ (by exact hHeld) ?_
    rotate_left 2
    · (simp only [List.getElem?_toArray, List.getElem?_cons_zero, List.getElem?_cons_succ]; try rfl)
    · kernel_rfl
    · kernel_rfl
    · kernel_rfl
    · exact fun _ _ _ h => h
    · refine Or.inl ⟨by rfl, ?_⟩
      (intro V hSV; (try dsimp only at hSV); obtain ⟨⟩ := hSV; go_simp; try with_reducible rfl)
    (try simp only [Act.put, List.setIfInBounds_toArray, List.set_cons_zero, List.set_cons_succ])
    refine wpAnyH_take (i := 2) (oi := ?_) (v := ?_) ?_ ?_ ?_ ?_ ?_ ?_ (by exact hHeld) ?_
    rotate_left 2
    · (simp only [List.getElem?_toArray, List.getElem?_cons_zero, List.getElem?_cons_succ]; try rfl)
    · kernel_rfl
    · kernel_rfl
    · kernel_rfl
    · exact fun _ _ _ h => h
    · refine Or.inl ⟨by rfl, ?_⟩
      (intro V hSV; (try dsimp only at hSV); obtain ⟨⟩ := hSV; go_simp; try with_reducible rfl)
    (try simp only [Act.put, List.setIfInBounds_toArray, List.set_cons_zero, List.set_cons_succ])
    refine wpAnyH_take (i := 3) (oi := ?_) (v := ?_) ?_ ?_ ?_ ?_ ?_ ?_ (by exact hHeld) ?_
    rotate_left 2
    · (simp only [List.getElem?_toArray, List.getElem?_cons_zero, List.getElem?_cons_succ]; try rfl)
    · kernel_rfl
    · kernel_rfl
    · kernel_rfl
    · exact fun _ _ _ h => h
    · refine Or.inl ⟨by rfl, ?_⟩
      (intro V hSV; (try dsimp only at hSV); obtain ⟨⟩ := hSV; go_simp; try with_reducible rfl)
    (try simp only [Act.put, List.setIfInBounds_toArray, List.set_cons_zero, List.set_cons_succ])
    refine wpAnyH_take (i := 4) (oi := ?_) (v := ?_) ?_ ?_ ?_ ?_ ?_ ?_ (by exact hHeld) ?_
    rotate_left 2
    · (simp only [List.getElem?_toArray, List.getElem?_cons_zero, List.getElem?_cons_succ]; try rfl)
    · kernel_rfl
    · kernel_rfl
    · kernel_rfl
    · exact fun _ _ _ h => h
    · refine Or.inl ⟨by rfl, ?_⟩
      (intro V hSV; (try dsimp only at hSV); obtain ⟨⟩ := hSV; go_simp; try with_reducible rfl)
    (try simp only [Act.put, List.setIfInBounds_toArray, List.set_cons_zero, List.set_cons_succ])
    refine wpAnyH_take (i := 5) (oi := ?_) (v := ?_) ?_ ?_ ?_ ?_ ?_ ?_ (by exact hHeld) ?_
    rotate_left 2
    · (simp only [List.getElem?_toArray, List.getElem?_cons_zero, List.getElem?_cons_succ]; try rfl)
    · kernel_rfl
    · kernel_rfl
    · kernel_rfl
    · exact fun _ _ _ h => h
    · refine Or.inl ⟨by rfl, ?_⟩
      (intro V hSV; (try dsimp only at hSV); obtain ⟨⟩ := hSV; go_simp; try with_reducible rfl)
    (try simp only [Act.put, List.setIfInBounds_toArray, List.set_cons_zero, List.set_cons_succ])
    refine wpAnyH_ready (rs := [6]) (by kernel_rfl) (by simp) ?_
    refine AllReadyH.cons (o := ?_) ?_ (fun K hK => ?_) AllReadyH.nil
    rotate_left 1
    · (simp only [List.getElem?_toArray, List.getElem?_cons_zero, List.getElem?_cons_succ]; try rfl)
    go_simp
    refine hK.out _ _ (by exact trivial) (fun hHeld => ?_)
    clear hK K
    (try simp only [Act.put, List.setIfInBounds_toArray, List.set_cons_zero, List.set_cons_succ])
    refine wpAnyH_ready (rs := [7]) (by kernel_rfl) (by simp) ?_
    refine AllReadyH.cons rfl (fun K hK => ?_) AllReadyH.nil
    go_simp
    refine (edCount_any A es.length c _).mono ?_
    rintro e w7 ⟨rfl, hb7⟩
    have hb7 : Below W.heap.size W w7 := ⟨hb7.os, hb7.tape, hb7.output, hb7.size, hb7.block⟩
    have HL7 := Lib.hid (HL.out.below hb7)
    go_wp2_with fail
    refine hK.out _ _ (by exact trivial) (fun hHeld => ?_)
    clear hK K
    (try simp only [Act.put, List.setIfInBounds_toArray, List.set_cons_zero, List.set_cons_succ])
    refine wpAnyH_take (i := 8) (oi := ?_) (v := ?_) ?_ ?_ ?_ ?_ ?_ ?_ (by exact hHeld) ?_
    rotate_left 2
    · (simp only [List.getElem?_toArray, List.getElem?_cons_zero, List.getElem?_cons_succ]; try rfl)
    · kernel_rfl
    · kernel_rfl
    · kernel_rfl
    · exact fun _ _ _ h => h
    · refine Or.inl ⟨by rfl, ?_⟩
      (intro V hSV; (try dsimp only at hSV); obtain ⟨⟩ := hSV; go_simp; try with_reducible rfl)
    (try simp only [Act.put, List.setIfInBounds_toArray, List.set_cons_zero, List.set_cons_succ])
    refine wpAnyH_ready (rs := [9]) (by kernel_rfl) (by simp) ?_
    refine AllReadyH.cons rfl (fun K hK => ?_) AllReadyH.nil
    go_simp
    refine (remove_any B lb A es c fp n1 _ (by omega) hn1l HL7.out).mono ?_
    rintro e w8 ⟨rfl, v8, fp8, hL8, hs8, hk8⟩
    have hk8 : Keeps (lb :: fp) W w8 := (Keeps.of_below hb7).trans hk8
    go_wp2_with fail
    refine hK.out _ _ (by exact trivial) (fun hHeld => ?_)
    clear hK K
    (try simp only [Act.put, List.setIfInBounds_toArray, List.set_cons_zero, List.set_cons_succ])
    refine wpAnyH_done (by kernel_rfl) ?_ _
    rw [HTK.out] at hL8
    have HL8 := Lib.hid hL8
    have hkk := (Keeps.of_below (fp := lb :: fp) HB.out).trans hk8
    clear hL8 hk8
    go_wp2
    go_ret
    exact ⟨ret_bool (by rw [decide_eq_true (by have := HN.out; omega)]), _, _, HL8.out, hs8, hkk⟩
end Go.Proofs.Ytdmmdbapkogdhaa
