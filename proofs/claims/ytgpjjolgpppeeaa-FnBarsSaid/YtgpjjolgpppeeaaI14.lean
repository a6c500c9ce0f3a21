/-
  Chapter 7, slices.Delete of one lease, LeaseDrop in the program: contracts. Own work.
-/
import Derived.Test.YtgpjjolgpppeeaaI12
import Derived.Test.YtgpjjolgpppeeaaI13
import Derived.Test.YtgpjjolgpppeeaaS12
namespace Go.Proofs.Ytgpjjolgpppeeaa
open Go.RowKit P
set_option linter.unusedVariables false
set_option linter.unusedSimpArgs false
set_option maxRecDepth 100000

theorem slcLe_from (g n c j : Nat) (hj : j ≤ n) (hc : n ≤ c) (hc9 : c ≤ maxLen) : ∀ W, (Instr.slice 35 (.slice (some ⟨g, 0, none⟩) n c) (some (.int .i64 (j : Int))) none none).run Try.prog W = .ok (.slice (some (if c = j then ⟨g, 0, none⟩ else ⟨g, j * 4, none⟩)) (n - j) (c - j)) W := by
  intro W
  unfold maxLen at hc9
  have hz : ∀ W, (Go.sizeOf 43).run Try.prog W = .ok 4 W := fun W => by kernel_rfl
  have ht' : Try.prog.underlying 35 = some (.slice (Try.prog.elem 35)) := by simp [Program.elem, Try.underlying35]
  have he : Try.prog.elem 35 = 43 := by simp [Program.elem, Try.underlying35]
  rw [run_slice_l W 35 _ _ _ ht' .i64 _ (by omega) (by omega), he, hz]
  by_cases h0 : c = j
  · simp [Result.andThen, sliced, h0]
  · by_cases h1 : j = 0
    · subst h1; simp [Result.andThen, sliced, Addr.add, h0]
    · have h2 : ¬ j * 4 = 0 := by omega
      simp [Result.andThen, sliced, Addr.add, h0, h1, h2]
theorem slcLe_three (g n c i : Nat) (hi : i < n) (hc : n ≤ c) (hc9 : c ≤ maxLen) : ∃ u, ∀ W, (Instr.slice 35 (.slice (some ⟨g, 0, none⟩) n c) (some (.int .i64 (i : Int))) (some (.int .i64 ((i : Int) + 1))) (some (.int .i64 (n : Int)))).run Try.prog W = .ok u W := by
  unfold maxLen at hc9
  have hz : ∀ W, (Go.sizeOf 43).run Try.prog W = .ok 4 W := fun W => by kernel_rfl
  have ht' : Try.prog.underlying 35 = some (.slice (Try.prog.elem 35)) := by simp [Program.elem, Try.underlying35]
  have he : Try.prog.elem 35 = 43 := by simp [Program.elem, Try.underlying35]
  refine ⟨sliced (some ⟨g, 0, none⟩) ((i : Int)).toNat ((i : Int) + 1).toNat ((n : Int)).toNat 4, fun W => ?_⟩
  rw [run_slice_lhm W 35 _ _ _ ht' .i64 .i64 .i64 _ _ _ (by omega) (by omega) (by omega) (by omega), he, hz]
  rfl
theorem slcLe_lh (g n c l h : Nat) (hl : l < h) (hh : h ≤ c) (hc9 : c ≤ maxLen) : ∀ W, (Instr.slice 35 (.slice (some ⟨g, 0, none⟩) n c) (some (.int .i64 (l : Int))) (some (.int .i64 (h : Int))) none).run Try.prog W = .ok (.slice (some ⟨g, l * 4, none⟩) (h - l) (c - l)) W := by
  intro W
  unfold maxLen at hc9
  have hz : ∀ W, (Go.sizeOf 43).run Try.prog W = .ok 4 W := fun W => by kernel_rfl
  have ht' : Try.prog.underlying 35 = some (.slice (Try.prog.elem 35)) := by simp [Program.elem, Try.underlying35]
  have he : Try.prog.elem 35 = 43 := by simp [Program.elem, Try.underlying35]
  rw [run_slice_lh W 35 _ _ _ ht' .i64 .i64 _ _ (by omega) (by omega) (by omega), he, hz]
  have h0 : ¬ c = l := by omega
  by_cases h1 : l = 0
  · subst h1; simp [Result.andThen, sliced, Addr.add, h0]
  · have h2 : ¬ l * 4 = 0 := by omega
    simp [Result.andThen, sliced, Addr.add, h0, h1, h2]

theorem step_run_app {w : World} {ops : Array Oper} {o : Oper} {a : Act} {K : Act → World → Prop} {Q : Exit → Act → World → Prop} {X : Prop} (hgd : o.guard = none) (s x : Operand)
    (ho : o.op = .call { callee := .builtin .append, args := #[s, x], argTypes := #[35, 35] })
    (v y : Value) (hs : a.eval s = v) (hx : a.eval x = y) {v' : Value} {w' : World} (hrun : (Builtin.append_ #[35, 35] o.type #[v, y]).run Try.prog w = .ok v' w') (h : K (a.put o.dst v') w') :
    if Region.wanted o (yielded ops a.tmps) = true then Oper.wp Try.prog o a w K Q else X := by
  have hw : Region.wanted o (yielded ops a.tmps) = true := by simp [Region.wanted, hgd]
  rw [if_pos hw]
  unfold Oper.wp execOp
  simp only [ho, resolve, invoke, builtin, Sem.run_bind, Sem.run_pure, Result.andThen_ok, List.map_toArray, List.map_cons, List.map_nil, hs, hx, hrun]
  exact h

/-- The append that closes the gap of one lease. -/
theorem run_gap {W : World} {g cap i : Nat} {cur : Array Value} {es : List Le} (hB : Blk W g cur 43) (hs : cur.size = cap * 4) (hn : es.length ≤ cap) (ht : cur.toList.take (es.length * 4) = es.flatMap leCl) (hi : i < es.length) :
    ∃ W1 cur1, (∀ ty c', (Builtin.append_ #[35, 35] ty #[.slice (some ⟨g, 0, none⟩) i cap, .slice (some (if cap = i + 1 then ⟨g, 0, none⟩ else ⟨g, (i + 1) * 4, none⟩)) (es.length - (i + 1)) c']).run Try.prog W = .ok (.slice (some ⟨g, 0, none⟩) (es.length - 1) cap) W1) ∧
      Blk W1 g cur1 43 ∧ cur1.size = cur.size ∧ cur1.toList.take ((es.length - 1) * 4) = (es.take i ++ es.drop (i + 1)).flatMap leCl ∧ Keeps [g] W W1 := by
  obtain ⟨inf, hif, hz, hsz, hby⟩ := info_parts Try.infoLe
  have hfl := leCl_flat es
  have hd : ((es.drop (i + 1)).flatMap leCl).length = (es.length - (i + 1)) * 4 := by rw [leCl_flat, List.length_drop]
  have hsplit : es.flatMap leCl = (es.take (i + 1)).flatMap leCl ++ (es.drop (i + 1)).flatMap leCl := by rw [← List.flatMap_append, List.take_append_drop]
  have ht1 : ((es.take (i + 1)).flatMap leCl).length = (i + 1) * 4 := by rw [leCl_flat, List.length_take]; omega
  have hget : ∀ j u, ((es.drop (i + 1)).flatMap leCl)[j]? = some u → cur[(i + 1) * 4 + j]? = some u := by
    intro j u hu
    have hj : j < (es.length - (i + 1)) * 4 := by
      have := (List.getElem?_eq_some_iff.1 hu).1
      omega
    have h9 : (es.flatMap leCl)[(i + 1) * 4 + j]? = some u := by
      rw [hsplit, List.getElem?_append_right (by omega), ht1, Nat.add_sub_cancel_left]
      exact hu
    rw [← ht, List.getElem?_take, if_pos (by omega)] at h9
    simpa using h9
  have hnews : ∀ j u, ((es.drop (i + 1)).flatMap leCl)[j]? = some u → W.cell? ((if cap = i + 1 then (⟨g, 0, none⟩ : Addr) else ⟨g, (i + 1) * 4, none⟩).add j) = some u := by
    intro j u hu
    have hj : j < (es.length - (i + 1)) * 4 := by
      have := (List.getElem?_eq_some_iff.1 hu).1
      omega
    rw [if_neg (by omega), add_plain, hB.cell]
    exact hget j u hu
  have hr := fun ty c' => run_append_room (P := Try.prog) W 35 ty 43 inf Try.underlying35 hif g i cap cur hB (if cap = i + 1 then (⟨g, 0, none⟩ : Addr) else ⟨g, (i + 1) * 4, none⟩) (es.length - (i + 1)) c' ((es.drop (i + 1)).flatMap leCl) (by rw [hd, hsz]) hnews (leCl_one _) (by omega) (by rw [hd, hsz]; omega)
  rw [show i + (es.length - (i + 1)) = es.length - 1 by omega] at hr
  refine ⟨_, _, hr, setRow_heap W g cur _ 43 _ hB, ?_, ?_, ?_⟩
  · rw [List.size_toArray, List.length_append, List.length_append, List.length_take, List.length_drop, hd, hsz, Array.length_toList]
    omega
  · rw [hsz, List.flatMap_append]
    have e1 : cur.toList.take (i * 4) = (es.take i).flatMap leCl := by
      have h9 : (cur.toList.take (es.length * 4)).take (i * 4) = (es.flatMap leCl).take (i * 4) := by rw [ht]
      rw [List.take_take, Nat.min_eq_left (by omega)] at h9
      rw [h9]
      have h8 : es.flatMap leCl = (es.take i).flatMap leCl ++ (es.drop i).flatMap leCl := by rw [← List.flatMap_append, List.take_append_drop]
      rw [h8, List.take_append_of_le_length (by rw [leCl_flat, List.length_take]; omega), List.take_of_length_le (by rw [leCl_flat, List.length_take]; omega)]
    rw [e1]
    simp only [List.toList_toArray]
    rw [List.take_append_of_le_length (by rw [List.length_append, leCl_flat, leCl_flat, List.length_take, List.length_drop]; omega), List.take_of_length_le (by rw [List.length_append, leCl_flat, leCl_flat, List.length_take, List.length_drop]; omega)]
  · exact ⟨rfl, rfl, rfl, by rw [Go.setRow_size]; exact Nat.le_refl _, fun k _ hk => Go.setRow_other W g k _ (fun e => hk (by rw [e]; simp))⟩

/-- What LeaseDrop gives. -/
def Drops (es : List Le) (l : Le) (w : World) (e : Ending) (w' : World) : Prop := ∃ v, e = .returned (.tuple #[v, .int .i64 (dropN es l)]) ∧ OwR w' w.heap.size v (dropL es l) ∧ Below w.heap.size w w'
theorem drop_bad {es : List Le} {l : Le} (h : (leOk es && leRight l) = false) : dropL es l = [] ∧ dropN es l = 1 := by
  unfold dropL dropN
  rw [h]
  exact ⟨rfl, rfl⟩
theorem drop_none {es : List Le} {l : Le} (h : (leOk es && leRight l) = true) (h2 : ¬ keyIx es l < es.length) : dropL es l = [] ∧ dropN es l = 5 := by
  unfold dropL dropN
  rw [if_pos h, if_pos h, if_neg h2, if_neg h2]
  exact ⟨rfl, rfl⟩
theorem drop_fine {es : List Le} {l : Le} (h : (leOk es && leRight l) = true) (h2 : keyIx es l < es.length) : dropL es l = es.take (keyIx es l) ++ es.drop (keyIx es l + 1) ∧ dropN es l = 0 := by
  unfold dropL dropN
  rw [if_pos h, if_pos h, if_pos h2, if_pos h2]
  exact ⟨rfl, rfl⟩

end Go.Proofs.Ytgpjjolgpppeeaa
