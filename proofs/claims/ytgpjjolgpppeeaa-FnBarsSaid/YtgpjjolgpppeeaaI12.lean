/-
  Chapter 7, slices.DeleteFunc on leases, LeaseAll in the program: contracts. Own work.
-/
import Derived.Test.YtgpjjolgpppeeaaI11
import Derived.Laws.CopyRow
namespace Go.Proofs.Ytgpjjolgpppeeaa
open Go.RowKit P
set_option linter.unusedVariables false
set_option linter.unusedSimpArgs false
set_option maxRecDepth 100000

/-- The size of a block of leases. -/
def SzB (w : World) (g N : Nat) : Prop := ∃ cur, Blk w g cur 43 ∧ cur.size = N
theorem SzB.below {w w' : World} {g N : Nat} (h : SzB w g N) (hb : Below w.heap.size w w') : SzB w' g N := by
  obtain ⟨cur, h1, h2⟩ := h
  exact ⟨cur, h1.below hb, h2⟩
theorem SzB.set {w : World} {g N : Nat} (h : SzB w g N) (i : Nat) (u : Value) : SzB (w.setCell ⟨g, i, none⟩ u) g N := by
  obtain ⟨cur, h1, h2⟩ := h
  exact ⟨_, h1.set i u, by simpa using h2⟩

/-- A front part of a row, as a slice of the call's own. -/
theorem own_of_row {w : World} {g cap i base : Nat} {R L : List Le} (h : RowL w g R) (hs : SzB w g (cap * 4)) (hb : base ≤ g) (hi : i ≤ R.length) (hL : R.take i = L) (hin : ∀ l ∈ R, leIn l) (hc : R.length ≤ cap) (hm : cap ≤ maxLen) :
    OwR w base (.slice (some ⟨g, 0, none⟩) i cap) L := by
  obtain ⟨cur, h1, h2⟩ := hs
  obtain ⟨cur', h3, h4, h5⟩ := h
  have e : cur' = cur := by
    unfold Blk at h1 h3
    rw [h1] at h3
    injection h3 with h3
    injection h3 with h3
    exact h3.symm
  subst e
  have hLl : L.length = i := by rw [← hL, List.length_take]; omega
  refine ⟨⟨by rw [leCl_flat], .inr ⟨g, cap, cur', by rw [hLl], hb, h1, by omega, hm, h2, ?_⟩⟩, fun l hl => hin l (by rw [← hL] at hl; exact List.mem_of_mem_take hl)⟩
  apply List.ext_getElem?
  intro j
  rw [List.getElem?_take]
  by_cases hj : j < L.length * 4
  · rw [if_pos hj]
    have hk : j / 4 < L.length := by omega
    have hkR : j / 4 < R.length := by omega
    have hg := leCl_get L (j / 4) hk (j % 4) (by omega)
    rw [show j / 4 * 4 + j % 4 = j by omega] at hg
    rw [hg]
    have heq : L[j / 4] = R[j / 4] := by simp only [← hL, List.getElem_take]
    rw [heq]
    obtain ⟨c0, c1, c2, c3⟩ := h5 (j / 4) hkR
    simp only [Array.getElem?_toList]
    have h4 : j % 4 = 0 ∨ j % 4 = 1 ∨ j % 4 = 2 ∨ j % 4 = 3 := by omega
    rcases h4 with h4 | h4 | h4 | h4
    · rw [h4]; rw [show cur'[j]? = cur'[j / 4 * 4]? by congr 1; omega, c0]; rfl
    · rw [h4]; rw [show cur'[j]? = cur'[j / 4 * 4 + 1]? by congr 1; omega, c1]; rfl
    · rw [h4]; rw [show cur'[j]? = cur'[j / 4 * 4 + 2]? by congr 1; omega, c2]; rfl
    · rw [h4]; rw [show cur'[j]? = cur'[j / 4 * 4 + 3]? by congr 1; omega, c3]; rfl
  · rw [if_neg hj]
    exact (List.getElem?_eq_none (by rw [leCl_flat]; omega)).symm

theorem slcLe_tail (g n c i : Nat) (hi : i < n) (hc : n ≤ c) (hc9 : c ≤ maxLen) : ∀ W, (Instr.slice 35 (.slice (some ⟨g, 0, none⟩) n c) (some (.int .i64 (i : Int))) none none).run Try.prog W = .ok (.slice (some ⟨g, i * 4, none⟩) (n - i) (c - i)) W := by
  intro W
  unfold maxLen at hc9
  have hz : ∀ W, (Go.sizeOf 43).run Try.prog W = .ok 4 W := fun W => by kernel_rfl
  have ht' : Try.prog.underlying 35 = some (.slice (Try.prog.elem 35)) := by simp [Program.elem, Try.underlying35]
  have he : Try.prog.elem 35 = 43 := by simp [Program.elem, Try.underlying35]
  rw [run_slice_l W 35 _ _ _ ht' .i64 _ (by omega) (by omega), he, hz]
  have h0 : ¬ c = i := by omega
  by_cases h1 : i = 0
  · subst h1; simp [Result.andThen, sliced, Addr.add, h0]
  · have h2 : ¬ i * 4 = 0 := by omega
    simp [Result.andThen, sliced, Addr.add, h0, h1, h2]
theorem slcLe_head (g n c i : Nat) (hi : i ≤ n) (hc : n ≤ c) (hc9 : c ≤ maxLen) : ∀ W, (Instr.slice 35 (.slice (some ⟨g, 0, none⟩) n c) none (some (.int .i64 (i : Int))) none).run Try.prog W = .ok (.slice (some ⟨g, 0, none⟩) i c) W := by
  intro W
  unfold maxLen at hc9
  have hz : ∀ W, (Go.sizeOf 43).run Try.prog W = .ok 4 W := fun W => by kernel_rfl
  have ht' : Try.prog.underlying 35 = some (.slice (Try.prog.elem 35)) := by simp [Program.elem, Try.underlying35]
  have he : Try.prog.elem 35 = 43 := by simp [Program.elem, Try.underlying35]
  rw [run_slice_h W 35 _ _ _ ht' .i64 _ (by omega) (by omega), he, hz]
  simp [Result.andThen, sliced, Addr.add]

/-- clear on a back part of a row of leases. -/
theorem run_clear_le {W : World} {g o n c : Nat} {cur : Array Value} (hB : Blk W g cur 43) (hn : 0 < n) (hfit : o + n * 4 ≤ cur.size) :
    ∃ W9 cur9, (∀ ty, (Builtin.clear_ #[35] ty #[.slice (some ⟨g, o, none⟩) n c]).run Try.prog W = .ok (.tuple #[]) W9) ∧ Blk W9 g cur9 43 ∧ cur9.size = cur.size ∧ (∀ k, k < o → cur9[k]? = cur[k]?) ∧ Keeps [g] W W9 := by
  have hv : ∀ w, (zeroValue 43).run Try.prog w = .ok (.agg #[.int .i64 0, .int .i64 0, .int .i64 0, .int .i64 0]) w := fun w => by kernel_rfl
  have hlen : (Builtin.zeroCells (Value.agg #[.int .i64 0, .int .i64 0, .int .i64 0, .int .i64 0]).cells n).toList.length = n * 4 := by
    rw [Array.length_toList, size_zeroCells]; rfl
  have hst := run_storeCells_at Try.prog g o 43 (Builtin.zeroCells (Value.agg #[.int .i64 0, .int .i64 0, .int .i64 0, .int .i64 0]).cells n).toList 0 cur W hB (by rw [hlen]; omega) (by
    intro v hv'
    simp only [Builtin.zeroCells, Array.toList_map, List.mem_map] at hv'
    obtain ⟨x, _, rfl⟩ := hv'
    have hx : x % 4 < 4 := Nat.mod_lt _ (by decide)
    have h4 : x % 4 = 0 ∨ x % 4 = 1 ∨ x % 4 = 2 ∨ x % 4 = 3 := by omega
    show (#[Value.int .i64 0, .int .i64 0, .int .i64 0, .int .i64 0] : Array Value)[x % 4]!.oneCell' = true
    rcases h4 with h4 | h4 | h4 | h4 <;> rw [h4] <;> rfl)
  rw [hlen, Nat.add_zero] at hst
  obtain ⟨m, rfl⟩ : ∃ m, n = m + 1 := ⟨n - 1, by omega⟩
  generalize hZ : (Builtin.zeroCells (Value.agg #[.int .i64 0, .int .i64 0, .int .i64 0, .int .i64 0]).cells (m + 1)).toList = Z at *
  refine ⟨W.setRow g (cur.toList.take o ++ Z ++ cur.toList.drop (o + (m + 1) * 4)).toArray, (cur.toList.take o ++ Z ++ cur.toList.drop (o + (m + 1) * 4)).toArray, fun ty => ?_, setRow_heap W g cur _ 43 _ hB, ?_, fun k hk => ?_, ?_⟩
  · simp only [Builtin.clear_, Sem.run_bind]
    simp [run_underlying Try.underlying35, hv, hZ, hst]
  · rw [List.size_toArray, List.length_append, List.length_append, List.length_take, List.length_drop, hlen, Array.length_toList]
    omega
  · rw [List.getElem?_toArray, List.append_assoc, List.getElem?_append_left (by rw [List.length_take, Array.length_toList]; omega), List.getElem?_take, if_pos hk, Array.getElem?_toList]
  · exact ⟨rfl, rfl, rfl, by rw [Go.setRow_size]; exact Nat.le_refl _, fun k _ hk => Go.setRow_other W g k _ (fun e => hk (by rw [e]; simp))⟩

theorem RowL.of_cur {W : World} {g : Nat} {cur cur9 : Array Value} {R : List Le} {W9 : World} {i : Nat} (h : RowL W g R) (hB : Blk W g cur 43) (h9 : Blk W9 g cur9 43) (hs : cur9.size = cur.size) (hk : ∀ k, k < i * 4 → cur9[k]? = cur[k]?) (hi : i ≤ R.length) : RowL W9 g (R.take i) := by
  obtain ⟨cur', h3, h4, h5⟩ := h
  have e : cur' = cur := by
    unfold Blk at hB h3
    rw [hB] at h3
    injection h3 with h3
    injection h3 with h3
    exact h3.symm
  subst e
  refine ⟨cur9, h9, by rw [List.length_take]; omega, fun j hj => ?_⟩
  rw [List.length_take] at hj
  obtain ⟨c0, c1, c2, c3⟩ := h5 j (by omega)
  rw [List.getElem_take]
  exact ⟨(hk _ (by omega)).trans c0, (hk _ (by omega)).trans c1, (hk _ (by omega)).trans c2, (hk _ (by omega)).trans c3⟩

theorem RowL.keep {w w' : World} {g : Nat} {es : List Le} (h : RowL w g es) (hb : w'.heap[g]? = w.heap[g]?) : RowL w' g es := by
  obtain ⟨cur, hc, r⟩ := h
  exact ⟨cur, hc.of_block hb, r⟩

end Go.Proofs.Ytgpjjolgpppeeaa
