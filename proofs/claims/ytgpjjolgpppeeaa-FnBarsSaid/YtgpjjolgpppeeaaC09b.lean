/-
  Chapter 7, the laws' marks on leases: contracts. Own work.
-/
import Derived.Test.YtgpjjolgpppeeaaC09
namespace Go.Proofs.Ytgpjjolgpppeeaa
open Go.RowKit P
set_option linter.unusedVariables false
set_option linter.unusedSimpArgs false
set_option maxRecDepth 100000

/-- The leases es in the cells of block g. -/
def RowL (w : World) (g : Nat) (es : List Le) : Prop := ∃ cur, Blk w g cur 43 ∧ es.length * 4 ≤ cur.size ∧ ∀ i (h : i < es.length),
  cur[i * 4]? = some (.int .i64 es[i].1) ∧ cur[i * 4 + 1]? = some (.int .i64 es[i].2.1) ∧ cur[i * 4 + 2]? = some (.int .i64 es[i].2.2.1) ∧ cur[i * 4 + 3]? = some (.int .i64 es[i].2.2.2)

theorem RowL.below {w w' : World} {g : Nat} {es : List Le} (h : RowL w g es) (hb : Below w.heap.size w w') : RowL w' g es := by
  obtain ⟨cur, hc, r⟩ := h
  exact ⟨cur, hc.below hb, r⟩
theorem RowL.cells {w : World} {g : Nat} {es : List Le} (h : RowL w g es) (i : Nat) (hi : i < es.length) :
    w.cell? ⟨g, i * 4, none⟩ = some (.int .i64 es[i].1) ∧ w.cell? ⟨g, i * 4 + 1, none⟩ = some (.int .i64 es[i].2.1) ∧ w.cell? ⟨g, i * 4 + 2, none⟩ = some (.int .i64 es[i].2.2.1) ∧ w.cell? ⟨g, i * 4 + 3, none⟩ = some (.int .i64 es[i].2.2.2) := by
  obtain ⟨cur, hc, hs, hv⟩ := h
  obtain ⟨h0, h1, h2, h3⟩ := hv i hi
  exact ⟨(hc.cell _).trans h0, (hc.cell _).trans h1, (hc.cell _).trans h2, (hc.cell _).trans h3⟩
theorem RowL.lt {w : World} {g : Nat} {es : List Le} (h : RowL w g es) : g < w.heap.size := by
  obtain ⟨cur, hc, _⟩ := h
  exact hc.lt
theorem RowL.frozen {w : World} {g : Nat} {es : List Le} (h : RowL w g es) (i : Nat) : w.frozen? ⟨g, i, none⟩ = false := by
  obtain ⟨cur, hc, _⟩ := h
  exact hc.frozen i
theorem RowL.ll {w : World} {g : Nat} {es : List Le} (h : RowL w g es) (hin : ∀ l ∈ es, leIn l) : Ll w (some ⟨g, 0, none⟩) es := by
  intro k hk
  obtain ⟨h0, h1, h2, h3⟩ := h.cells k hk
  have hm := hin _ (List.getElem_mem hk)
  refine ⟨g, 0, (leC es[k]).toList, rfl, h.lt, rfl, fun j hj => ?_, ?_⟩
  · have hj4 : j < 4 := hj
    rw [Nat.zero_add]
    match j, hj4 with
    | 0, _ => exact h0
    | 1, _ => exact h1
    | 2, _ => exact h2
    | 3, _ => exact h3
  · exact Lay.lease.read (own_lease w hm)
theorem RowL.set4 {w : World} {g : Nat} {es : List Le} (h : RowL w g es) (i : Nat) (hi : i < es.length) (a b c d : Int) :
    RowL ((((w.setCell ⟨g, i * 4, none⟩ (.int .i64 a)).setCell ⟨g, i * 4 + 1, none⟩ (.int .i64 b)).setCell ⟨g, i * 4 + 2, none⟩ (.int .i64 c)).setCell ⟨g, i * 4 + 3, none⟩ (.int .i64 d)) g (es.set i (a, b, c, d)) := by
  obtain ⟨cur, hc, hs, hv⟩ := h
  refine ⟨_, (((hc.set (i * 4) (.int .i64 a)).set (i * 4 + 1) (.int .i64 b)).set (i * 4 + 2) (.int .i64 c)).set (i * 4 + 3) (.int .i64 d), by simpa using hs, fun j hj => ?_⟩
  rw [List.length_set] at hj
  simp only [Array.getElem?_setIfInBounds, Array.size_setIfInBounds]
  by_cases e : j = i
  · subst e
    have hl : j * 4 + 3 < cur.size := by omega
    simp [show ¬ j * 4 + 3 = j * 4 by omega, hl, show j * 4 < cur.size by omega, show j * 4 + 1 < cur.size by omega, show j * 4 + 2 < cur.size by omega]
  · rw [List.getElem_set_ne (fun h => e h.symm)]
    have h9 := hv j hj
    refine ⟨?_, ?_, ?_, ?_⟩
    · rw [if_neg (by omega), if_neg (by omega), if_neg (by omega), if_neg (by omega)]; exact h9.1
    · rw [if_neg (by omega), if_neg (by omega), if_neg (by omega), if_neg (by omega)]; exact h9.2.1
    · rw [if_neg (by omega), if_neg (by omega), if_neg (by omega), if_neg (by omega)]; exact h9.2.2.1
    · rw [if_neg (by omega), if_neg (by omega), if_neg (by omega), if_neg (by omega)]; exact h9.2.2.2

/-- A list of leases of the call's own lies in one block. -/
theorem rowL_of {w : World} {base : Nat} {A : Option Addr} {es : List Le} {c : Nat} {fp : List Nat} (h : OwL w base A es c fp) : es = [] ∨ ∃ g, A = some ⟨g, 0, none⟩ ∧ fp = [g] ∧ RowL w g es ∧ ∀ l ∈ es, leIn l := by
  obtain ⟨els, hl, hrow, hes, hfp⟩ := ow_one h.ow
  rcases hrow.2 with ⟨hv, h0⟩ | ⟨g, cap, cur, hv, _, hh, hnc, hcm, hcs, htk⟩
  · left
    rw [hl, List.eq_nil_of_length_eq_zero h0]; rfl
  right
  simp only [Value.slice.injEq] at hv
  obtain ⟨rfl, hn, rfl⟩ := hv
  have hlen : ∀ e ∈ els, (e.1 : List Value).length = 4 := fun e he => by rw [(ow_lease (hes e he)).1]; rfl
  have hf0 : els.flatMap (·.2.2) = [] := by
    rw [List.flatMap_eq_nil_iff]
    exact fun e he => (ow_lease (hes e he)).2.2
  have hsz : Lay.lease.sz = 4 := rfl
  rw [hsz] at hcs htk
  refine ⟨g, rfl, by rw [hfp, hf0]; simp [Value.ownBlock], ⟨cur, hh, by rw [hn]; omega, fun i hi => ?_⟩, fun l hm => ?_⟩
  · have hi2 : i < els.length := by rw [← hn]; exact hi
    have hei : es[i] = els[i].2.1 := by simp [hl]
    have hc1 := (ow_lease (hes _ (List.getElem_mem hi2))).1
    have hgt : ∀ j (hj : j < 4), cur[i * 4 + j]? = some ((leC es[i])[j]'hj) := by
      intro j hj
      have h9 := flat_get 4 els (·.1) hlen i hi2 j (by simp only [hc1]; exact hj)
      rw [← htk, List.getElem?_take] at h9
      split at h9
      · simp only [Array.getElem?_toList] at h9
        rw [h9]
        congr 1
        simp only [hc1, hei]
        rfl
      · omega
    exact ⟨hgt 0 (by decide), hgt 1 (by decide), hgt 2 (by decide), hgt 3 (by decide)⟩
  · rw [hl] at hm
    obtain ⟨e, he, rfl⟩ := List.mem_map.1 hm
    exact (ow_lease (hes e he)).2.1

/-- What a mark leaves. -/
def mk4 (k i : Nat) : Le := (((k + 4 * i : Nat) : Int), ((k + 4 * i + 1 : Nat) : Int), ((k + 4 * i + 2 : Nat) : Int), ((k + 4 * i + 3 : Nat) : Int))
def marksL (k n : Nat) : List Le := (List.range n).map (mk4 k)
theorem marksL_length (k n : Nat) : (marksL k n).length = n := by unfold marksL; simp
theorem marksL_get (k n i : Nat) (h : i < n) : (marksL k n)[i]'(by rw [marksL_length]; exact h) = mk4 k i := by unfold marksL; simp
theorem marksL_in {k n : Nat} (hk : k ≤ 2200000) (hn : n ≤ 1100000) : ∀ l ∈ marksL k n, leIn l := by
  intro l hl
  obtain ⟨i, hi, rfl⟩ := List.mem_map.1 hl
  have := List.mem_range.1 hi
  unfold leIn isI mk4
  simp only
  omega
theorem marksL_step (k : Nat) (es : List Le) (j : Nat) (hj : j < es.length) : (marksL k j ++ es.drop j).set j (mk4 k j) = marksL k (j + 1) ++ es.drop (j + 1) := by
  rw [List.drop_eq_getElem_cons hj, List.set_append_right _ _ (by rw [marksL_length]; omega), marksL_length, Nat.sub_self, List.set_cons_zero]
  unfold marksL
  rw [List.range_succ, List.map_append]
  simp

end Go.Proofs.Ytgpjjolgpppeeaa
