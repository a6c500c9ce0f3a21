/-
  slices.Concat of three slices of bytes, and bytes.Clone: contracts (kept beside chapter 4's, whose texts are long). Own work.
-/
import Derived.Test.YtepffgahgfipjaaCatB
import Derived.Test.YtepffgahgfipjaaI01f
import Derived.Test.YtepffgahgfipjaaApp
import Derived.Test.YtepffgahgfipjaaBlk
namespace Go.Proofs.Ytepffgahgfipjaa
open Go.RowKit P
set_option linter.unusedVariables false
set_option linter.unusedSimpArgs false
set_option maxRecDepth 100000

theorem Bs.vs9 {w : World} {A : Option Addr} {l : List UInt8} (h : Bs w A l) : Vs w A (l.map bV) := by
  intro k hk
  rw [List.length_map] at hk
  obtain ⟨b, off, e, hb, hc⟩ := h k hk
  exact ⟨b, off, e, hb, by rw [hc, List.getElem_map]; rfl⟩

/-- slices.Concat of three slices of bytes. -/
theorem concatBy3_e (A B C : Option Addr) (l m r : List UInt8) (c d f : Nat) (w : World) (h1 : l.length ≤ c) (h2 : m.length ≤ d) (h3 : r.length ≤ f) (hl : l.length + m.length + r.length ≤ 2000000) (hA : Bs w A l) (hB : Bs w B m) (hC : Bs w C r) :
    Calls Try.prog 22 #[.slice (some ⟨w.heap.size, 0, none⟩) 3 3] (w.alloc (.cells #[.slice A l.length c, .slice B m.length d, .slice C r.length f] 22)) fun e w' => ∃ v, e = .returned v ∧ Own w' w.heap.size v (l ++ (m ++ r)) ∧ Below w.heap.size w w' := by
  have hal := (Below.refl w.heap.size w).alloc (Nat.le_refl _) (.cells #[.slice A l.length c, .slice B m.length d, .slice C r.length f] 22)
  have bk := Blk.new w #[.slice A l.length c, .slice B m.length d, .slice C r.length f] 22
  have hv : VVs (w.alloc (.cells #[.slice A l.length c, .slice B m.length d, .slice C r.length f] 22)) (some ⟨w.heap.size, 0, none⟩) [l.map bV, m.map bV, r.map bV] := by
    intro k hk
    match k, hk with
    | 0, _ => exact ⟨_, 0, A, c, rfl, bk.lt, by rw [Nat.zero_add, bk.cell]; simp, by simp [h1], (hA.below hal).vs9⟩
    | 1, _ => exact ⟨_, 0, B, d, rfl, bk.lt, by rw [Nat.zero_add, bk.cell]; simp, by simp [h2], (hB.below hal).vs9⟩
    | 2, _ => exact ⟨_, 0, C, f, rfl, bk.lt, by rw [Nat.zero_add, bk.cell]; simp, by simp [h3], (hC.below hal).vs9⟩
  have hs : vsums [l.map bV, m.map bV, r.map bV] ≤ 1000000000 := by unfold vsums; simp; omega
  refine (by_concat_any (some ⟨w.heap.size, 0, none⟩) [l.map bV, m.map bV, r.map bV] 3 _ (by simp) hs (by
    intro q hq u hu
    simp only [List.mem_cons, List.not_mem_nil, or_false] at hq
    have : ∀ t : List UInt8, u ∈ t.map bV → u.oneCell' = true := fun t ht => by obtain ⟨x, _, rfl⟩ := List.mem_map.1 ht; rfl
    rcases hq with rfl | rfl | rfl <;> exact this _ hu) hv).mono ?_
  rintro e w' ⟨v, rfl, hown, hb⟩
  have hflat : [l.map bV, m.map bV, r.map bV].flatten = (l ++ (m ++ r)).map bV := by simp
  have hrow := hown.row
  rw [hflat, List.length_map] at hrow
  refine ⟨v, rfl, ?_, below_then hal hb⟩
  have h9 : Own w' (w.alloc (.cells #[.slice A l.length c, .slice B m.length d, .slice C r.length f] 22)).heap.size v (l ++ (m ++ r)) := hrow
  exact h9.mono (by simp)

end Go.Proofs.Ytepffgahgfipjaa
