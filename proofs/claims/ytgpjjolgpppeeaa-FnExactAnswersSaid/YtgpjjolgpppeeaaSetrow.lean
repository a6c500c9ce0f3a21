/-
  One element of an own slice of anything, put anew: its cells in the row and what it owns. Own work.
-/
import Derived.Test.YtgpjjolgpppeeaaLay
import Derived.Test.YtgpjjolgpppeeaaSnoc
import Derived.Test.YtgpjjolgpppeeaaBlk
namespace Go.Proofs.Ytgpjjolgpppeeaa
open Go.RowKit P
set_option linter.unusedVariables false
set_option linter.unusedSimpArgs false

theorem Lay.put {α : Type} {T : TypeId} {E : Lay α} {w : World} {v : Value} {l : List α} {fp : List Nat} (h : (Lay.slice T E).ow w [v] l fp) (hn : fp.Nodup) (hpos : 0 < E.sz) (i : Nat) (hi : i < l.length) :
    ∃ g c cur us fi, v = .slice (some ⟨g, 0, none⟩) l.length c ∧ us.length = E.sz ∧ Blk w g cur T ∧ l.length * E.sz ≤ cur.size ∧ (∀ j (hj : j < us.length), cur[i * E.sz + j]? = some us[j]) ∧
      E.ow w us l[i] fi ∧ fi.Nodup ∧ g ∈ fp ∧ (∀ k ∈ fi, k ∈ fp ∧ k ≠ g) ∧ ∀ w' x' us' cur', us'.length = E.sz → Keeps (g :: fi) w w' → Blk w' g cur' T → cur'.size = cur.size → (∀ j (hj : j < us'.length), cur'[i * E.sz + j]? = some us'[j]) →
        (∀ q, q < i * E.sz ∨ i * E.sz + E.sz ≤ q → cur'[q]? = cur[q]?) → E.ow w' us' x' fi → (Lay.slice T E).ow w' [v] (l.set i x') fp := by
  obtain ⟨v', es, hv, hl, hrow, hes, hfp⟩ := h
  cases hv
  subst hl
  rw [List.length_map] at hi
  obtain ⟨a, e, b, hab, ha, he⟩ := split_at es i hi
  have hlen : ∀ e ∈ es, (e.1 : List Value).length = E.sz := fun e he => E.len (E.read (hes e he))
  have hei : (es.map (·.2.1))[i]'(by rw [List.length_map]; exact hi) = e.2.1 := by rw [List.getElem_map, ← he]
  have heo := hes e (by rw [he]; exact List.getElem_mem hi)
  rcases hrow.2 with ⟨hv, h0⟩ | ⟨g, cap, cur, hv, _, hh, hnc, hcm, hcs, htk⟩
  · omega
  · subst hv
    have hg : g < w.heap.size := (Array.getElem?_eq_some_iff.1 hh).1
    have hgfp : g ∈ fp := by rw [hfp]; simp [Value.ownBlock]
    rw [hfp, hab, List.flatMap_append, List.flatMap_cons] at hn
    simp only [Value.ownBlock, Option.toList_some, List.singleton_append, List.nodup_cons, List.mem_append, not_or] at hn
    obtain ⟨⟨n1, n2, n3⟩, hn⟩ := hn
    rw [List.nodup_append] at hn
    obtain ⟨na, hn, nd1⟩ := hn
    rw [List.nodup_append] at hn
    obtain ⟨ne, nb, nd2⟩ := hn
    have hcz : es.length * E.sz ≤ cur.size := by rw [hcs]; exact Nat.mul_le_mul_right _ hnc
    refine ⟨g, cap, cur, e.1, e.2.2, by simp, hlen e (by rw [he]; exact List.getElem_mem hi), hh, by rw [List.length_map]; exact hcz, fun j hj => ?_, by rw [hei]; exact heo, ne, hgfp, fun k hk => ⟨?_, fun x => n2 (by rw [← x]; exact hk)⟩, fun w' x' us' cur' hus hke hblk hsz hnew hold hox => ?_⟩
    · have hj' : j < (es[i].1).length := by rw [← he]; exact hj
      have hgt := flat_get E.sz es (·.1) hlen i hi j hj'
      rw [← htk, List.getElem?_take] at hgt
      split at hgt
      · simp only [Array.getElem?_toList] at hgt
        rw [hgt]
        simp only [he]
      · cases hgt
    · rw [hfp, hab, List.flatMap_append, List.flatMap_cons]
      simp [hk]
    · have hset : (es.map (·.2.1)).set i x' = (a ++ (us', x', e.2.2) :: b).map (·.2.1) := by
        rw [hab, List.map_append, List.map_cons, List.set_append_right _ _ (by rw [List.length_map]; omega), List.length_map, ha, Nat.sub_self, List.set_cons_zero, List.map_append, List.map_cons]
      rw [hset]
      have e1 : (a ++ (us', x', e.2.2) :: b).length = es.length := by rw [hab]; simp
      have hla : ∀ f ∈ a, (f.1 : List Value).length = E.sz := fun f hf => hlen f (by rw [hab]; exact List.mem_append.2 (.inl hf))
      have hfa := flat_len E.sz a (·.1) hla
      have hle : (e.1 : List Value).length = E.sz := hlen e (by rw [hab]; simp)
      have hfl := flat_len E.sz es (·.1) hlen
      refine ⟨_, a ++ (us', x', e.2.2) :: b, rfl, rfl, ?_, ?_, ?_⟩
      · rw [e1]
        refine ⟨?_, .inr ⟨g, cap, cur', rfl, Nat.zero_le _, hblk, hnc, hcm, by rw [hsz]; exact hcs, ?_⟩⟩
        · have h9 := hrow.1
          rw [← h9, hab]
          simp [hus, hle]
        · apply List.ext_getElem?
          intro q
          have htq : (cur.toList.take (es.length * E.sz))[q]? = (es.flatMap (·.1))[q]? := by rw [htk]
          rw [List.getElem?_take] at htq ⊢
          rw [List.flatMap_append, List.flatMap_cons]
          rw [hab, List.flatMap_append, List.flatMap_cons] at htq
          simp only [Array.getElem?_toList] at htq ⊢
          by_cases h1 : q < i * E.sz
          · rw [hold q (.inl h1)]
            rw [List.getElem?_append_left (by rw [hfa, ha]; exact h1)] at htq ⊢
            rw [← hab] at htq
            exact htq
          · by_cases h2 : q < i * E.sz + E.sz
            · have hq : q = i * E.sz + (q - i * E.sz) := by omega
              have hin : q < es.length * E.sz := by
                have : (i + 1) * E.sz ≤ es.length * E.sz := Nat.mul_le_mul_right _ hi
                rw [Nat.add_mul, Nat.one_mul] at this
                omega
              rw [if_pos hin]
              have h9 := hnew (q - i * E.sz) (by rw [hus]; omega)
              rw [← hq] at h9
              rw [h9, List.getElem?_append_right (by rw [hfa, ha]; omega), hfa, ha, List.getElem?_append_left (by rw [hus]; omega), List.getElem?_eq_getElem]
            · rw [hold q (.inr (by omega))]
              rw [List.getElem?_append_right (by rw [hfa, ha]; omega), hfa, ha, List.getElem?_append_right (by rw [hle]; omega), hle] at htq
              rw [List.getElem?_append_right (by rw [hfa, ha]; omega), hfa, ha, List.getElem?_append_right (by rw [hus]; omega), hus]
              rw [← hab] at htq
              exact htq
      · intro f hf
        rcases List.mem_append.1 hf with hf | hf
        · refine E.keeps (hes f (by rw [hab]; exact List.mem_append.2 (.inl hf))) hke (fun k hk hk2 => ?_)
          rcases List.mem_cons.1 hk2 with e9 | hk2
          · exact n1 (List.mem_flatMap.2 ⟨f, hf, by rw [← e9]; exact hk⟩)
          · exact nd1 k (List.mem_flatMap.2 ⟨f, hf, hk⟩) k (List.mem_append.2 (.inl hk2)) rfl
        · rcases List.mem_cons.1 hf with rfl | hf
          · exact hox
          · refine E.keeps (hes f (by rw [hab]; exact List.mem_append.2 (.inr (List.mem_cons_of_mem _ hf)))) hke (fun k hk hk2 => ?_)
            rcases List.mem_cons.1 hk2 with e9 | hk2
            · exact n3 (List.mem_flatMap.2 ⟨f, hf, by rw [← e9]; exact hk⟩)
            · exact nd2 k hk2 k (List.mem_flatMap.2 ⟨f, hf, hk⟩) rfl
      · rw [hfp, hab]; simp
end Go.Proofs.Ytgpjjolgpppeeaa
