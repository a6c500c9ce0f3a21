/-
  The heap of leases: container/heap.Pop: contract. Own work.
-/
import Derived.Test.YtalcjgmmlmhngaaI16
import Derived.Test.YtalcjgmmlmhngaaI17
import Derived.Test.YtalcjgmmlmhngaaI18
namespace Go.Proofs.Ytalcjgmmlmhngaa
open Go.RowKit P
set_option linter.unusedVariables false
set_option linter.unusedSimpArgs false
set_option maxRecDepth 100000

theorem IsHeap.take {G : List Le} {m : Nat} (h : IsHeap G m) (hm : m ≤ G.length) : IsHeap (G.take m) (G.take m).length := by
  have hl : (G.take m).length = m := by rw [List.length_take]; omega
  rw [hl]
  have T : ∀ k, k < m → tl (G.take m) k = tl G k := fun k hk => by
    unfold tl
    rw [List.getD_eq_getElem?_getD, List.getD_eq_getElem?_getD, List.getElem?_take, if_pos hk]
  intro i h0 hi
  rw [T _ (by omega), T _ hi]
  exact h i h0 hi
theorem IsHeap.least {H : List Le} (h : IsHeap H H.length) : ∀ l ∈ H, tl H 0 ≤ l.2.2.2 := by
  intro l hl
  obtain ⟨i, hi, rfl⟩ := List.getElem_of_mem hl
  have h1 := h.top i hi
  rw [tl_at hi] at h1
  exact h1
theorem last_perm {G : List Le} {m : Nat} (hm : G.length = m + 1) : (G[m]'(by omega) :: G.take m).Perm G := by
  have h1 : G.take m ++ [G[m]'(by omega)] = G := by
    have h2 := List.take_succ_eq_append_getElem (l := G) (i := m) (by omega)
    rw [← h2, List.take_of_length_le (by omega)]
  have h3 : (G[m]'(by omega) :: G.take m).Perm (G.take m ++ [G[m]'(by omega)]) := (List.perm_append_singleton _ _).symm
  rw [h1] at h3
  exact h3

set_option maxHeartbeats 4000000 in
theorem heapPop_any (hb g cap : Nat) (H : List Le) (w : World) (h : Hp w hb g cap H) (h0 : 0 < H.length) (hh : IsHeap H H.length) (hl : H.length ≤ 1000000) :
    Calls Try.prog 63 #[.iface 76 (.pointer (some ⟨hb, 0, none⟩))] w fun e w' => ∃ (x y s t : Int) (G : List Le), e = .returned (.iface 34 (.agg #[.int .i64 x, .int .i64 y, .int .i64 s, .int .i64 t])) ∧
      ((x, y, s, t) :: G).Perm H ∧ H[0]'h0 = (x, y, s, t) ∧ (∀ l ∈ H, t ≤ l.2.2.2) ∧ IsHeap G G.length ∧ Hp w' hb g cap G ∧ Keeps [hb, g] w w' := by
  have mL : ∀ w, Sem.run Try.prog (method (Try.prog.types.size + 100) 76 (.pointer (some ⟨hb, 0, none⟩)) "Len") w = .ok (61, .pointer (some ⟨hb, 0, none⟩)) w := fun _ => by kernel_rfl
  have mS : ∀ w, Sem.run Try.prog (method (Try.prog.types.size + 100) 76 (.pointer (some ⟨hb, 0, none⟩)) "Swap") w = .ok (179, .pointer (some ⟨hb, 0, none⟩)) w := fun _ => by kernel_rfl
  have mP : ∀ w, Sem.run Try.prog (method (Try.prog.types.size + 100) 76 (.pointer (some ⟨hb, 0, none⟩)) "Pop") w = .ok (177, .pointer (some ⟨hb, 0, none⟩)) w := fun _ => by kernel_rfl
  obtain ⟨m, hm⟩ : ∃ m, H.length = m + 1 := ⟨H.length - 1, by omega⟩
  have hmi : (H.length : Int) - 1 = (m : Int) := by omega
  have hwm : IntKind.i64.wrap (m : Int) = (m : Int) := IntWalk.i64_in _ (by omega)
  have hsw := sw_length H 0 m
  have hdn : DownInv (sw H 0 m) m 0 := by rw [hm] at hh; exact hh.down (by omega)
  have hlen := heapLen_any hb g cap H w h
  have hswap := heapSwap_any hb g cap H 0 m w h (by omega) (by omega)
  have HDN := Lib.hid hdn
  have HSW := Lib.hid hswap
  have HM := Lib.hid hm
  have HS := Lib.hid hsw
  clear hdn hswap hm hsw
  go_enter Try.func63, Try.ntmps63
  go_wp2_with fail
  refine hlen.mono ?_
  rintro e w1 ⟨rfl, rfl⟩
  clear hlen
  go_wp2_with fail
  refine HSW.out.mono ?_
  rintro e w2 ⟨rfl, hh2, hke2⟩
  have HK2 := Lib.hid hke2
  have hdown := heapDown_any hb g cap (sw H 0 m) m w2 hh2 (by rw [HS.out, HM.out]; omega) HDN.out (by rw [HS.out]; exact hl) (by rw [HS.out]; exact h0)
  clear hh2 hke2
  go_wp2_with fail
  refine hdown.mono ?_
  rintro e w3 ⟨⟨r, rfl⟩, G, hp3, hi3, hb3, hh3, hk3⟩
  have hGl : G.length = m + 1 := by rw [hp3.length_eq, HS.out, HM.out]
  have hGm : G[m]'(by omega) = H[0]'h0 := by
    have h9 := hb3 m (Nat.le_refl _)
    rw [sw_getD (by omega) (by rw [HM.out]; omega), if_pos rfl, List.getD_eq_getElem?_getD, List.getD_eq_getElem?_getD, List.getElem?_eq_getElem (by omega), List.getElem?_eq_getElem h0] at h9
    exact h9
  obtain ⟨⟨x, y, s, t⟩, hx⟩ : ∃ l, H[0]'h0 = l := ⟨_, rfl⟩
  have hpop := heapPopM_any hb g cap G m x y s t w3 hh3 hGl (hGm.trans hx) (by rw [hGl, ← HM.out]; exact hl)
  have hperm : ((x, y, s, t) :: G.take m).Perm H := by
    have h9 := last_perm hGl
    rw [hGm, hx] at h9
    exact (h9.trans hp3).trans (sw_perm h0 (by rw [HM.out]; omega))
  have hleast : ∀ l ∈ H, t ≤ l.2.2.2 := by
    intro l hl2
    have h9 := hh.least l hl2
    rw [tl_at h0, hx] at h9
    exact h9
  have HPM := Lib.hid hperm
  have HLS := Lib.hid hleast
  have HTK := Lib.hid (hi3.take (by omega))
  have HX := Lib.hid hx
  have HK3 := Lib.hid ((HK2.out.mono (fq := [hb, g]) (fun k hk => by simp at hk; simp [hk])).trans (hk3.mono (fun k hk => by simp at hk; simp [hk])))
  clear hp3 hi3 hb3 hh3 hk3 hGl hGm hx hperm hleast
  go_wp2_with fail
  refine hpop.mono ?_
  rintro e w4 ⟨rfl, hh4, hk4⟩
  have HH4 := Lib.hid hh4
  have HK4 := Lib.hid (HK3.out.trans (hk4.mono (fun k hk => by simp at hk; simp [hk])))
  clear hh4 hk4 hpop
  go_wp2
  go_ret
  exact ⟨x, y, s, t, _, rfl, HPM.out, HX.out, HLS.out, HTK.out, HH4.out, HK4.out⟩
end Go.Proofs.Ytalcjgmmlmhngaa
