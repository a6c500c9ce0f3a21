/-
  The heap of leases: the method Pop: contract. Own work.
-/
import Derived.Test.YtalcjgmmlmhngaaI15
import Derived.Test.YtalcjgmmlmhngaaI14
namespace Go.Proofs.Ytalcjgmmlmhngaa
open Go.RowKit P
set_option linter.unusedVariables false
set_option linter.unusedSimpArgs false
set_option maxRecDepth 100000

theorem RowL.take {w : World} {g : Nat} {es : List Le} (h : RowL w g es) (m : Nat) : RowL w g (es.take m) := by
  obtain ⟨cur, hc, hs, hv⟩ := h
  refine ⟨cur, hc, by rw [List.length_take]; omega, fun i hi => ?_⟩
  rw [List.length_take] at hi
  rw [List.getElem_take]
  exact hv i (by omega)

set_option maxHeartbeats 4000000 in
theorem heapPopM_any (hb g cap : Nat) (H : List Le) (m : Nat) (x y s t : Int) (w : World) (h : Hp w hb g cap H) (hm : H.length = m + 1) (hx : H[m]'(by omega) = (x, y, s, t)) (hl : H.length ≤ 1000000) :
    Calls Try.prog 177 #[.pointer (some ⟨hb, 0, none⟩)] w fun e w' => e = .returned (.iface 34 (.agg #[.int .i64 x, .int .i64 y, .int .i64 s, .int .i64 t])) ∧ Hp w' hb g cap (H.take m) ∧ Keeps [hb] w w' := by
  obtain ⟨x', y', s', t', e', k0, k1, k2, k3, _⟩ := h.at_ m (by omega)
  rw [hx] at e'
  simp only [Prod.mk.injEq] at e'
  obtain ⟨rfl, rfl, rfl, rfl⟩ := e'
  have hal := (Below.refl w.heap.size w).alloc (Nat.le_refl _) (.cells #[.int .i64 x, .int .i64 y, .int .i64 s, .int .i64 t] 34)
  have h1 := h.below hal
  have bx := Blk.new w #[.int .i64 x, .int .i64 y, .int .i64 s, .int .i64 t] 34
  have h0 : w.cell? ⟨hb, 0, none⟩ = some (.slice (some ⟨g, 0, none⟩) H.length cap) := h.hd.cell 0
  have hfz := h1.hd.frozen 0
  have h0' : (w.alloc (.cells #[.int .i64 x, .int .i64 y, .int .i64 s, .int .i64 t] 34)).cell? ⟨hb, 0, none⟩ = some (.slice (some ⟨g, 0, none⟩) H.length cap) := h1.hd.cell 0
  have zh := h.hd.lt
  have hne := h.ne
  have hq := h.hd.set 0 (.slice (some ⟨g, 0, none⟩) m cap)
  have hlen : (H.take m).length = m := by rw [List.length_take]; omega
  have hkeep : (w.setCell ⟨hb, 0, none⟩ (.slice (some ⟨g, 0, none⟩) m cap)).heap[g]? = w.heap[g]? := Below.heap_setCell _ _ _ _ (fun e => hne (by simpa using e.symm))
  have hfin0 : Hp (w.setCell ⟨hb, 0, none⟩ (.slice (some ⟨g, 0, none⟩) m cap)) hb g cap (H.take m) := by
    refine ⟨by rw [hlen]; simpa using hq, (h.row.keep hkeep).take m, ?_, hne, by rw [hlen]; have := h.le; omega, h.cm, fun l hl => h.in_ l (List.mem_of_mem_take hl)⟩
    obtain ⟨cur, c1, c2⟩ := h.sz
    exact ⟨cur, c1.of_block hkeep, c2⟩
  have hal2 := (Below.refl (w.setCell ⟨hb, 0, none⟩ (.slice (some ⟨g, 0, none⟩) m cap)).heap.size (w.setCell ⟨hb, 0, none⟩ (.slice (some ⟨g, 0, none⟩) m cap))).alloc (Nat.le_refl _) (.cells #[.int .i64 x, .int .i64 y, .int .i64 s, .int .i64 t] 34)
  have hfin := hfin0.below hal2
  have hkp := ((Keeps.refl [hb] w).put (List.mem_singleton.2 rfl) 0 (.slice (some ⟨g, 0, none⟩) m cap)).trans (Keeps.of_below hal2)
  have b0 := ((bx.setOther (a := ⟨hb, 0, none⟩) (by show w.heap.size ≠ hb; omega) (.slice (some ⟨g, 0, none⟩) m cap)).cell 0)
  have b1 := ((bx.setOther (a := ⟨hb, 0, none⟩) (by show w.heap.size ≠ hb; omega) (.slice (some ⟨g, 0, none⟩) m cap)).cell 1)
  have b2 := ((bx.setOther (a := ⟨hb, 0, none⟩) (by show w.heap.size ≠ hb; omega) (.slice (some ⟨g, 0, none⟩) m cap)).cell 2)
  have b3 := ((bx.setOther (a := ⟨hb, 0, none⟩) (by show w.heap.size ≠ hb; omega) (.slice (some ⟨g, 0, none⟩) m cap)).cell 3)
  have hS := slcLe_head g H.length cap m (by omega) h.le h.cm
  have hmi : (H.length : Int) - 1 = (m : Int) := by omega
  have hwm : IntKind.i64.wrap (m : Int) = (m : Int) := IntWalk.i64_in _ (by omega)
  have hm1 : (m : Int) < (H.length : Int) := by omega
  have HF := Lib.hid hfin
  have HK := Lib.hid hkp
  clear hfin hfin0 hkp h1 hq bx hal hal2 hlen hkeep hx hm
  go_enter Try.func177, Try.ntmps177
  go_wp2
  go_ret
  exact ⟨rfl, HF.out, HK.out⟩
end Go.Proofs.Ytalcjgmmlmhngaa
