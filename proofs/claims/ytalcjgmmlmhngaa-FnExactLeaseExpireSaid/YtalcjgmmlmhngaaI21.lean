/-
  The heap of leases: container/heap.Push, endingHeap: contracts. Own work.
-/
import Derived.Test.YtalcjgmmlmhngaaI19
import Derived.Test.YtalcjgmmlmhngaaI20
namespace Go.Proofs.Ytalcjgmmlmhngaa
open Go.RowKit P
set_option linter.unusedVariables false
set_option linter.unusedSimpArgs false
set_option maxRecDepth 100000

theorem hp_of_hq {w : World} {B hb : Nat} {v : Value} {H : List Le} (h : Hq w B hb v H) (h0 : 0 < H.length) : ∃ g cap, v = .slice (some ⟨g, 0, none⟩) H.length cap ∧ B ≤ g ∧ Hp w hb g cap H := by
  obtain ⟨A, c, rfl, hOL⟩ := h.own.owL
  rcases rowL_of hOL with e | ⟨g, rfl, _, hrow, hin⟩
  · subst e; simp at h0
  rcases h.own.row.2 with ⟨e, _⟩ | ⟨g', cap, cur, e, hbg, hh, hn, hc, hs, _⟩
  · cases e
  · cases e
    exact ⟨g, c, rfl, hbg, h.hd, hrow, ⟨cur, hh, hs⟩, (h.ne g (by simp [Value.ownBlock])).symm, hn, hc, hin⟩
theorem hq_of_hp {w : World} {B hb g cap : Nat} {H : List Le} (h : Hp w hb g cap H) (h1 : B ≤ hb) (h2 : B ≤ g) : Hq w B hb (.slice (some ⟨g, 0, none⟩) H.length cap) H :=
  ⟨h.hd, own_of_row h.row h.sz h2 (Nat.le_refl _) (List.take_length) h.in_ h.le h.cm, fun k hk e => h.ne (by
    simp [Value.ownBlock] at hk
    omega), h1⟩

set_option maxHeartbeats 4000000 in
theorem heapPush_any (B hb : Nat) (v : Value) (H : List Le) (x y s t : Int) (w : World) (h : Hq w B hb v H) (hin : leIn (x, y, s, t)) (hh : IsHeap H H.length) (hl : H.length ≤ 100000) (hBw : B ≤ w.heap.size) :
    Calls Try.prog 120 #[.iface 76 (.pointer (some ⟨hb, 0, none⟩)), .iface 34 (.agg #[.int .i64 x, .int .i64 y, .int .i64 s, .int .i64 t])] w fun e w' => e = .returned (.tuple #[]) ∧ ∃ v' G, G.Perm (H ++ [(x, y, s, t)]) ∧ IsHeap G G.length ∧ Hq w' B hb v' G ∧ Below B w w' := by
  have mL : ∀ w, Sem.run Try.prog (method (Try.prog.types.size + 100) 76 (.pointer (some ⟨hb, 0, none⟩)) "Len") w = .ok (61, .pointer (some ⟨hb, 0, none⟩)) w := fun _ => by kernel_rfl
  have mP : ∀ w, Sem.run Try.prog (method (Try.prog.types.size + 100) 76 (.pointer (some ⟨hb, 0, none⟩)) "Push") w = .ok (178, .pointer (some ⟨hb, 0, none⟩)) w := fun _ => by kernel_rfl
  have hpush := heapPushM_any B hb v H x y s t w h hin hl hBw
  have hBh := h.hB
  clear h
  go_enter Try.func120, Try.ntmps120
  go_wp2_with fail
  refine hpush.mono ?_
  rintro e w1 ⟨rfl, v1, hq1, hb1⟩
  have hl1 : (H ++ [(x, y, s, t)]).length = H.length + 1 := by simp
  obtain ⟨g, cap, rfl, hBg, hp1⟩ := hp_of_hq hq1 (by omega)
  have hlen := heapLen_any hb g cap (H ++ [(x, y, s, t)]) w1 hp1
  have hup := heapUp_any hb g cap (H ++ [(x, y, s, t)]) H.length w1 hp1 (by rw [hl1]; exact hh.snoc) (by omega)
  rw [hl1] at hlen
  have hmi : ((H.length + 1 : Nat) : Int) - 1 = (H.length : Int) := by omega
  have hwm : IntKind.i64.wrap (H.length : Int) = (H.length : Int) := IntWalk.i64_in _ (by omega)
  have HUP := Lib.hid hup
  have HB1 := Lib.hid hb1
  have HL1 := Lib.hid hl1
  clear hpush hq1 hp1 hup hb1 hl1
  go_wp2_with fail
  refine hlen.mono ?_
  rintro e w2 ⟨rfl, rfl⟩
  clear hlen
  go_wp2_with fail
  refine HUP.out.mono ?_
  rintro e w3 ⟨rfl, G, hp3, hi3, hh3, hk3⟩
  have hGl : G.length = (H ++ [(x, y, s, t)]).length := hp3.length_eq
  have HI := Lib.hid (show IsHeap G G.length by rw [hGl]; exact hi3)
  have HPM := Lib.hid hp3
  have HQ3 := Lib.hid (hq_of_hp hh3 hBh hBg)
  have HB3 := Lib.hid (HB1.out.trans (hk3.below (B := B) (by have h9 := HB1.out.size; omega) (fun k hk => by simp at hk; omega)))
  clear hp3 hi3 hh3 hk3 hGl
  go_wp2
  go_end0
  exact ⟨rfl, _, G, HPM.out, HI.out, HQ3.out, HB3.out⟩
end Go.Proofs.Ytalcjgmmlmhngaa
