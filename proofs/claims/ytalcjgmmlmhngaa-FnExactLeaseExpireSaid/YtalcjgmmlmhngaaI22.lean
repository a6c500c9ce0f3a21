/-
  The heap of leases: endingHeap: contract. Own work.
-/
import Derived.Test.YtalcjgmmlmhngaaI21
namespace Go.Proofs.Ytalcjgmmlmhngaa
open Go.RowKit P
set_option linter.unusedVariables false
set_option linter.unusedSimpArgs false
set_option maxRecDepth 100000

set_option maxHeartbeats 4000000 in
theorem endingHeap_any (A : Option Addr) (es : List Le) (c : Nat) (w : World) (hl : es.length ≤ 10000) (hA : Ll w A es) :
    Calls Try.prog 60 #[.slice A es.length c] w fun e w' => ∃ hb v G, e = .returned (.pointer (some ⟨hb, 0, none⟩)) ∧ G.Perm es ∧ IsHeap G G.length ∧ Hq w' w.heap.size hb v G ∧ Below w.heap.size w w' := by
  have hal := (Below.refl w.heap.size w).alloc (Nat.le_refl _) (.cells #[.slice none 0 0, .func (.func 119) #[] #[]] 81)
  have hq0 : Hq (w.alloc (.cells #[.slice none 0 0, .func (.func 119) #[] #[]] 81)) w.heap.size w.heap.size (.slice none 0 0) [] :=
    ⟨Blk.new w _ _, OwR.nil _ _, (fun k hk => by simp [Value.ownBlock] at hk), Nat.le_refl _⟩
  go_enter Try.func60, Try.ntmps60
  go_wp2
  go_loopw [10] (fun i wr => ∃ (k : Nat) (v : Value) (G : List Le), k ≤ es.length ∧ i = .int .i64 k ∧ G.Perm (es.take k) ∧ IsHeap G G.length ∧ Hq wr w.heap.size w.heap.size v G ∧ Below w.heap.size w wr)
    (fun i _ => es.length - (intOf i).toNat)
  case atStart => exact ⟨0, _, [], Nat.zero_le _, rfl, by simp, fun i h0 hi => by simp at hi, hq0, hal⟩
  case round =>
    obtain ⟨k, v, G, hk, rfl, hp, hi, hq, hb⟩ := hrel
    have HP := Lib.hid hp
    have HI := Lib.hid hi
    have HQ := Lib.hid hq
    have HB := Lib.hid hb
    clear hp hi hq hq0 hal
    by_cases hlt : k < es.length
    · have hki0 : (0 : Int) ≤ (k : Int) := by omega
      have hki : (k : Int) < (es.length : Int) := by omega
      obtain ⟨b, off, x, y, s, t, rfl, hbl, hek, k0, k1, k2, k3, hin⟩ := (hA.below hb).at_ k hlt
      have hal2 := (Below.refl wr.heap.size wr).alloc (Nat.le_refl _) (.cells #[.int .i64 x, .int .i64 y, .int .i64 s, .int .i64 t] 34)
      have hq2 : Hq (wr.alloc (.cells #[.int .i64 x, .int .i64 y, .int .i64 s, .int .i64 t] 34)) w.heap.size w.heap.size v G := ⟨HQ.out.hd.below hal2, HQ.out.own.below hal2, HQ.out.ne, HQ.out.hB⟩
      have hlen : G.length = k := by rw [HP.out.length_eq, List.length_take]; omega
      have hzw := hb.size
      have hpush := heapPush_any w.heap.size w.heap.size v G x y s t _ hq2 hin HI.out (by omega) (by simp; omega)
      have bx := Blk.new wr #[.int .i64 x, .int .i64 y, .int .i64 s, .int .i64 t] 34
      have p0 := bx.cell 0
      have p1 := bx.cell 1
      have p2 := bx.cell 2
      have p3 := bx.cell 3
      have HPU := Lib.hid hpush
      have HEK := Lib.hid hek
      have HB2 := Lib.hid (below_then hb hal2)
      clear hpush hek hin hq2 hlen bx hal2 hb
      go_wp2_with fail
      refine HPU.out.mono ?_
      rintro e w1 ⟨rfl, v1, G1, hp1, hi1, hq1, hb1⟩
      have HP1 := Lib.hid (show G1.Perm (es.take (k + 1)) by
        rw [List.take_succ_eq_append_getElem hlt, HEK.out]
        exact hp1.trans (HP.out.append_right _))
      have HI1 := Lib.hid hi1
      have HQ1 := Lib.hid hq1
      have HB1 := Lib.hid (HB2.out.trans hb1)
      clear hp1 hi1 hq1 hb1 k0 k1 k2 k3 p0 p1 p2 p3
      go_wp2
      go_roundw
      case rel => exact ⟨k + 1, v1, G1, by omega, by go_num, HP1.out, HI1.out, HQ1.out, HB1.out⟩
      case measure => simp [intOf]; omega
    · have e : k = es.length := by omega
      have HP1 := Lib.hid (show G.Perm es by have h9 := HP.out; rw [e, List.take_length] at h9; exact h9)
      clear e hb
      go_wp2
      go_ret
      exact ⟨_, v, G, rfl, HP1.out, HI.out, HQ.out, HB.out⟩
end Go.Proofs.Ytalcjgmmlmhngaa
