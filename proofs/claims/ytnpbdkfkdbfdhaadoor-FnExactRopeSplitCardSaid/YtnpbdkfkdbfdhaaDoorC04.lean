/-
  Chapter 4, the laws' helpers on ropes: contracts. Own work.
-/
import Derived.Test.YtnpbdkfkdbfdhaaDoorC02b
import Derived.Test.YtnpbdkfkdbfdhaaDoorBlk
namespace Go.Proofs.YtnpbdkfkdbfdhaaDoor
open Go.RowKit P
set_option linter.unusedVariables false

/-- What a call ends in that makes a rope of its own. -/
def GivesRo (ls : List (List UInt8)) (w : World) (e : Ending) (w' : World) : Prop :=
  ∃ v fp, e = .returned (.agg #[v]) ∧ Lay.chunks.ow w' [v] ls fp ∧ fp.Nodup ∧ (∀ k ∈ fp, w.heap.size ≤ k) ∧ Below w.heap.size w w'

theorem Lay.chunks_setBelow {w : World} {v : Value} {l : List (List UInt8)} {fp : List Nat} (h : Lay.chunks.ow w [v] l fp) {a : Addr} (ha : a.block ∉ fp) (u : Value) : Lay.chunks.ow (w.setCell a u) [v] l fp :=
  Lay.chunks.kept h (fun k hk => Below.heap_setCell _ _ _ _ (fun e => ha (e ▸ hk))) (by simp [World.setCell])

set_option maxHeartbeats 800000 in
theorem szChunkS_gen (A : Option Addr) (ls : List (List UInt8)) (c : Nat) (left : Int) (w : World) (hn : ls.length ≤ 9223372036854775807) (h0 : 0 ≤ left) (h1 : left ≤ 1048576) (hC : Cs w A ls) :
    Calls Tryd.prog 52 #[.slice A ls.length c, .int .i64 left] w fun e w' => (∃ r : Int, e = .returned (.int .i64 r) ∧ (r < 0 ∨ (0 ≤ r ∧ r + ls.length + tot ls = left))) ∧ Below w.heap.size w w' := by
  by_cases h : left - (ls.length : Int) < 0
  · go_enter Tryd.func52, Tryd.ntmps52
    go_wp2
    go_ret
    exact ⟨⟨_, rfl, .inl (by omega)⟩, Below.refl _ _⟩
  · go_enter Tryd.func52, Tryd.ntmps52
    go_wp2
    go_loopw [1, 5] (fun lf i wr => ∃ k : Nat, ∃ r : Int, k ≤ ls.length ∧ i = .int .i64 k ∧ lf = .int .i64 r ∧ 0 ≤ r ∧ r ≤ 1048576 ∧ r + ls.length + tot (ls.take k) = left ∧ Below w.heap.size w wr) (fun _ i _ => ls.length - (intOf i).toNat)
    case atStart => exact ⟨0, left - ls.length, Nat.zero_le _, rfl, rfl, by omega, by omega, by simp [tot], Below.refl _ _⟩
    case round =>
      obtain ⟨k, r, hk, rfl, rfl, hr0, hr1, hr2, hb⟩ := hrel
      by_cases hlt : k < ls.length
      · obtain ⟨b, off, B, d, rfl, hbl, hc, hld, hdm, hB⟩ := (hC.below hb).at_ k hlt
        have htk := tot_take ls k hlt
        have HT := Lib.hid htk
        clear htk
        generalize hL : ls[k] = L at *
        have hdm9 : L.length ≤ 9223372036854775807 := by unfold maxLen at hdm; omega
        have HL := Lib.hid hL
        clear hL
        go_wp2_with fail
        refine (szChunk_any B L.length d r _ hdm9 hr0 hr1).mono ?_
        rintro e w1 ⟨⟨q, rfl, hq⟩, hb1⟩
        have hb2 := below_then hb hb1
        by_cases hneg : q < 0
        · go_wp2
          go_ret
          exact ⟨⟨_, rfl, .inl (by omega)⟩, hb2⟩
        · go_wp2
          go_roundw
          case rel => exact ⟨k + 1, q, by omega, by go_num, rfl, by omega, by omega, by rw [HT.out]; omega, hb2⟩
          case measure => simp [intOf]; omega
      · have e : k = ls.length := by omega
        subst e
        rw [tot_all] at hr2
        go_wp2
        go_ret
        exact ⟨⟨_, rfl, .inr ⟨hr0, hr2⟩⟩, hb⟩

set_option maxHeartbeats 400000 in
theorem szRope_gen (A : Option Addr) (ls : List (List UInt8)) (c : Nat) (left : Int) (w : World) (hn : ls.length ≤ 9223372036854775807) (h0 : 0 ≤ left) (h1 : left ≤ 1048576) (hA : Cs w A ls) :
    Calls Tryd.prog 25 #[.agg #[.slice A ls.length c], .int .i64 left] w fun e w' => (∃ r : Int, e = .returned (.int .i64 r) ∧ (r < 0 ∨ (0 ≤ r ∧ r + ls.length + tot ls = left))) ∧ Below w.heap.size w w' := by
  have hb := (Below.refl w.heap.size w).alloc (Nat.le_refl _) (.cells #[.slice A ls.length c] 52)
  have hB := hA.below hb
  go_enter Tryd.func25, Tryd.ntmps25
  go_wp2_with fail
  refine (szChunkS_gen A ls c left _ hn h0 h1 (by exact hB)).mono ?_
  rintro e w1 ⟨⟨r, rfl, hr⟩, hb1⟩
  have hb2 := below_then hb hb1
  by_cases hneg : r < 0
  · go_wp2
    go_ret
    exact ⟨⟨_, rfl, .inl (by omega)⟩, hb2⟩
  · go_wp2
    go_ret
    exact ⟨⟨_, rfl, .inr (by omega)⟩, hb2⟩

theorem szRope_any (A : Option Addr) (ls : List (List UInt8)) (c : Nat) (w : World) (hn : ls.length ≤ 9223372036854775807) (hA : Cs w A ls) :
    Calls Tryd.prog 25 #[.agg #[.slice A ls.length c], .int .i64 1048576] w fun e w' => (∃ r : Int, e = .returned (.int .i64 r) ∧ (r < 0 ∨ (0 ≤ r ∧ ls.length + tot ls ≤ 1048576))) ∧ Below w.heap.size w w' :=
  (szRope_gen A ls c 1048576 w hn (by omega) (by omega) hA).mono fun e w' ⟨⟨r, he, hr⟩, hb⟩ => ⟨⟨r, he, by omega⟩, hb⟩

set_option maxHeartbeats 400000 in
theorem eqRope_any (A B : Option Addr) (ls rs : List (List UInt8)) (c d : Nat) (w : World) (hl : ls.length ≤ 9223372036854775807) (hA : Cs w A ls) (hB : Cs w B rs) :
    Calls Tryd.prog 27 #[.agg #[.slice A ls.length c], .agg #[.slice B rs.length d]] w fun e w' => e = .returned (.bool (decide (ls = rs))) ∧ Below w.heap.size w w' := by
  have hb := ((Below.refl w.heap.size w).alloc (Nat.le_refl _) (.cells #[.slice A ls.length c] 38)).alloc (by simp) (.cells #[.slice B rs.length d] 38)
  have hC := hA.below hb
  have hD := hB.below hb
  generalize hq : decide (ls = rs) = q
  have HQ := Lib.hid hq
  clear hq
  go_enter Tryd.func27, Tryd.ntmps27
  go_wp2_with fail
  refine (eqChunkS_any A B ls rs c d _ hl (by exact hC) (by exact hD)).mono ?_
  rintro e w1 ⟨rfl, hb1⟩
  rw [HQ.out]
  have hb2 := hb.trans (hb1.mono (by simp; omega))
  cases q
  all_goals
    go_wp2
    go_ret
    exact ⟨rfl, hb2⟩

set_option maxHeartbeats 1000000 in
theorem toRope_any (A : Option Addr) (ls : List (List UInt8)) (c : Nat) (w : World) (hn : ls.length + tot ls ≤ 1048576) (hA : Cs w A ls) :
    Calls Tryd.prog 26 #[.agg #[.slice A ls.length c]] w (GivesRo ls w) := by
  have hb0 := (((Below.refl w.heap.size w).alloc (Nat.le_refl _) (.cells #[.slice A ls.length c] 52)).alloc (by simp) (.cells #[.slice none 0 0] 38)).alloc (by simp; omega) (.cells #[.slice none 0 0] 38)
  have hB := hA.below hb0
  go_enter Tryd.func26, Tryd.ntmps26
  go_wp2_with fail
  refine (toChunkS_any A ls c _ hn (by exact hB)).mono ?_
  rintro e w1 ⟨cs, fp, rfl, how, hnd, hfp, hb1⟩
  obtain ⟨B, d, rfl, hld, hdm, hL⟩ := Lay.chunks.read how
  unfold wSlice
  clear hL hld hdm
  obtain ⟨hc, hf⟩ := bcell hb1
  have hz : w.heap.size + 3 ≤ w1.heap.size := by have := hb1.size; simp at this; omega
  have hbw1 : Below w.heap.size w w1 := hb0.trans (hb1.mono (by simp; omega))
  have hfp' : ∀ k ∈ fp, w.heap.size + 3 ≤ k := fun k hk => by have := hfp k hk; simp at this; omega
  go_wp2
  refine bodyPost_ret (v := .agg #[.slice B ls.length d]) (by simp [results, Tryd.results26, go_sem, hc]) rfl ?_
  have how2 := Lay.chunks_setBelow (Lay.chunks_setBelow how (a := ⟨w.heap.size + 1 + 1, 0, none⟩) (fun h => by have := hfp' _ h; simp at this; omega) (.slice B ls.length d)) (a := ⟨w.heap.size + 1, 0, none⟩) (fun h => by have := hfp' _ h; simp at this) (.slice B ls.length d)
  exact ⟨_, fp, rfl, how2, hnd, fun k hk => by have := hfp' k hk; omega, (hbw1.setCell (by simp; omega) _).setCell (by simp) _⟩

set_option maxHeartbeats 400000 in
theorem markRope_any (v : Value) (ls : List (List UInt8)) (fp : List Nat) (k : Nat) (w : World) (hk : k + tot ls ≤ 1900000) (hl : ls.length + tot ls ≤ 1100000) (hn : fp.Nodup) (h : Lay.chunks.ow w [v] ls fp) :
    Calls Tryd.prog 28 #[.agg #[v], .int .i64 k] w fun e w' => e = .returned (.int .i64 ((k + tot ls : Nat) : Int)) ∧ Lay.chunks.ow w' [v] (marksC k ls) fp ∧ Keeps fp w w' := by
  have hb := (Below.refl w.heap.size w).alloc (Nat.le_refl _) (.cells #[v] 38)
  have hh := Lay.chunks.owBelow h hb
  have hlt := Lay.chunks.lt h
  obtain ⟨A, c, rfl, _, _, _⟩ := Lay.chunks_rd (Lay.chunks.read h)
  go_enter Tryd.func28, Tryd.ntmps28
  go_wp2_with fail
  refine (markChunkS_any _ ls fp k _ hk hl hn (by exact hh)).mono ?_
  rintro e w1 ⟨rfl, how, hke⟩
  have hk2 := (Keeps.of_below (fp := fp) hb).trans hke
  go_wp2
  go_ret
  exact ⟨rfl, how, hk2⟩

set_option maxHeartbeats 400000 in
theorem heldRope_any (A : Option Addr) (ls : List (List UInt8)) (c k : Nat) (w : World) (hk : k + tot ls ≤ 1900000) (hl : ls.length + tot ls ≤ 1100000) (h : Cs w A (marksC k ls)) :
    Calls Tryd.prog 29 #[.agg #[.slice A ls.length c], .int .i64 k] w fun e w' => e = .returned (.int .i64 ((k + tot ls : Nat) : Int)) ∧ Below w.heap.size w w' := by
  have hb := (Below.refl w.heap.size w).alloc (Nat.le_refl _) (.cells #[.slice A ls.length c] 38)
  have hh := h.below hb
  have hneg : ¬ ((k + tot ls : Nat) : Int) < 0 := by omega
  generalize hm : ((k + tot ls : Nat) : Int) = m at *
  go_enter Tryd.func29, Tryd.ntmps29
  go_wp2_with fail
  refine (heldChunkS_any A ls c k _ hk hl (by exact hh)).mono ?_
  rintro e w1 ⟨rfl, rfl⟩
  rw [hm]
  go_wp2
  go_ret
  exact ⟨rfl, hb⟩
end Go.Proofs.YtnpbdkfkdbfdhaaDoor
