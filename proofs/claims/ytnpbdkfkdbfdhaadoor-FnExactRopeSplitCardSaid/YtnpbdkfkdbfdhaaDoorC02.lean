/-
  Chapter 2, the laws' helpers on chunks: contracts. Own work.
-/
import Derived.Test.YtnpbdkfkdbfdhaaDoorLay
import Derived.Test.YtnpbdkfkdbfdhaaDoorSz
import Derived.Test.YtnpbdkfkdbfdhaaDoorMark
import Derived.Test.YtnpbdkfkdbfdhaaDoorP02
import Derived.Deep.RegionWith
namespace Go.Proofs.YtnpbdkfkdbfdhaaDoor
open Go.RowKit P
set_option linter.unusedVariables false

set_option maxHeartbeats 400000 in
theorem szChunk_any (A : Option Addr) (n c : Nat) (left : Int) (w : World) (hn : n ≤ 9223372036854775807) (h0 : 0 ≤ left) (h1 : left ≤ 1048576) :
    Calls Tryd.prog 85 #[.agg #[.slice A n c], .int .i64 left] w fun e w' => (∃ r : Int, e = .returned (.int .i64 r) ∧ ((r = -1 ∧ left < n) ∨ (0 ≤ r ∧ r = left - n))) ∧ Below w.heap.size w w' := by
  go_enter Tryd.func85, Tryd.ntmps85
  go_wp2_with fail
  refine (szByteS_any A n c left _ hn h0 h1).mono ?_
  rintro e w1 ⟨⟨r, rfl, hr⟩, rfl⟩
  by_cases hneg : r < 0
  · go_wp2
    go_ret
    exact ⟨⟨_, rfl, .inl ⟨rfl, by omega⟩⟩, (Below.refl _ _).alloc (Nat.le_refl _) _⟩
  · go_wp2
    go_ret
    exact ⟨⟨_, rfl, by omega⟩, (Below.refl _ _).alloc (Nat.le_refl _) _⟩

set_option maxHeartbeats 400000 in
theorem eqChunk_any (A B : Option Addr) (l r : List UInt8) (c d : Nat) (w : World) (hl : l.length ≤ 9223372036854775807) (hA : Bs w A l) (hB : Bs w B r) :
    Calls Tryd.prog 87 #[.agg #[.slice A l.length c], .agg #[.slice B r.length d]] w fun e w' => e = .returned (.bool (decide (l = r))) ∧ Below w.heap.size w w' := by
  have hA2 := fun x y t => hA.below ((((Below.refl w.heap.size w).alloc (Nat.le_refl _) (.cells #[x] t))).alloc (by simp) (.cells #[y] t))
  have hB2 := fun x y t => hB.below ((((Below.refl w.heap.size w).alloc (Nat.le_refl _) (.cells #[x] t))).alloc (by simp) (.cells #[y] t))
  generalize hq : decide (l = r) = q
  have HQ := Lib.hid hq
  clear hq
  go_enter Tryd.func87, Tryd.ntmps87
  go_wp2_with fail
  refine (eqByteS_any A B l r c d _ hl (by exact hA2 _ _ _) (by exact hB2 _ _ _)).mono ?_
  rintro e w1 ⟨rfl, n, rfl⟩
  rw [HQ.out]
  have hfin := below_drewN (((Below.refl w.heap.size w).alloc (Nat.le_refl _) (.cells #[.slice A l.length c] 74)).alloc (by simp) (.cells #[.slice B r.length d] 74)) n
  cases q
  · go_wp2
    go_ret
    exact ⟨rfl, hfin⟩
  · go_wp2
    go_ret
    exact ⟨rfl, hfin⟩

set_option maxHeartbeats 400000 in
theorem toChunk_any (A : Option Addr) (l : List UInt8) (c : Nat) (w : World) (hl : l.length ≤ 1048576) (h : Bs w A l) :
    Calls Tryd.prog 86 #[.agg #[.slice A l.length c]] w fun e w' => ∃ v, e = .returned (.agg #[v]) ∧ Own w' w.heap.size v l ∧ Below w.heap.size w w' := by
  have h2 := fun x y t u => h.below ((((Below.refl w.heap.size w).alloc (Nat.le_refl _) (.cells #[x] t))).alloc (by simp) (.cells #[y] u))
  have h3 := fun x y z t u o => h.below (((((Below.refl w.heap.size w).alloc (Nat.le_refl _) (.cells #[x] t))).alloc (by simp) (.cells #[y] u)).alloc (by simp; omega) (.cells #[z] o))
  go_enter Tryd.func86, Tryd.ntmps86
  go_wp2_with fail
  refine (toByteS_any A l c _ hl (by exact h3 _ _ _ _ _ _)).mono ?_
  rintro e w1 ⟨rfl, hrow, hb⟩
  obtain ⟨hc, hf⟩ := bcell hb
  have hz : w.heap.size + 3 ≤ w1.heap.size := by have := hb.size; simp at this; omega
  go_wp2
  have hown : Own w1 (w.heap.size + 3) (.slice (some ⟨w.heap.size + 3, 0, none⟩) l.length l.length) l := by
    have := Row.own hrow (w.heap.size + 3) (by simp) (by unfold maxLen; omega)
    simpa using this
  have hbw : Below w.heap.size w w1 := (((((Below.refl w.heap.size w).alloc (Nat.le_refl _) _)).alloc (by simp) _).alloc (by simp; omega) _).trans (hb.mono (by simp; omega))
  refine bodyPost_ret (v := .agg #[.slice (some ⟨w.heap.size + 3, 0, none⟩) l.length l.length]) (by simp [results, Tryd.results86, go_sem, hc]) rfl ⟨_, rfl, ?_, ?_⟩
  · exact ((hown.setBelow (by simp) _).setBelow (by simp) _).mono (by omega)
  · exact (hbw.setCell (by simp; omega) _).setCell (by simp) _

/-- What a reading of a slice of bytes gives. -/
theorem bRd_slice {w : World} {v : Value} {l : List UInt8} (h : bRd w [v] l) : ∃ A c, v = .slice A l.length c ∧ l.length ≤ c ∧ c ≤ maxLen ∧ Bs w A l := by
  obtain ⟨A, c, e, h⟩ := h
  cases e
  exact ⟨A, c, rfl, h⟩

/-- The slice of chunks that starts at A. -/
def Cs (w : World) (A : Option Addr) (ls : List (List UInt8)) : Prop := Sl 1 bRd w A ls
theorem Cs.below {w w' : World} {A : Option Addr} {ls : List (List UInt8)} (h : Cs w A ls) (hb : Below w.heap.size w w') : Cs w' A ls := Sl.below (E := Lay.bytes) h hb
theorem Cs.at_ {w : World} {A : Option Addr} {ls : List (List UInt8)} (h : Cs w A ls) (k : Nat) (hk : k < ls.length) :
    ∃ b off B c, A = some ⟨b, off, none⟩ ∧ b < w.heap.size ∧ w.cell? ⟨b, off + k, none⟩ = some (.slice B (ls[k]).length c) ∧ (ls[k]).length ≤ c ∧ c ≤ maxLen ∧ Bs w B ls[k] := by
  obtain ⟨b, off, v, hA, hb, hc, hr⟩ := Sl.at1 h k hk
  obtain ⟨B, c, rfl, h1, h2, h3⟩ := bRd_slice hr
  exact ⟨b, off, B, c, hA, hb, hc, h1, h2, h3⟩

def tot (ls : List (List UInt8)) : Nat := ls.flatten.length
theorem tot_take (ls : List (List UInt8)) (k : Nat) (h : k < ls.length) : tot (ls.take (k + 1)) = tot (ls.take k) + (ls[k]).length := by
  unfold tot; rw [flat_snoc ls k h, List.length_append]
theorem tot_all (ls : List (List UInt8)) : tot (ls.take ls.length) = tot ls := by rw [List.take_length]
theorem tot_mem {ls : List (List UInt8)} (k : Nat) (h : k < ls.length) : (ls[k]).length ≤ tot ls := by
  have h1 := tot_take ls k h
  have h2 : ls.flatten = (ls.take (k + 1)).flatten ++ (ls.drop (k + 1)).flatten := by rw [← List.flatten_append, List.take_append_drop]
  have h3 : tot ls = tot (ls.take (k + 1)) + tot (ls.drop (k + 1)) := by unfold tot; rw [← List.length_append, ← h2]
  omega

set_option maxHeartbeats 800000 in
theorem szChunkS_any (A : Option Addr) (ls : List (List UInt8)) (c : Nat) (w : World) (hn : ls.length ≤ 9223372036854775807) (hC : Cs w A ls) :
    Calls Tryd.prog 52 #[.slice A ls.length c, .int .i64 1048576] w fun e w' => (∃ r : Int, e = .returned (.int .i64 r) ∧ (r < 0 ∨ (0 ≤ r ∧ ls.length + tot ls ≤ 1048576))) ∧ Below w.heap.size w w' := by
  by_cases h : 1048576 - (ls.length : Int) < 0
  · go_enter Tryd.func52, Tryd.ntmps52
    go_wp2
    go_ret
    exact ⟨⟨_, rfl, .inl (by omega)⟩, Below.refl _ _⟩
  · go_enter Tryd.func52, Tryd.ntmps52
    go_wp2
    go_loopw [1, 5] (fun lf i wr => ∃ k : Nat, ∃ r : Int, k ≤ ls.length ∧ i = .int .i64 k ∧ lf = .int .i64 r ∧ 0 ≤ r ∧ r ≤ 1048576 ∧ ls.length + tot (ls.take k) + r ≤ 1048576 ∧ Below w.heap.size w wr) (fun _ i _ => ls.length - (intOf i).toNat)
    case atStart => exact ⟨0, 1048576 - ls.length, Nat.zero_le _, rfl, rfl, by omega, by omega, by simp [tot]; omega, Below.refl _ _⟩
    case round =>
      obtain ⟨k, r, hk, rfl, rfl, hr0, hr1, hr2, hb⟩ := hrel
      by_cases hlt : k < ls.length
      · obtain ⟨b, off, B, d, rfl, hbl, hc, hld, hdm, hB⟩ := (hC.below hb).at_ k hlt
        have htk := tot_take ls k hlt
        have HT := Lib.hid htk
        clear htk
        generalize hL : ls[k] = L at *
        have hdm9 : L.length ≤ 9223372036854775807 := by unfold maxLen at hdm; omega
        have HL := Lib.hid hL
        clear hL
        go_wp2_with fail
        refine (szChunk_any B L.length d r _ hdm9 hr0 hr1).mono ?_
        rintro e w1 ⟨⟨q, rfl, hq⟩, hb1⟩
        have hb2 := below_then hb hb1
        by_cases hneg : q < 0
        · go_wp2
          go_ret
          exact ⟨⟨_, rfl, .inl (by omega)⟩, hb2⟩
        · go_wp2
          go_roundw
          case rel => exact ⟨k + 1, q, by omega, by go_num, rfl, by omega, by omega, by rw [HT.out]; omega, hb2⟩
          case measure => simp [intOf]; omega
      · have e : k = ls.length := by omega
        subst e
        rw [tot_all] at hr2
        go_wp2
        go_ret
        exact ⟨⟨_, rfl, .inr ⟨hr0, by omega⟩⟩, hb⟩

set_option maxHeartbeats 1000000 in
theorem eqChunkS_any (A B : Option Addr) (ls rs : List (List UInt8)) (c d : Nat) (w : World) (hl : ls.length ≤ 9223372036854775807) (hA : Cs w A ls) (hB : Cs w B rs) :
    Calls Tryd.prog 54 #[.slice A ls.length c, .slice B rs.length d] w fun e w' => e = .returned (.bool (decide (ls = rs))) ∧ Below w.heap.size w w' := by
  by_cases hlen : ls.length = rs.length
  · have hne : ((ls.length : Int) != (rs.length : Int)) = false := by simp [hlen]
    have HLEN := Lib.hid hlen
    have hle : ls.length ≤ rs.length := by omega
    clear hlen
    go_enter Tryd.func54, Tryd.ntmps54
    go_wp2
    go_loopw [5] (fun i wr => ∃ k : Nat, k ≤ ls.length ∧ i = .int .i64 k ∧ ls.take k = rs.take k ∧ Below w.heap.size w wr)
      (fun i _ => ls.length - (intOf i).toNat)
    case atStart => exact ⟨0, Nat.zero_le _, rfl, by simp, Below.refl _ _⟩
    case round =>
      obtain ⟨k, hk, rfl, htake, hb⟩ := hrel
      by_cases hlt : k < ls.length
      · have hlt2 : k < rs.length := by omega
        obtain ⟨b, off, B1, d1, rfl, hbl, hc1, hld1, hdm1, hB1⟩ := (hA.below hb).at_ k hlt
        obtain ⟨b2, off2, B2, d2, rfl, hbl2, hc2, hld2, hdm2, hB2⟩ := (hB.below hb).at_ k hlt2
        have HT := Lib.hid htake
        clear htake
        have hst : ls.take (k + 1) = rs.take (k + 1) ↔ ls[k] = rs[k] := by
          rw [List.take_succ_eq_append_getElem hlt, List.take_succ_eq_append_getElem hlt2, HT.out, List.append_cancel_left_eq]
          simp only [List.cons.injEq, and_true]
        have HS := Lib.hid hst
        clear hst
        have hi0 : (0 : Int) ≤ (k : Int) := by omega
        have hi1 : (k : Int) < (ls.length : Int) := by omega
        have hi2 : (k : Int) < (rs.length : Int) := by omega
        generalize hL : ls[k] = L at *
        generalize hR : rs[k] = R at *
        have HL := Lib.hid hL
        have HR := Lib.hid hR
        clear hL hR
        have hdm9 : L.length ≤ 9223372036854775807 := by unfold maxLen at hdm1; omega
        generalize hq : decide (L = R) = q
        have HQ := Lib.hid hq
        clear hq
        go_wp2
        go_region_with (go_at_call 87; refine (eqChunk_any B1 B2 L R d1 d2 _ hdm9 (by exact hB1) (by exact hB2)).mono ?_; rintro e w1 ⟨rfl, hb1⟩; rw [HQ.out]; have hb2 : Below w.heap.size w w1 := below_then (b := wr.drew) hb.drew hb1)
        all_goals
          cases q
          · go_wp2
            go_ret
            have : ls ≠ rs := by
              intro e
              subst e
              have h1 := of_decide_eq_false HQ.out
              exact h1 (by rw [← HL.out, ← HR.out])
            exact ⟨by simp [this], hb2⟩
          · go_wp2
            go_roundw
            case rel => exact ⟨k + 1, by omega, by go_num, HS.out.2 (of_decide_eq_true HQ.out), hb2⟩
            case measure => simp [intOf]; omega
      · go_wp2
        go_ret
        have e1 : k = ls.length := by omega
        subst e1
        rw [List.take_length] at htake
        have e2 : ls = rs := by rw [htake, HLEN.out, List.take_length]
        exact ⟨by simp [e2], hb⟩
  · have hne : ((ls.length : Int) != (rs.length : Int)) = true := by simp; omega
    go_enter Tryd.func54, Tryd.ntmps54
    go_wp2
    go_ret
    exact ⟨by simp; intro e; exact hlen (by rw [e]), Below.refl _ _⟩

/-- One chunk more in a new row of chunks that is being filled. -/
theorem Cs_of {w : World} {g : Nat} {ls : List (List UInt8)} (h : ∀ k (hk : k < ls.length), ∃ v, w.cell? ⟨g, k, none⟩ = some v ∧ bRd w [v] ls[k]) (hg : g < w.heap.size) : Cs w (some ⟨g, 0, none⟩) ls := by
  intro k hk
  obtain ⟨v, hc, hr⟩ := h k hk
  refine ⟨g, 0, [v], rfl, hg, rfl, fun j hj => ?_, hr⟩
  have : j = 0 := by simpa using hj
  subst this
  simpa using hc

/-- The chunks as a layout. -/
def Lay.chunks : Lay (List (List UInt8)) := Lay.slice 74 Lay.bytes

theorem Lay.chunks_rd {w : World} {v : Value} {ls : List (List UInt8)} (h : Lay.chunks.rd w [v] ls) : ∃ A c, v = .slice A ls.length c ∧ ls.length ≤ c ∧ c ≤ maxLen ∧ Cs w A ls := by
  obtain ⟨A, c, e, h⟩ := h
  cases e
  exact ⟨A, c, rfl, h⟩

theorem Tryd.infoCh : (Tryd.prog.info? 74).map (fun i => (i.zero, i.size, i.bytes)) = some (some (.agg #[.slice none 0 0]), 1, 24) := by kernel_rfl


end Go.Proofs.YtnpbdkfkdbfdhaaDoor
