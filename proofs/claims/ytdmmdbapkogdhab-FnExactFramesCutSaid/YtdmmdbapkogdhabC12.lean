/-
  Chapter 9, the laws' helpers on lists of pieces: contracts (as those on chunks). Own work.
-/
import Derived.Test.YtdmmdbapkogdhabC02b
namespace Go.Proofs.Ytdmmdbapkogdhab
open Go.RowKit P
set_option linter.unusedVariables false

set_option maxHeartbeats 400000 in
theorem szPiece_any (A : Option Addr) (n c : Nat) (left : Int) (w : World) (hn : n ≤ 9223372036854775807) (h0 : 0 ≤ left) (h1 : left ≤ 1048576) :
    Calls Try.prog 18 #[.agg #[.slice A n c], .int .i64 left] w fun e w' => (∃ r : Int, e = .returned (.int .i64 r) ∧ ((r = -1 ∧ left < n) ∨ (0 ≤ r ∧ r = left - n))) ∧ Below w.heap.size w w' := by
  go_enter Try.func18, Try.ntmps18
  go_wp2_with fail
  refine (szByteS_any A n c left _ hn h0 h1).mono ?_
  rintro e w1 ⟨⟨r, rfl, hr⟩, rfl⟩
  by_cases hneg : r < 0
  · go_wp2
    go_ret
    exact ⟨⟨_, rfl, .inl ⟨rfl, by omega⟩⟩, (Below.refl _ _).alloc (Nat.le_refl _) _⟩
  · go_wp2
    go_ret
    exact ⟨⟨_, rfl, by omega⟩, (Below.refl _ _).alloc (Nat.le_refl _) _⟩

set_option maxHeartbeats 400000 in
theorem eqPiece_any (A B : Option Addr) (l r : List UInt8) (c d : Nat) (w : World) (hl : l.length ≤ 9223372036854775807) (hA : Bs w A l) (hB : Bs w B r) :
    Calls Try.prog 24 #[.agg #[.slice A l.length c], .agg #[.slice B r.length d]] w fun e w' => e = .returned (.bool (decide (l = r))) ∧ Below w.heap.size w w' := by
  have hA2 := fun x y t => hA.below ((((Below.refl w.heap.size w).alloc (Nat.le_refl _) (.cells #[x] t))).alloc (by simp) (.cells #[y] t))
  have hB2 := fun x y t => hB.below ((((Below.refl w.heap.size w).alloc (Nat.le_refl _) (.cells #[x] t))).alloc (by simp) (.cells #[y] t))
  generalize hq : decide (l = r) = q
  have HQ := Lib.hid hq
  clear hq
  go_enter Try.func24, Try.ntmps24
  go_wp2_with fail
  refine (eqByteS_any A B l r c d _ hl (by exact hA2 _ _ _) (by exact hB2 _ _ _)).mono ?_
  rintro e w1 ⟨rfl, n, rfl⟩
  rw [HQ.out]
  have hfin := below_drewN (((Below.refl w.heap.size w).alloc (Nat.le_refl _) (.cells #[.slice A l.length c] 40)).alloc (by simp) (.cells #[.slice B r.length d] 40)) n
  cases q
  · go_wp2
    go_ret
    exact ⟨rfl, hfin⟩
  · go_wp2
    go_ret
    exact ⟨rfl, hfin⟩

set_option maxHeartbeats 400000 in
theorem toPiece_any (A : Option Addr) (l : List UInt8) (c : Nat) (w : World) (hl : l.length ≤ 1048576) (h : Bs w A l) :
    Calls Try.prog 20 #[.agg #[.slice A l.length c]] w fun e w' => ∃ v, e = .returned (.agg #[v]) ∧ Own w' w.heap.size v l ∧ Below w.heap.size w w' := by
  have h2 := fun x y t u => h.below ((((Below.refl w.heap.size w).alloc (Nat.le_refl _) (.cells #[x] t))).alloc (by simp) (.cells #[y] u))
  have h3 := fun x y z t u o => h.below (((((Below.refl w.heap.size w).alloc (Nat.le_refl _) (.cells #[x] t))).alloc (by simp) (.cells #[y] u)).alloc (by simp; omega) (.cells #[z] o))
  go_enter Try.func20, Try.ntmps20
  go_wp2_with fail
  refine (toByteS_any A l c _ hl (by exact h3 _ _ _ _ _ _)).mono ?_
  rintro e w1 ⟨rfl, hrow, hb⟩
  obtain ⟨hc, hf⟩ := bcell hb
  have hz : w.heap.size + 3 ≤ w1.heap.size := by have := hb.size; simp at this; omega
  go_wp2
  have hown : Own w1 (w.heap.size + 3) (.slice (some ⟨w.heap.size + 3, 0, none⟩) l.length l.length) l := by
    have := Row.own hrow (w.heap.size + 3) (by simp) (by unfold maxLen; omega)
    simpa using this
  have hbw : Below w.heap.size w w1 := (((((Below.refl w.heap.size w).alloc (Nat.le_refl _) _)).alloc (by simp) _).alloc (by simp; omega) _).trans (hb.mono (by simp; omega))
  refine bodyPost_ret (v := .agg #[.slice (some ⟨w.heap.size + 3, 0, none⟩) l.length l.length]) (by simp [results, Try.results20, go_sem, hc]) rfl ⟨_, rfl, ?_, ?_⟩
  · exact ((hown.setBelow (by simp) _).setBelow (by simp) _).mono (by omega)
  · exact (hbw.setCell (by simp; omega) _).setCell (by simp) _

set_option maxHeartbeats 800000 in
theorem szPieceS_any (A : Option Addr) (ls : List (List UInt8)) (c : Nat) (w : World) (hn : ls.length ≤ 9223372036854775807) (hC : Cs w A ls) :
    Calls Try.prog 5 #[.slice A ls.length c, .int .i64 1048576] w fun e w' => (∃ r : Int, e = .returned (.int .i64 r) ∧ (r < 0 ∨ (0 ≤ r ∧ ls.length + tot ls ≤ 1048576))) ∧ Below w.heap.size w w' := by
  by_cases h : 1048576 - (ls.length : Int) < 0
  · go_enter Try.func5, Try.ntmps5
    go_wp2
    go_ret
    exact ⟨⟨_, rfl, .inl (by omega)⟩, Below.refl _ _⟩
  · go_enter Try.func5, Try.ntmps5
    go_wp2
    go_loopw [1, 5] (fun lf i wr => ∃ k : Nat, ∃ r : Int, k ≤ ls.length ∧ i = .int .i64 k ∧ lf = .int .i64 r ∧ 0 ≤ r ∧ r ≤ 1048576 ∧ ls.length + tot (ls.take k) + r ≤ 1048576 ∧ Below w.heap.size w wr) (fun _ i _ => ls.length - (intOf i).toNat)
    case atStart => exact ⟨0, 1048576 - ls.length, Nat.zero_le _, rfl, rfl, by omega, by omega, by simp [tot]; omega, Below.refl _ _⟩
    case round =>
      obtain ⟨k, r, hk, rfl, rfl, hr0, hr1, hr2, hb⟩ := hrel
      by_cases hlt : k < ls.length
      · obtain ⟨b, off, B, d, rfl, hbl, hc, hld, hdm, hB⟩ := (hC.below hb).at_ k hlt
        have htk := tot_take ls k hlt
        have HT := Lib.hid htk
        clear htk
        generalize hL : ls[k] = L at *
        have hdm9 : L.length ≤ 9223372036854775807 := by unfold maxLen at hdm; omega
        have HL := Lib.hid hL
        clear hL
        go_wp2_with fail
        refine (szPiece_any B L.length d r _ hdm9 hr0 hr1).mono ?_
        rintro e w1 ⟨⟨q, rfl, hq⟩, hb1⟩
        have hb2 := below_then hb hb1
        by_cases hneg : q < 0
        · go_wp2
          go_ret
          exact ⟨⟨_, rfl, .inl (by omega)⟩, hb2⟩
        · go_wp2
          go_roundw
          case rel => exact ⟨k + 1, q, by omega, by go_num, rfl, by omega, by omega, by rw [HT.out]; omega, hb2⟩
          case measure => simp [intOf]; omega
      · have e : k = ls.length := by omega
        subst e
        rw [tot_all] at hr2
        go_wp2
        go_ret
        exact ⟨⟨_, rfl, .inr ⟨hr0, by omega⟩⟩, hb⟩

set_option maxHeartbeats 1000000 in
theorem eqPieceS_any (A B : Option Addr) (ls rs : List (List UInt8)) (c d : Nat) (w : World) (hl : ls.length ≤ 9223372036854775807) (hA : Cs w A ls) (hB : Cs w B rs) :
    Calls Try.prog 10 #[.slice A ls.length c, .slice B rs.length d] w fun e w' => e = .returned (.bool (decide (ls = rs))) ∧ Below w.heap.size w w' := by
  by_cases hlen : ls.length = rs.length
  · have hne : ((ls.length : Int) != (rs.length : Int)) = false := by simp [hlen]
    have HLEN := Lib.hid hlen
    have hle : ls.length ≤ rs.length := by omega
    clear hlen
    go_enter Try.func10, Try.ntmps10
    go_wp2
    go_loopw [5] (fun i wr => ∃ k : Nat, k ≤ ls.length ∧ i = .int .i64 k ∧ ls.take k = rs.take k ∧ Below w.heap.size w wr)
      (fun i _ => ls.length - (intOf i).toNat)
    case atStart => exact ⟨0, Nat.zero_le _, rfl, by simp, Below.refl _ _⟩
    case round =>
      obtain ⟨k, hk, rfl, htake, hb⟩ := hrel
      by_cases hlt : k < ls.length
      · have hlt2 : k < rs.length := by omega
        obtain ⟨b, off, B1, d1, rfl, hbl, hc1, hld1, hdm1, hB1⟩ := (hA.below hb).at_ k hlt
        obtain ⟨b2, off2, B2, d2, rfl, hbl2, hc2, hld2, hdm2, hB2⟩ := (hB.below hb).at_ k hlt2
        have HT := Lib.hid htake
        clear htake
        have hst : ls.take (k + 1) = rs.take (k + 1) ↔ ls[k] = rs[k] := by
          rw [List.take_succ_eq_append_getElem hlt, List.take_succ_eq_append_getElem hlt2, HT.out, List.append_cancel_left_eq]
          simp only [List.cons.injEq, and_true]
        have HS := Lib.hid hst
        clear hst
        have hi0 : (0 : Int) ≤ (k : Int) := by omega
        have hi1 : (k : Int) < (ls.length : Int) := by omega
        have hi2 : (k : Int) < (rs.length : Int) := by omega
        generalize hL : ls[k] = L at *
        generalize hR : rs[k] = R at *
        have HL := Lib.hid hL
        have HR := Lib.hid hR
        clear hL hR
        have hdm9 : L.length ≤ 9223372036854775807 := by unfold maxLen at hdm1; omega
        generalize hq : decide (L = R) = q
        have HQ := Lib.hid hq
        clear hq
        go_wp2
        go_region_with (go_at_call 24; refine (eqPiece_any B1 B2 L R d1 d2 _ hdm9 (by exact hB1) (by exact hB2)).mono ?_; rintro e w1 ⟨rfl, hb1⟩; rw [HQ.out]; have hb2 : Below w.heap.size w w1 := below_then (b := wr.drew) hb.drew hb1)
        all_goals
          cases q
          · go_wp2
            go_ret
            have : ls ≠ rs := by
              intro e
              subst e
              have h1 := of_decide_eq_false HQ.out
              exact h1 (by rw [← HL.out, ← HR.out])
            exact ⟨by simp [this], hb2⟩
          · go_wp2
            go_roundw
            case rel => exact ⟨k + 1, by omega, by go_num, HS.out.2 (of_decide_eq_true HQ.out), hb2⟩
            case measure => simp [intOf]; omega
      · go_wp2
        go_ret
        have e1 : k = ls.length := by omega
        subst e1
        rw [List.take_length] at htake
        have e2 : ls = rs := by rw [htake, HLEN.out, List.take_length]
        exact ⟨by simp [e2], hb⟩
  · have hne : ((ls.length : Int) != (rs.length : Int)) = true := by simp; omega
    go_enter Try.func10, Try.ntmps10
    go_wp2
    go_ret
    exact ⟨by simp; intro e; exact hlen (by rw [e]), Below.refl _ _⟩

/-- The chunks as a layout. -/
def Lay.pieces : Lay (List (List UInt8)) := Lay.slice 40 Lay.bytes

theorem Lay.pieces_rd {w : World} {v : Value} {ls : List (List UInt8)} (h : Lay.pieces.rd w [v] ls) : ∃ A c, v = .slice A ls.length c ∧ ls.length ≤ c ∧ c ≤ maxLen ∧ Cs w A ls := by
  obtain ⟨A, c, e, h⟩ := h
  cases e
  exact ⟨A, c, rfl, h⟩

theorem Try.infoPi : (Try.prog.info? 40).map (fun i => (i.zero, i.size, i.bytes)) = some (some (.agg #[.slice none 0 0]), 1, 24) := by kernel_rfl

set_option maxHeartbeats 1000000 in
theorem toPieceS_any (A : Option Addr) (ls : List (List UInt8)) (c : Nat) (w : World) (hn : ls.length + tot ls ≤ 1048576) (hC : Cs w A ls) :
    Calls Try.prog 7 #[.slice A ls.length c] w (Gives Lay.pieces wSlice ls w) := by
  have hmk : ∀ W, (Instr.makeSlice 26 (.int .i64 (ls.length : Int)) (.int .i64 (ls.length : Int))).run Try.prog W = .ok (.slice (some ⟨W.heap.size, 0, none⟩) ls.length ls.length) (W.alloc (.cells (madeCells #[.slice none 0 0] ls.length) 40)) := fun W => by
    have := run_mk (P := Try.prog) 26 40 (.agg #[.slice none 0 0]) 1 24 Try.underlying26 Try.infoPi ls.length (by omega) (by omega) W
    rw [Nat.mul_one] at this
    exact this
  go_enter Try.func7, Try.ntmps7
  go_wp2
  go_loopw [4] (fun i wr => ∃ es : List (El (List UInt8)), es.length ≤ ls.length ∧ i = .int .i64 es.length ∧ ls.take es.length = es.map (·.2.1) ∧
      Filling 40 Lay.bytes (fun _ => .slice none 0 0) ls.length wr w.heap.size es ∧ Below w.heap.size w wr)
    (fun i _ => ls.length - (intOf i).toNat)
  case atStart => exact ⟨[], Nat.zero_le _, rfl, by simp, Filling.made1 rfl _ _ _, (Below.refl _ _).alloc (Nat.le_refl _) _⟩
  case round =>
    obtain ⟨es, hk, rfl, htk, hfill, hbel⟩ := hrel
    have HTK := Lib.hid htk
    clear htk
    by_cases hlt : es.length < ls.length
    · obtain ⟨b, off, B, d, rfl, hbl, hc, hld, hdm, hB⟩ := (hC.below hbel).at_ es.length hlt
      have htot := tot_mem (ls := ls) es.length hlt
      have hnext : ls.take (es.length + 1) = es.map (·.2.1) ++ [ls[es.length]] := by rw [List.take_succ_eq_append_getElem hlt, HTK.out]
      generalize hL : ls[es.length] = L at *
      have HL := Lib.hid hL
      have HN := Lib.hid hnext
      clear hL hnext
      obtain ⟨k, hkk⟩ : ∃ k, es.length = k := ⟨_, rfl⟩
      have hlt' := hlt
      rw [hkk] at hc hlt' hk
      have HK := Lib.hid hkk
      rw [hkk]
      clear hkk
      have hw : w.heap.size < wr.heap.size := hfill.row.lt
      go_wp2_with fail
      refine (toPiece_any B L d _ (by omega) (by exact hB)).mono ?_
      rintro e w1 ⟨v, rfl, hown, hb1⟩
      have hrow1 := hfill.row.of_block (hb1.block _ hfill.row.lt)
      obtain ⟨u, hu⟩ : ∃ u, w1.cell? ⟨w.heap.size, k, none⟩ = some u := ⟨_, hrow1.cell (by show k < ls.length * 1; omega)⟩
      have hfz := hrow1.frozen k
      have hs1 := hb1.size
      have hfp := hown.fp
      obtain ⟨A', c', rfl, _, _, _⟩ := hown.form
      have hf2 := hfill.snoc1 hb1 rfl hown.ow hfp.1 hfp.2
      have HF2 := Lib.hid hf2
      clear hrow1 hf2 hfill hown hfp
      go_wp2
      go_roundw
      case rel =>
        refine ⟨_, ?_, ?_, ?_, by rw [← HK.out]; exact HF2.out, (below_then hbel hb1).setCell (Nat.le_refl _) _⟩
        · rw [List.length_append]; simp; omega
        · rw [List.length_append, ← HK.out]; simp
        · rw [List.length_append, List.length_singleton, HN.out, List.map_append]; rfl
      case measure => simp [intOf]; have := HK.out; omega
    · have e : es.length = ls.length := by omega
      obtain ⟨h1, h2, h3⟩ := hfill.done e (by unfold maxLen; omega)
      have e2 : es.map (·.2.1) = ls := by rw [← HTK.out, e, List.take_length]
      rw [e2] at h1
      have H1 := Lib.hid h1
      have HE := Lib.hid e
      clear h1 e e2 hfill
      go_wp2
      go_ret
      exact ⟨_, _, rfl, H1.out, h2, h3, hbel⟩

set_option maxHeartbeats 1000000 in
theorem markPieceS_any (v : Value) (ls : List (List UInt8)) (fp : List Nat) (k : Nat) (w : World) (hk : k + tot ls ≤ 1900000) (hl : ls.length + tot ls ≤ 1100000) (hn : fp.Nodup) (h : Lay.pieces.ow w [v] ls fp) :
    Calls Try.prog 11 #[v, .int .i64 k] w fun e w' => e = .returned (.int .i64 ((k + tot ls : Nat) : Int)) ∧ Lay.pieces.ow w' [v] (marksC k ls) fp ∧ Keeps fp w w' := by
  obtain ⟨A, c, rfl, hlc, hcm, hC⟩ := Lay.pieces_rd (Lay.pieces.read h)
  go_enter Try.func11, Try.ntmps11
  go_wp2
  go_loopw [1, 5] (fun kk i wr => ∃ j : Nat, j ≤ ls.length ∧ i = .int .i64 j ∧ kk = .int .i64 ((k + tot (ls.take j) : Nat) : Int) ∧ Lay.pieces.ow wr [.slice A ls.length c] (marksC k (ls.take j) ++ ls.drop j) fp ∧ Keeps fp w wr) (fun _ i _ => ls.length - (intOf i).toNat)
  case atStart => exact ⟨0, Nat.zero_le _, rfl, by simp [tot], by simpa [marksC] using h, Keeps.refl _ _⟩
  case round =>
    obtain ⟨j, hj, rfl, rfl, how, hke⟩ := hrel
    have hlen : (marksC k (ls.take j) ++ ls.drop j).length = ls.length := by rw [List.length_append, marksC_length, List.length_take, List.length_drop]; omega
    by_cases hlt : j < ls.length
    · obtain ⟨g, c', us, fi, hv, hus, hcell, hgl, hfz, hei, hni, hfi, hback⟩ := Lay.focus how hn j (by omega)
      have hget : (marksC k (ls.take j) ++ ls.drop j)[j]'(by omega) = ls[j] := by
        rw [List.getElem_append_right (by rw [marksC_length, List.length_take]; omega)]
        simp only [marksC_length, List.length_take, List.getElem_drop]
        congr 1
        omega
      have hset : (marksC k (ls.take j) ++ ls.drop j).set j (marks (k + tot (ls.take j)) (ls[j]).length) = marksC k (ls.take (j + 1)) ++ ls.drop (j + 1) := by
        rw [List.take_succ_eq_append_getElem hlt, marksC_snoc, List.append_assoc, List.singleton_append, List.drop_eq_getElem_cons hlt,
          List.set_append_right _ _ (by rw [marksC_length, List.length_take]; omega), marksC_length, List.length_take, show j - min j ls.length = 0 by omega, List.set_cons_zero]
      rw [hget] at hei
      have htk := tot_take ls j hlt
      have htm := tot_mem (ls := ls) j hlt
      have htj : tot (ls.take (j + 1)) ≤ tot ls := by
        have h2 : ls.flatten = (ls.take (j + 1)).flatten ++ (ls.drop (j + 1)).flatten := by rw [← List.flatten_append, List.take_append_drop]
        unfold tot
        rw [h2, List.length_append]
        omega
      have HSET := Lib.hid hset
      have HB := Lib.hid hback
      have HFI := Lib.hid hfi
      have HGT := Lib.hid hget
      clear hset hback hfi hget
      rw [hlen] at hv
      cases hv
      obtain ⟨vi, hvi, howi, hfpi⟩ := hei
      cases hvi
      have hc0 := hcell 0 (by simp)
      simp only [List.getElem_cons_zero, Nat.add_zero] at hc0
      have hc1 : wr.cell? ⟨g, j, none⟩ = some vi := by
        have e : j * Lay.bytes.sz = j := Nat.mul_one j
        rw [e] at hc0
        exact hc0
      clear hc0 hcell
      have hji : (j : Int) < (ls.length : Int) := by omega
      obtain ⟨m, hm⟩ : ∃ m, k + tot (ls.take j) = m := ⟨_, rfl⟩
      have hm1 : m ≤ 2000000 := by omega
      have hm2 : (ls[j]).length ≤ 2000000 := by omega
      have hm3 : k + tot (ls.take (j + 1)) = m + (ls[j]).length := by omega
      rw [hm]
      rw [hm] at HSET
      have HM3 := Lib.hid hm3
      have HFP := Lib.hid hfpi
      clear hm hm3 htk hfpi
      go_wp2_with fail
      refine (markByteS_any vi ls[j] 0 m _ hm1 hm2 (by exact howi)).mono ?_
      rintro e w1 ⟨rfl, hown1, hgr⟩
      have hkb : Keeps fi wr w1 := by rw [HFP.out]; exact Keeps.of_grown hgr
      have how1 := HB.out w1 (marks m (ls[j]).length) hkb ⟨vi, rfl, hown1, HFP.out⟩
      rw [HSET.out] at how1
      have hkb2 := hke.trans (hkb.mono (fun x hx => (HFI.out x hx).1))
      clear hkb hown1 hgr howi how hke hC
      go_wp2
      go_roundw
      case rel => exact ⟨j + 1, by omega, by go_num, by rw [HM3.out]; go_num, how1, hkb2⟩
      case measure => simp [intOf]; omega
    · have e : j = ls.length := by omega
      subst e
      rw [List.take_length, List.drop_length, List.append_nil] at how
      have htk : tot (ls.take ls.length) = tot ls := tot_all ls
      rw [htk]
      clear htk
      go_wp2
      go_ret
      exact ⟨rfl, how, hke⟩

set_option maxHeartbeats 1000000 in
theorem heldPieceS_any (A : Option Addr) (ls : List (List UInt8)) (c k : Nat) (w : World) (hk : k + tot ls ≤ 1900000) (hl : ls.length + tot ls ≤ 1100000) (h : Cs w A (marksC k ls)) :
    Calls Try.prog 17 #[.slice A ls.length c, .int .i64 k] w fun e w' => e = .returned (.int .i64 ((k + tot ls : Nat) : Int)) ∧ w' = w := by
  go_enter Try.func17, Try.ntmps17
  go_wp2
  go_loop [1, 5] (fun kk i => ∃ j : Nat, j ≤ ls.length ∧ i = .int .i64 j ∧ kk = .int .i64 ((k + tot (ls.take j) : Nat) : Int)) (fun _ i => ls.length - (intOf i).toNat)
  case atStart => exact ⟨0, Nat.zero_le _, rfl, by simp [tot]⟩
  case round =>
    obtain ⟨j, hj, rfl, rfl⟩ := hrel
    by_cases hlt : j < ls.length
    · obtain ⟨b, off, B, d, rfl, hbl, hc, hld, hdm, hB⟩ := h.at_ j (by rw [marksC_length]; exact hlt)
      rw [marksC_get k ls j hlt] at hc hB
      rw [marks_length] at hc
      have htk := tot_take ls j hlt
      have htm := tot_mem (ls := ls) j hlt
      have htj : tot (ls.take (j + 1)) ≤ tot ls := by
        have h2 : ls.flatten = (ls.take (j + 1)).flatten ++ (ls.drop (j + 1)).flatten := by rw [← List.flatten_append, List.take_append_drop]
        unfold tot
        rw [h2, List.length_append]
        omega
      obtain ⟨m, hm⟩ : ∃ m, k + tot (ls.take j) = m := ⟨_, rfl⟩
      have hm1 : m ≤ 2000000 := by omega
      have hm2 : (ls[j]).length ≤ 2000000 := by omega
      have hm3 : k + tot (ls.take (j + 1)) = m + (ls[j]).length := by omega
      have hm4 : ¬ ((m + (ls[j]).length : Nat) : Int) < 0 := by omega
      rw [hm] at hB ⊢
      have HM3 := Lib.hid hm3
      clear hm hm3 htk
      go_wp2_with fail
      refine (heldByteS_any B (ls[j]).length d m _ hm1 hm2 (by exact hB)).mono ?_
      rintro e w1 ⟨rfl, rfl⟩
      go_wp2
      go_round
      case rel => exact ⟨j + 1, by omega, by go_num, by rw [HM3.out]; go_num⟩
      case measure => simp [intOf]; omega
    · have e : j = ls.length := by omega
      subst e
      have htk : tot (ls.take ls.length) = tot ls := tot_all ls
      rw [htk]
      clear htk
      go_wp2
      go_ret
      exact ⟨rfl, rfl⟩
end Go.Proofs.Ytdmmdbapkogdhab
