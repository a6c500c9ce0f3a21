/-
 Chapter 5, the laws' helpers on lists of edits: contracts (sizes, equality, copies). Own work.
 Chapter 5, the laws' marks on lists of edits: contract. Own work.
 Lists of edits of the call's own: what is kept of them, and what a copy gives. Own work.
-/
import Derived.Test.YtaekanhjkpoifaaGreatDoorRp4
import Derived.Test.YtaekanhjkpoifaaGreatDoorRp3
import Derived.Test.YtaekanhjkpoifaaGreatDoorRp0
namespace Go.Proofs.YtaekanhjkpoifaaGreatDoor
open Go.RowKit P
set_option linter.unusedVariables false
set_option linter.unusedSimpArgs false
set_option maxRecDepth 100000

/-- What the edits of a list put. -/
def puts (es : List Ed) : List (List UInt8) := es.map (·.2.2)
theorem puts_length (es : List Ed) : (puts es).length = es.length := List.length_map _
theorem puts_get (es : List Ed) (k : Nat) (hk : k < es.length) : (puts es)[k]'(by rw [puts_length]; exact hk) = es[k].2.2 := by unfold puts; rw [List.getElem_map]

set_option maxHeartbeats 1000000 in
theorem szEditS_any (A : Option Addr) (es : List Ed) (c : Nat) (left : Int) (w : World) (hn : es.length ≤ 9223372036854775807) (h0 : 0 ≤ left) (h1 : left ≤ 1048576) (hE : Es w A es) :
  Calls Tryz.prog 122 #[.slice A es.length c, .int .i64 left] w fun e w' => (∃ r : Int, e = .returned (.int .i64 r) ∧ (r < 0 ∨ (0 ≤ r ∧ r + es.length + tot (puts es) ≤ left))) ∧ Below w.heap.size w w' := by
 by_cases h : left - (es.length : Int) < 0
 ·go_enter Tryz.func122, Tryz.ntmps122
  go_wp2
  go_ret
  exact ⟨⟨_, rfl, .inl (by omega)⟩, Below.refl _ _⟩
 ·go_enter Tryz.func122, Tryz.ntmps122
  go_wp2
  go_loopw [1, 5] (fun lf i wr => ∃ k : Nat, ∃ r : Int, k ≤ es.length ∧ i = .int .i64 k ∧ lf = .int .i64 r ∧ 0 ≤ r ∧ r ≤ 1048576 ∧ es.length + tot ((puts es).take k) + r ≤ left ∧ Below w.heap.size w wr) (fun _ i _ => es.length - (intOf i).toNat)
  case atStart => exact ⟨0, left - es.length, Nat.zero_le _, rfl, rfl, by omega, by omega, by simp [tot]; omega, Below.refl _ _⟩
  case round =>
   obtain ⟨k, r, hk, rfl, rfl, hr0, hr1, hr2, hb⟩ := hrel
   by_cases hlt : k < es.length
   ·obtain ⟨b, off, a, m, B, p, d, rfl, hbl, hek, k0, k1, k2, ha, hm, hpd, hdm, hBp⟩ := (hE.below hb).at_ k hlt
    have htk := tot_take (puts es) k (by rw [puts_length]; exact hlt)
    rw [puts_get es k hlt, hek] at htk
    have HT := Lib.hid htk
    have hp9 : p.length ≤ 9223372036854775807 := by unfold maxLen at hdm; omega
    clear htk hek
    go_wp2_with fail
    refine (szEdit_any a m B p.length d r _ hp9 hr0 hr1).mono ?_
    rintro e w1 ⟨⟨q, rfl, hq⟩, hb1⟩
    have hb2 := below_then hb hb1
    clear k0 k1 k2
    by_cases hneg : q < 0
    ·go_wp2
     go_ret
     exact ⟨⟨_, rfl, .inl (by omega)⟩, hb2⟩
    ·go_wp2
     go_roundw
     case rel => exact ⟨k + 1, q, by omega, by go_num, rfl, by omega, by omega, by rw [HT.out]; omega, hb2⟩
     case measure => simp [intOf]; omega
   ·have e : k = es.length := by omega
    subst e
    rw [← puts_length es, tot_all] at hr2
    rw [puts_length] at hr2
    go_wp2
    go_ret
    exact ⟨⟨_, rfl, .inr ⟨hr0, by omega⟩⟩, hb⟩

set_option maxHeartbeats 4000000 in
theorem toEditS_any (A : Option Addr) (es : List Ed) (c : Nat) (w : World) (hn : es.length + tot (puts es) ≤ 1048576) (hE : Es w A es) :
  Calls Tryz.prog 123 #[.slice A es.length c] w (Gives Lay.edits wSlice es w) := by
 have hmk : ∀ W, (Instr.makeSlice 29 (.int .i64 (es.length : Int)) (.int .i64 (es.length : Int))).run Tryz.prog W = .ok (.slice (some ⟨W.heap.size, 0, none⟩) es.length es.length) (W.alloc (.cells (madeCells #[.int .i64 0, .int .i64 0, .slice none 0 0] (es.length * 3)) 71)) := fun W =>
  run_mk (P := Tryz.prog) 29 71 (.agg #[.int .i64 0, .int .i64 0, .slice none 0 0]) 3 40 Tryz.underlying29 Tryz.infoEd es.length (by omega) (by omega) W
 go_enter Tryz.func123, Tryz.ntmps123
 go_wp2
 go_loopw [4] (fun i wr => ∃ L : List (El Ed), L.length ≤ es.length ∧ i = .int .i64 L.length ∧ es.take L.length = L.map (·.2.1) ∧
   Filling 71 Lay.edit (fun j => (#[.int .i64 0, .int .i64 0, .slice none 0 0] : Array Value)[j % 3]!) es.length wr w.heap.size L ∧ Below w.heap.size w wr)
  (fun i _ => es.length - (intOf i).toNat)
 case atStart => exact ⟨[], Nat.zero_le _, rfl, by simp, Filling.made #[.int .i64 0, .int .i64 0, .slice none 0 0] _ _, (Below.refl _ _).alloc (Nat.le_refl _) _⟩
 case round =>
  obtain ⟨L, hk, rfl, htk, hfill, hbel⟩ := hrel
  have HTK := Lib.hid htk
  clear htk
  by_cases hlt : L.length < es.length
  ·obtain ⟨b, off, a, m, B, p, d, rfl, hbl, hek, k0, k1, k2, ha, hm, hpd, hdm, hBp⟩ := (hE.below hbel).at_ L.length hlt
   have htot := tot_mem (ls := puts es) L.length (by rw [puts_length]; exact hlt)
   rw [puts_get es L.length hlt, hek] at htot
   have hnext : es.take (L.length + 1) = L.map (·.2.1) ++ [(a, m, p)] := by rw [List.take_succ_eq_append_getElem hlt, HTK.out, hek]
   have HN := Lib.hid hnext
   have hp4 : p.length ≤ 1048576 := by simp only at htot; omega
   clear hnext hek htot
   obtain ⟨k, hkk⟩ : ∃ k, L.length = k := ⟨_, rfl⟩
   have hlt' := hlt
   rw [hkk] at k0 k1 k2 hlt' hk
   have HK := Lib.hid hkk
   rw [hkk]
   clear hkk
   have hw : w.heap.size < wr.heap.size := hfill.row.lt
   have hki : (k : Int) < (es.length : Int) := by omega
   go_wp2_with fail
   refine (toEdit_any a m B p d _ hp4 (by exact hBp)).mono ?_
   rintro e w1 ⟨v, rfl, hown, hb1⟩
   have hrow1 := hfill.row.of_block (hb1.block _ hfill.row.lt)
   obtain ⟨u0, hu0⟩ : ∃ u, w1.cell? ⟨w.heap.size, k * 3, none⟩ = some u := ⟨_, hrow1.cell (by show k * 3 < es.length * 3; omega)⟩
   obtain ⟨u1, hu1⟩ : ∃ u, w1.cell? ⟨w.heap.size, k * 3 + 1, none⟩ = some u := ⟨_, hrow1.cell (by show k * 3 + 1 < es.length * 3; omega)⟩
   obtain ⟨u2, hu2⟩ : ∃ u, w1.cell? ⟨w.heap.size, k * 3 + 2, none⟩ = some u := ⟨_, hrow1.cell (by show k * 3 + 2 < es.length * 3; omega)⟩
   have hfz0 := hrow1.frozen (k * 3)
   have hfz1 := hrow1.frozen (k * 3 + 1)
   have hfz2 := hrow1.frozen (k * 3 + 2)
   have hs1 := hb1.size
   have hfp := hown.fp
   obtain ⟨A', c', rfl, _, _, _⟩ := hown.form
   have hr2 := ((hrow1.set (k * 3) (.int .i64 a)).set (k * 3 + 1) (.int .i64 m)).set (k * 3 + 2) (.slice A' p.length c')
   have hf2 := hfill.snoc hb1 (own_edit ha hm hown) hfp.1 hfp.2 (hr2.congr (by
    intro j hj
    have hs : Lay.edit.sz = 3 := rfl
    rw [hs, HK.out]
    by_cases c2 : j = k * 3 + 2
    ·subst c2; simp
    ·by_cases c1 : j = k * 3 + 1
     ·subst c1; simp
     ·by_cases c0 : j = k * 3
      ·subst c0; simp
      ·rw [if_neg c2, if_neg c1, if_neg c0, if_neg (by omega)])) (fun q hq => by rw [Below.heap_setCell _ _ _ _ hq, Below.heap_setCell _ _ _ _ hq, Below.heap_setCell _ _ _ _ hq]) (by simp)
   have HF2 := Lib.hid hf2
   clear hrow1 hf2 hr2 hfill hown hfp k0 k1 k2
   go_wp2
   go_roundw
   case rel =>
    refine ⟨_, ?_, ?_, ?_, by have h9 := HF2.out; exact h9, (((below_then hbel hb1).setCell (p := ⟨w.heap.size, k * 3, none⟩) (Nat.le_refl _) _).setCell (p := ⟨w.heap.size, k * 3 + 1, none⟩) (Nat.le_refl _) _).setCell (p := ⟨w.heap.size, k * 3 + 2, none⟩) (Nat.le_refl _) _⟩
    ·rw [List.length_append]; simp; omega
    ·rw [List.length_append, ← HK.out]; simp
    ·rw [List.length_append, List.length_singleton, HN.out, List.map_append]; rfl
   case measure => simp [intOf]; have := HK.out; omega
  ·have e : L.length = es.length := by omega
   obtain ⟨h1, h2, h3⟩ := hfill.done e (by unfold maxLen; omega)
   have e2 : L.map (·.2.1) = es := by rw [← HTK.out, e, List.take_length]
   rw [e2] at h1
   have H1 := Lib.hid h1
   have HE := Lib.hid e
   clear h1 e e2 hfill
   go_wp2
   go_ret
   exact ⟨_, _, rfl, H1.out, h2, h3, hbel⟩
set_option maxHeartbeats 4000000 in
theorem eqEditS_any (A B : Option Addr) (es fs : List Ed) (c d : Nat) (w : World) (hl : es.length ≤ 9223372036854775807) (hA : Es w A es) (hB : Es w B fs) :
  Calls Tryz.prog 10 #[.slice A es.length c, .slice B fs.length d] w fun e w' => e = .returned (.bool (decide (es = fs))) ∧ Below w.heap.size w w' := by
 by_cases hlen : es.length = fs.length
 ·have hne : ((es.length : Int) != (fs.length : Int)) = false := by simp [hlen]
  have HLEN := Lib.hid hlen
  have hle : es.length ≤ fs.length := by omega
  clear hlen
  go_enter Tryz.func10, Tryz.ntmps10
  go_wp2
  go_loopw [5] (fun i wr => ∃ k : Nat, k ≤ es.length ∧ i = .int .i64 k ∧ es.take k = fs.take k ∧ Below w.heap.size w wr)
   (fun i _ => es.length - (intOf i).toNat)
  case atStart => exact ⟨0, Nat.zero_le _, rfl, by simp, Below.refl _ _⟩
  case round =>
   obtain ⟨k, hk, rfl, htake, hb⟩ := hrel
   by_cases hlt : k < es.length
   ·have hlt2 : k < fs.length := by omega
    obtain ⟨b1, off1, a, m, B1, p, d1, rfl, hbl1, hek1, k0, k1, k2, _, _, hpd1, hdm1, hB1⟩ := (hA.below hb).at_ k hlt
    obtain ⟨b2, off2, x, y, B2, q, d2, rfl, hbl2, hek2, s0, s1, s2, _, _, hpd2, hdm2, hB2⟩ := (hB.below hb).at_ k hlt2
    have HT := Lib.hid htake
    clear htake
    have hst : es.take (k + 1) = fs.take (k + 1) ↔ (a = x ∧ m = y ∧ p = q) := by
     rw [List.take_succ_eq_append_getElem hlt, List.take_succ_eq_append_getElem hlt2, HT.out, List.append_cancel_left_eq, hek1, hek2]
     simp only [List.cons.injEq, and_true, Prod.mk.injEq]
    have HS := Lib.hid hst
    have HE1 := Lib.hid hek1
    have HE2 := Lib.hid hek2
    clear hst hek1 hek2
    have hi0 : (0 : Int) ≤ (k : Int) := by omega
    have hi1 : (k : Int) < (es.length : Int) := by omega
    have hi2 : (k : Int) < (fs.length : Int) := by omega
    have hdm9 : p.length ≤ 9223372036854775807 := by unfold maxLen at hdm1; omega
    generalize hq : decide (a = x ∧ m = y ∧ p = q) = z
    have HQ := Lib.hid hq
    have HB1 := Lib.hid hB1
    have HB2 := Lib.hid hB2
    clear hq hB1 hB2
    go_wp2_with fail
    refine wp_region_held_drew (S := (fun V => V.cell? ⟨b1, off1 + k * 3, none⟩ = some (.int .i64 a) ∧ V.cell? ⟨b1, off1 + k * 3 + 1, none⟩ = some (.int .i64 m) ∧ V.cell? ⟨b1, off1 + k * 3 + 2, none⟩ = some (.slice B1 p.length d1) ∧ V.cell? ⟨b2, off2 + k * 3, none⟩ = some (.int .i64 x) ∧ V.cell? ⟨b2, off2 + k * 3 + 1, none⟩ = some (.int .i64 y) ∧ V.cell? ⟨b2, off2 + k * 3 + 2, none⟩ = some (.slice B2 q.length d2))) (by kernel_rfl) (by exact ⟨k0, k1, k2, s0, s1, s2⟩) (fun hHeld => ?_)
    refine wpAnyH_take (i := 0) (oi := ?_) (v := ?_) ?_ ?_ ?_ ?_ ?_ ?_ (by exact hHeld) ?_
    rotate_left 2
    ·(simp only [List.getElem?_toArray, List.getElem?_cons_zero]; try rfl)
    ·kernel_rfl
    ·kernel_rfl
    ·kernel_rfl
    ·exact fun _ _ _ h => h
    ·refine Or.inl ⟨by rfl, ?_⟩
     (intro V hSV; (try dsimp only at hSV); obtain ⟨q0, q1, q2, q3, q4, q5⟩ := hSV; go_simp; try with_reducible rfl)
    (try simp only [LY9])
    refine wpAnyH_take (i := 1) (oi := ?_) (v := ?_) ?_ ?_ ?_ ?_ ?_ ?_ (by exact hHeld) ?_
    rotate_left 2
    ·(simp only [LX9]; try rfl)
    ·kernel_rfl
    ·kernel_rfl
    ·kernel_rfl
    ·exact fun _ _ _ h => h
    ·refine Or.inl ⟨by rfl, ?_⟩
     (intro V hSV; (try dsimp only at hSV); obtain ⟨q0, q1, q2, q3, q4, q5⟩ := hSV; go_simp; try with_reducible rfl)
    (try simp only [LY9])
    refine wpAnyH_take (i := 2) (oi := ?_) (v := ?_) ?_ ?_ ?_ ?_ ?_ ?_ (by exact hHeld) ?_
    rotate_left 2
    ·(simp only [LX9]; try rfl)
    ·kernel_rfl
    ·kernel_rfl
    ·kernel_rfl
    ·exact fun _ _ _ h => h
    ·refine Or.inl ⟨by rfl, ?_⟩
     (intro V hSV; (try dsimp only at hSV); obtain ⟨q0, q1, q2, q3, q4, q5⟩ := hSV; go_simp; try with_reducible rfl)
    (try simp only [LY9])
    refine wpAnyH_take (i := 3) (oi := ?_) (v := ?_) ?_ ?_ ?_ ?_ ?_ ?_ (by exact hHeld) ?_
    rotate_left 2
    ·(simp only [LX9]; try rfl)
    ·kernel_rfl
    ·kernel_rfl
    ·kernel_rfl
    ·exact fun _ _ _ h => h
    ·refine Or.inl ⟨by rfl, ?_⟩
     (intro V hSV; (try dsimp only at hSV); obtain ⟨q0, q1, q2, q3, q4, q5⟩ := hSV; go_simp; try with_reducible rfl)
    (try simp only [LY9])
    refine wpAnyH_take (i := 4) (oi := ?_) (v := ?_) ?_ ?_ ?_ ?_ ?_ ?_ (by exact hHeld) ?_
    rotate_left 2
    ·(simp only [LX9]; try rfl)
    ·kernel_rfl
    ·kernel_rfl
    ·kernel_rfl
    ·exact fun _ _ _ h => h
    ·refine Or.inl ⟨by rfl, ?_⟩
     (intro V hSV; (try dsimp only at hSV); obtain ⟨q0, q1, q2, q3, q4, q5⟩ := hSV; go_simp; try with_reducible rfl)
    (try simp only [LY9])
    refine wpAnyH_take (i := 5) (oi := ?_) (v := ?_) ?_ ?_ ?_ ?_ ?_ ?_ (by exact hHeld) ?_
    rotate_left 2
    ·(simp only [LX9]; try rfl)
    ·kernel_rfl
    ·kernel_rfl
    ·kernel_rfl
    ·exact fun _ _ _ h => h
    ·refine Or.inl ⟨by rfl, ?_⟩
     (intro V hSV; (try dsimp only at hSV); obtain ⟨q0, q1, q2, q3, q4, q5⟩ := hSV; go_simp; try with_reducible rfl)
    (try simp only [LY9])
    refine wpAnyH_take (i := 6) (oi := ?_) (v := ?_) ?_ ?_ ?_ ?_ ?_ ?_ (by exact hHeld) ?_
    rotate_left 2
    ·(simp only [LX9]; try rfl)
    ·kernel_rfl
    ·kernel_rfl
    ·kernel_rfl
    ·exact fun _ _ _ h => h
    ·refine Or.inl ⟨by rfl, ?_⟩
     (intro V hSV; (try dsimp only at hSV); obtain ⟨q0, q1, q2, q3, q4, q5⟩ := hSV; go_simp; try with_reducible rfl)
    (try simp only [LY9])
    refine wpAnyH_take (i := 7) (oi := ?_) (v := ?_) ?_ ?_ ?_ ?_ ?_ ?_ (by exact hHeld) ?_
    rotate_left 2
    ·(simp only [LX9]; try rfl)
    ·kernel_rfl
    ·kernel_rfl
    ·kernel_rfl
    ·exact fun _ _ _ h => h
    ·refine Or.inl ⟨by rfl, ?_⟩
     (intro V hSV; (try dsimp only at hSV); obtain ⟨q0, q1, q2, q3, q4, q5⟩ := hSV; go_simp; try with_reducible rfl)
    (try simp only [LY9])
    refine wpAnyH_ready (rs := [8]) (by kernel_rfl) (by simp) ?_
    refine AllReadyH.cons rfl (fun K hK => ?_) AllReadyH.nil
    go_simp
    refine (eqEdit_any a m x y B1 B2 p q d1 d2 _ hdm9 (by have h9 := HB1.out; exact h9) (by have h9 := HB2.out; exact h9)).mono ?_
    rintro e w1 ⟨rfl, hb1⟩
    rw [HQ.out]
    have hb1 : Below wr.heap.size wr w1 := ⟨hb1.os, hb1.tape, hb1.output, hb1.size, hb1.block⟩
    go_wp2_with fail
    refine hK.out _ _ (by exact ⟨((hb1).cell (p := ⟨b1, off1 + k * 3, none⟩) hbl1).trans k0, ((hb1).cell (p := ⟨b1, off1 + k * 3 + 1, none⟩) hbl1).trans k1, ((hb1).cell (p := ⟨b1, off1 + k * 3 + 2, none⟩) hbl1).trans k2, ((hb1).cell (p := ⟨b2, off2 + k * 3, none⟩) hbl2).trans s0, ((hb1).cell (p := ⟨b2, off2 + k * 3 + 1, none⟩) hbl2).trans s1, ((hb1).cell (p := ⟨b2, off2 + k * 3 + 2, none⟩) hbl2).trans s2⟩) (fun hHeld => ?_)
    clear hK K
    (try simp only [LY9])
    refine wpAnyH_take (i := 9) (oi := ?_) (v := ?_) ?_ ?_ ?_ ?_ ?_ ?_ (by exact hHeld) ?_
    rotate_left 2
    ·(simp only [LX9]; try rfl)
    ·kernel_rfl
    ·kernel_rfl
    ·kernel_rfl
    ·exact fun _ _ _ h => h
    ·refine Or.inl ⟨by rfl, ?_⟩
     (intro V hSV; (try dsimp only at hSV); obtain ⟨q0, q1, q2, q3, q4, q5⟩ := hSV; go_simp; try with_reducible rfl)
    (try simp only [LY9])
    refine wpAnyH_done (by kernel_rfl) ?_ _
    have hb9 := below_then hb hb1
    cases z
    ·go_wp2
     go_ret
     have : es ≠ fs := by
      intro e
      have h1 := of_decide_eq_false HQ.out
      have h2 := HS.out.1 (by rw [e])
      exact h1 h2
     exact ⟨by simp [this], hb9⟩
    ·go_wp2
     go_roundw
     case rel => exact ⟨k + 1, by omega, by go_num, HS.out.2 (of_decide_eq_true HQ.out), hb9⟩
     case measure => simp [intOf]; omega
   ·go_wp2
    go_ret
    have e1 : k = es.length := by omega
    subst e1
    rw [List.take_length] at htake
    have e2 : es = fs := by rw [htake, HLEN.out, List.take_length]
    exact ⟨by simp [e2], hb⟩
 ·have hne : ((es.length : Int) != (fs.length : Int)) = true := by simp; omega
  go_enter Tryz.func10, Tryz.ntmps10
  go_wp2
  go_ret
  exact ⟨by simp; intro e; exact hlen (by rw [e]), Below.refl _ _⟩
end Go.Proofs.YtaekanhjkpoifaaGreatDoor

namespace Go.Proofs.YtaekanhjkpoifaaGreatDoor
open Go.RowKit P
set_option linter.unusedVariables false
set_option linter.unusedSimpArgs false
set_option maxRecDepth 100000

/-- A row of edits of the call's own: in block g, what each puts in a block of its own. -/
structure MkE (w : World) (g : Nat) (vs : List Value) (ns : List Nat) : Prop where
 ln : ns.length = vs.length
 row : ∃ cur, Blk w g cur 71 ∧ vs.length * 3 ≤ cur.size ∧ ∀ i (h : i < vs.length), cur[i * 3 + 2]? = some vs[i]
 own : ∀ i (h : i < vs.length), ∃ l, Own w 0 vs[i] l ∧ l.length = ns[i]'(by omega)
 ne : ∀ i (h : i < vs.length), ∀ k ∈ vs[i].ownBlock.toList, g ≠ k
 dis : ∀ i j (hi : i < vs.length) (hj : j < vs.length), i ≠ j → ∀ k ∈ vs[j].ownBlock.toList, k ∉ vs[i].ownBlock.toList

theorem MkE.set {w : World} {g : Nat} {vs : List Value} {ns : List Nat} (h : MkE w g vs ns) (i c : Nat) (hi : i < vs.length) (hc : c < 2) (u : Value) : MkE (w.setCell ⟨g, i * 3 + c, none⟩ u) g vs ns := by
 obtain ⟨cur, hb, hs, hv⟩ := h.row
 refine ⟨h.ln, ⟨_, hb.set (i * 3 + c) u, by simpa using hs, fun j hj => ?_⟩, fun j hj => ?_, h.ne, h.dis⟩
 ·rw [Array.getElem?_setIfInBounds]
  rw [if_neg (by omega)]
  exact hv j hj
 ·obtain ⟨l, ho, hl⟩ := h.own j hj
  exact ⟨l, ho.heap (fun k hk => Below.heap_setCell _ _ _ _ (fun e => h.ne j hj k (by simpa using hk) (by simpa using e.symm))), hl⟩

theorem MkE.mark {w w' : World} {g : Nat} {vs : List Value} {ns : List Nat} (h : MkE w g vs ns) (i : Nat) (hi : i < vs.length) (hk : Keeps vs[i].ownBlock.toList w w') {l : List UInt8} (ho : Own w' 0 vs[i] l) (hl : l.length = ns[i]'(by have := h.ln; omega)) : MkE w' g vs ns := by
 obtain ⟨cur, hb, hs, hv⟩ := h.row
 refine ⟨h.ln, ⟨cur, hb.of_block (hk.block g hb.lt (fun hm => h.ne i hi g hm rfl)), hs, hv⟩, fun j hj => ?_, h.ne, h.dis⟩
 by_cases e : j = i
 ·subst e; exact ⟨l, ho, hl⟩
 ·obtain ⟨l', ho', hl'⟩ := h.own j hj
  exact ⟨l', ho'.keeps hk (fun b hb => h.dis i j hi hj (fun x => e x.symm) b hb), hl'⟩

theorem edit_ow_inv {w : World} {cs : List Value} {d : Ed} {fp : List Nat} (h : Lay.edit.ow w cs d fp) : ∃ v, cs = [.int .i64 d.1, .int .i64 d.2.1, v] ∧ Own w 0 v d.2.2 ∧ fp = v.ownBlock.toList := by
 obtain ⟨c1, c2, f1, f2, rfl, ⟨rfl, _, rfl⟩, ⟨c3, c4, f3, f4, rfl, ⟨rfl, _, rfl⟩, ⟨v, rfl, ho, rfl⟩, rfl⟩, rfl⟩ := h
 exact ⟨v, rfl, ho, by simp⟩

/-- An owned list of edits is such a row. -/
theorem mkE_of {w : World} {A : Option Addr} {n c : Nat} {es : List Ed} {fp : List Nat} (h : Lay.edits.ow w [.slice A n c] es fp) (hn : fp.Nodup) :
  es = [] ∨ ∃ g vs, A = some ⟨g, 0, none⟩ ∧ n = vs.length ∧ g ∈ fp ∧ (∀ i (hi : i < vs.length), ∀ k ∈ vs[i].ownBlock.toList, k ∈ fp) ∧ MkE w g vs (es.map (·.2.2.length)) := by
 obtain ⟨els, hl, hrow, hes, hfp⟩ := ow_one h
 have hlen : ∀ e ∈ els, (e.1 : List Value).length = Lay.edit.sz := fun e he => Lay.edit.len (Lay.edit.read (hes e he))
 rcases hrow.2 with ⟨hv, h0⟩ | ⟨g, cap, cur, hv, _, hh, hnc, hcm, hcs, htk⟩
 ·left
  rw [hl, List.eq_nil_of_length_eq_zero h0]; rfl
 right
 simp only [Value.slice.injEq] at hv
 obtain ⟨rfl, rfl, rfl⟩ := hv
 have hinv : ∀ i (hi : i < els.length), ∃ v, els[i].1 = [.int .i64 els[i].2.1.1, .int .i64 els[i].2.1.2.1, v] ∧ Own w 0 v els[i].2.1.2.2 ∧ els[i].2.2 = v.ownBlock.toList := fun i hi => edit_ow_inv (hes _ (List.getElem_mem hi))
 have hg : g ∈ fp := by rw [hfp]; simp [Value.ownBlock]
 have hsub : ∀ i (hi : i < els.length), ∀ k ∈ els[i].2.2, k ∈ fp := fun i hi k hk => by
  rw [hfp, List.mem_append]
  exact .inr (List.mem_flatMap.2 ⟨_, List.getElem_mem hi, hk⟩)
 have hnd := hn
 rw [hfp] at hnd
 simp only [Value.ownBlock, Option.toList_some, List.singleton_append, List.nodup_cons] at hnd
 obtain ⟨hgn, hnf⟩ := hnd
 refine ⟨g, els.map (fun e => (e.1[2]?).getD (.slice none 0 0)), rfl, by simp, hg, fun i hi k hk => ?_, ?_⟩
 ·rw [List.length_map] at hi
  obtain ⟨v, e1, e2, e3⟩ := hinv i hi
  simp only [List.getElem_map, e1] at hk
  exact hsub i hi k (by rw [e3]; simpa using hk)
 have hsz : Lay.edit.sz = 3 := rfl
 rw [hsz] at hcs htk hlen
 have hval : ∀ i (hi : i < els.length) (v : Value), els[i].1 = [.int .i64 els[i].2.1.1, .int .i64 els[i].2.1.2.1, v] → (els.map (fun e => (e.1[2]?).getD (.slice none 0 0)))[i]'(by rw [List.length_map]; exact hi) = v := fun i hi v e1 => by
  simp only [List.getElem_map, e1]; rfl
 refine ⟨by rw [hl]; simp, ⟨cur, hh, by rw [List.length_map]; omega, fun i hi => ?_⟩, fun i hi => ?_, fun i hi k hk => ?_, fun i j hi hj hij k hk hk2 => ?_⟩
 ·rw [List.length_map] at hi
  obtain ⟨v, e1, e2, e3⟩ := hinv i hi
  rw [hval i hi v e1]
  have hgt := flat_get 3 els (·.1) hlen i hi 2 (by simp only [e1]; simp)
  rw [← htk, List.getElem?_take] at hgt
  split at hgt
  ·simp only [Array.getElem?_toList] at hgt
   rw [hgt]
   simp only [e1]
   rfl
  ·omega
 ·rw [List.length_map] at hi
  obtain ⟨v, e1, e2, e3⟩ := hinv i hi
  rw [hval i hi v e1]
  exact ⟨_, e2, by simp [hl]⟩
 ·rw [List.length_map] at hi
  obtain ⟨v, e1, e2, e3⟩ := hinv i hi
  rw [hval i hi v e1] at hk
  intro e
  subst e
  exact hgn (List.mem_flatMap.2 ⟨_, List.getElem_mem hi, by rw [e3]; exact hk⟩)
 ·rw [List.length_map] at hi hj
  obtain ⟨v, e1, e2, e3⟩ := hinv i hi
  obtain ⟨u, f1, f2, f3⟩ := hinv j hj
  rw [hval i hi v e1] at hk2
  rw [hval j hj u f1] at hk
  rw [← e3] at hk2
  rw [← f3] at hk
  obtain ⟨a, e, b, hab, ha, he⟩ := split_at els i hi
  rw [← he] at hk2
  have hm : els[j] ∈ a ∨ els[j] ∈ b := by
   have h9 : els[j]? = (a ++ e :: b)[j]? := by rw [← hab]
   rw [List.getElem?_eq_getElem hj] at h9
   by_cases hlt : j < i
   ·rw [List.getElem?_append_left (by omega)] at h9
    exact .inl (List.mem_of_getElem? h9.symm)
   ·rw [List.getElem?_append_right (by omega), show j - a.length = (j - i - 1) + 1 by omega, List.getElem?_cons_succ] at h9
    exact .inr (List.mem_of_getElem? h9.symm)
  rw [hab, List.flatMap_append, List.flatMap_cons, List.nodup_append] at hnf
  obtain ⟨_, hn2, hd1⟩ := hnf
  rw [List.nodup_append] at hn2
  obtain ⟨_, _, hd2⟩ := hn2
  rcases hm with h | h
  ·exact hd1 k (List.mem_flatMap.2 ⟨_, h, hk⟩) k (List.mem_append.2 (.inl hk2)) rfl
  ·exact hd2 k hk2 k (List.mem_flatMap.2 ⟨_, h, hk⟩) rfl
set_option maxHeartbeats 800000 in
theorem markByteS_big (v : Value) (l : List UInt8) (base k : Nat) (w : World) (hk : k ≤ 9000000) (hl : l.length ≤ 9000000) (h : Own w base v l) :
  Calls Tryz.prog 43 #[v, .int .i64 k] w fun e w' => e = .returned (.int .i64 ((k + l.length : Nat) : Int)) ∧ Own w' base v (marks k l.length) ∧ w.grownBy w' v.ownBlock := by
 by_cases h0 : l.length = 0
 ·have hl0 := List.eq_nil_of_length_eq_zero h0
  subst hl0
  obtain ⟨A, c, rfl, _, _, _⟩ := h.form
  have hlen : ([] : List UInt8).length = 0 := rfl
  rw [hlen]
  go_enter Tryz.func43, Tryz.ntmps43
  go_wp2
  go_rounds 1
  go_ret
  exact ⟨by simp, h, World.grownBy.refl w _⟩
 ·obtain ⟨g, cap, rfl, hgb⟩ : ∃ g cap, v = .slice (some ⟨g, 0, none⟩) l.length cap ∧ base ≤ g := by
   rcases h.2 with ⟨_, h2⟩ | ⟨g, cap, cur, hv, hb, _⟩
   ·exact absurd h2 h0
   ·exact ⟨g, cap, hv, hb⟩
  go_enter Tryz.func43, Tryz.ntmps43
  go_wp2
  go_loopw [1, 5] (fun kk i wr => ∃ j : Nat, j ≤ l.length ∧ i = .int .i64 j ∧ kk = .int .i64 ((k + j : Nat) : Int) ∧ Own wr base (.slice (some ⟨g, 0, none⟩) l.length cap) (marks k j ++ l.drop j) ∧ w.grownBy wr (some g)) (fun _ i _ => l.length - (intOf i).toNat)
  case atStart => exact ⟨0, Nat.zero_le _, rfl, rfl, h, World.grownBy.refl w _⟩
  case round =>
   obtain ⟨j, hj, rfl, rfl, hown, hgr⟩ := hrel
   have hlen : (marks k j ++ l.drop j).length = l.length := by rw [List.length_append, marks_length, List.length_drop]; omega
   by_cases hlt : j < l.length
   ·have hcell : ∃ u, wr.cell? ⟨g, j, none⟩ = some u := by
     obtain ⟨A, c, hv, _, _, hB⟩ := hown.form
     obtain ⟨b', off', e, _, hc⟩ := hB j (by omega)
     rw [hlen] at hv
     cases hv
     cases e
     exact ⟨_, by simpa using hc⟩
    have hfz : wr.frozen? ⟨g, j, none⟩ = false := by
     rcases hown.2 with ⟨h3, _⟩ | ⟨g', cap', cur, hv, _, hh, _⟩
     ·cases h3
     ·rw [hlen] at hv; cases hv; simp [World.frozen?, hh]
    obtain ⟨u, hu⟩ := hcell
    have hown2 : Own (wr.setCell ⟨g, j, none⟩ (bV (UInt8.ofNat (k + j)))) base (.slice (some ⟨g, 0, none⟩) l.length cap) (marks k (j + 1) ++ l.drop (j + 1)) := by
     have hv0 : Own wr base (.slice (some ⟨g, 0, none⟩) (marks k j ++ l.drop j).length cap) (marks k j ++ l.drop j) := by rw [hlen]; exact hown
     have := Own.set hv0 j (by omega) (UInt8.ofNat (k + j))
     rw [hlen] at this
     have e : (marks k j ++ l.drop j).set j (UInt8.ofNat (k + j)) = marks k (j + 1) ++ l.drop (j + 1) := by
      rw [List.drop_eq_getElem_cons hlt, List.set_append_right _ _ (by rw [marks_length]; omega), marks_length, Nat.sub_self, List.set_cons_zero, marks_snoc, List.append_assoc, List.singleton_append]
     rw [e] at this
     exact this
    have hgr2 : w.grownBy (wr.setCell ⟨g, j, none⟩ (bV (UInt8.ofNat (k + j)))) (some g) := by
     refine ⟨hgr.os, hgr.tape, hgr.output, by simpa [World.setCell] using hgr.size, fun i hi hne => ?_⟩
     rw [Below.heap_setCell _ _ _ _ (fun e => hne (by rw [e]))]
     exact hgr.block i hi hne
    have hbv : bV (UInt8.ofNat (k + j)) = .int .u8 (IntKind.u8.wrap ((k + j : Nat) : Int)) := by
     unfold bV
     congr 1
    rw [hbv] at hown2 hgr2
    have hwr : IntKind.u8.wrap ((k + j : Nat) : Int) = ((k + j : Nat) : Int) % 256 := IntKind.wrap_u8 _
    rw [hwr] at hown2 hgr2
    clear hwr hbv hown hgr
    go_wp2
    go_roundw
    case rel => exact ⟨j + 1, by omega, by go_num, by go_num, hown2, hgr2⟩
    case measure => simp [intOf]; omega
   ·have e : j = l.length := by omega
    subst e
    have hd : l.drop l.length = [] := List.drop_length
    rw [hd, List.append_nil] at hown
    go_wp2
    go_ret
    exact ⟨rfl, hown, hgr⟩

theorem Keeps.set {fp : List Nat} {w w' : World} (h : Keeps fp w w') {g : Nat} (hg : g ∈ fp) (i : Nat) (u : Value) : Keeps fp w (w'.setCell ⟨g, i, none⟩ u) :=
 ⟨h.os, h.tape, h.output, by simpa using h.size, fun k hk hn => (Below.heap_setCell _ _ _ _ (fun e => hn (by rw [show k = g by simpa using e]; exact hg))).trans (h.block k hk hn)⟩

end Go.Proofs.YtaekanhjkpoifaaGreatDoor

namespace Go.Proofs.YtaekanhjkpoifaaGreatDoor
open Go.RowKit P
set_option linter.unusedVariables false
set_option linter.unusedSimpArgs false

/-- A list of edits of the call's own, in the blocks fp. -/
structure OwE (w : World) (base : Nat) (A : Option Addr) (es : List Ed) (c : Nat) (fp : List Nat) : Prop where
 ow : Lay.edits.ow w [.slice A es.length c] es fp
 nd : fp.Nodup
 lo : ∀ k ∈ fp, base ≤ k
theorem OwE.range {w : World} {base : Nat} {A : Option Addr} {es : List Ed} {c : Nat} {fp : List Nat} (h : OwE w base A es c fp) : ∀ k ∈ fp, base ≤ k ∧ k < w.heap.size := fun k hk => ⟨h.lo k hk, Lay.edits.lt h.ow k hk⟩
theorem OwE.below {w w' : World} {base : Nat} {A : Option Addr} {es : List Ed} {c : Nat} {fp : List Nat} (h : OwE w base A es c fp) (hb : Below w.heap.size w w') : OwE w' base A es c fp := ⟨Lay.edits.owBelow h.ow hb, h.nd, h.lo⟩
theorem OwE.keeps {w w' : World} {base : Nat} {A : Option Addr} {es : List Ed} {c : Nat} {fp fq : List Nat} (h : OwE w base A es c fp) (hk : Keeps fq w w') (hd : ∀ k ∈ fp, k ∉ fq) : OwE w' base A es c fp := ⟨Lay.edits.keeps h.ow hk hd, h.nd, h.lo⟩
theorem OwE.es {w : World} {base : Nat} {A : Option Addr} {es : List Ed} {c : Nat} {fp : List Nat} (h : OwE w base A es c fp) : Es w A es := by
 obtain ⟨A', c', e, _, _, hs⟩ := Lay.edits.read h.ow
 simp only [List.cons.injEq, Value.slice.injEq, and_true] at e
 rw [e.1]
 exact hs
theorem gives_edits {es : List Ed} {w : World} {e : Ending} {w' : World} (h : Gives Lay.edits wSlice es w e w') :
  ∃ A c fp, e = .returned (.slice A es.length c) ∧ OwE w' w.heap.size A es c fp ∧ Below w.heap.size w w' := by
 obtain ⟨cs, fp, he, how, hn, hb, hbel⟩ := h
 obtain ⟨A, c, rfl, _, _, _⟩ := Lay.edits.read how
 exact ⟨A, c, fp, he, ⟨how, hn, hb⟩, hbel⟩
end Go.Proofs.YtaekanhjkpoifaaGreatDoor
