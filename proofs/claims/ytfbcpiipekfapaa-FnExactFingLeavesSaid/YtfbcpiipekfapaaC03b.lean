/-
  Chapter 3, the laws' helpers on trees: conversion, contracts. Own work.
-/
import Derived.Test.YtfbcpiipekfapaaC03
import Derived.Test.YtfbcpiipekfapaaCat
namespace Go.Proofs.Ytfbcpiipekfapaa
open Go.RowKit P
set_option linter.unusedVariables false

set_option maxHeartbeats 400000 in
theorem toStringS_any (A : Option Addr) (l : List Str) (c : Nat) (w : World) (hl : l.length ≤ 1048576) (h : Ss w A l) :
    Calls Try.prog 122 #[.slice A l.length c] w fun e w' => e = .returned (.slice (some ⟨w.heap.size, 0, none⟩) l.length l.length) ∧ OwnS w' w.heap.size (.slice (some ⟨w.heap.size, 0, none⟩) l.length l.length) l ∧ Below w.heap.size w w' := by
  have hmk := fun W => run_make_row' (P := Try.prog) 61 9 (.string ⟨#[]⟩) 16 Try.underlying61 Try.infoStr rfl .i64 .i64 l.length (by omega) (by omega) W
  go_enter Try.func122, Try.ntmps122
  go_wp2
  go_loopw [4] (fun i wr => ∃ k : Nat, k ≤ l.length ∧ i = .int .i64 k ∧ Below w.heap.size w wr ∧ wr.rowIs w.heap.size 9 l.length (fun j => if j < k then sV (l.getD j []) else .string ⟨#[]⟩))
    (fun i _ => l.length - (intOf i).toNat)
  case atStart => exact ⟨0, Nat.zero_le _, rfl, (Below.refl _ _).alloc (Nat.le_refl _) _, (World.rowIs_made w (.string ⟨#[]⟩) l.length 9).congr (by intro j hj; simp)⟩
  case round =>
    obtain ⟨k, hk, rfl, hbel, hrow⟩ := hrel
    by_cases hlt : k < l.length
    · obtain ⟨b, off, rfl, hbl, hc, hcl⟩ := (h.below hbel).at_ k hlt
      have hc2 := hrow.cell hlt
      have hf := hrow.frozen k
      have hrow2 := hrow.set k (sV l[k])
      have hbel2 := hbel.setCell (p := ⟨w.heap.size, k, none⟩) (Nat.le_refl _) (sV l[k])
      have hgd : l.getD k [] = l[k] := by simp [List.getD, hlt]
      have HGD := Lib.hid hgd
      have HR2 := Lib.hid hrow2
      clear hgd hrow2
      have hk0 : (k : Int) < (l.length : Int) := by omega
      go_wp2
      go_roundw
      case rel => exact ⟨k + 1, by omega, by go_num, hbel2, HR2.out.congr (by
        intro j hj
        by_cases e : j = k
        · subst e; rw [if_pos (by omega), if_pos (by omega), HGD.out]
        · rw [if_neg e]
          have : (j < k + 1) = (j < k) := by simp; omega
          simp only [this])⟩
      case measure => simp [intOf]; omega
    · have e : k = l.length := by omega
      have hown : OwnS wr w.heap.size (.slice (some ⟨w.heap.size, 0, none⟩) l.length l.length) l := by
        refine ⟨?_, fun s hs => ?_⟩
        · have h1 := ownsRow_of_rowIs (m := l.length) (n := 1) (xs := l.map sV) (by rw [Nat.mul_one]; exact hrow) (by simp) (fun i hi => by
            rw [List.length_map] at hi
            rw [if_pos (by omega)]
            simp [List.getD, hi]) (by unfold maxLen; omega) w.heap.size (Nat.le_refl _)
          exact h1
        · obtain ⟨i, hi, rfl⟩ := List.mem_iff_getElem.1 hs
          obtain ⟨_, _, _, _, _, hm⟩ := h.at_ i hi
          exact hm
      have HOWN := Lib.hid hown
      clear hown hrow e
      go_wp2
      go_ret
      exact ⟨rfl, HOWN.out, hbel⟩

/-- What a call ends in that makes a level of its own. -/
def GivesLv (l : Lv) (w : World) (e : Ending) (w' : World) : Prop :=
  ∃ v1 v2 fp, e = .returned (.agg #[v1, v2]) ∧ Lay.lvl.ow w' [v1, v2] l fp ∧ fp.Nodup ∧ (∀ k ∈ fp, w.heap.size ≤ k) ∧ Below w.heap.size w w'

theorem OwnS.setBelow {w : World} {base : Nat} {v : Value} {l : List Str} (h : OwnS w base v l) {a : Addr} (ha : a.block < base) (u : Value) : OwnS (w.setCell a u) base v l := ⟨ownsRow_setCell_below h.row ha u, h.len⟩
theorem lvl_ow {w' : World} {v1 v2 : Value} {b0 b1 b2 : Nat} {l : Lv} (h1 : OwnS w' b1 v1 l.1) (h2 : OwnS w' b2 v2 l.2) (h01 : b0 ≤ b1) (h02 : b0 ≤ b2) (hlt : ∀ k ∈ v1.ownBlock.toList, k < b2) :
    ∃ fp, Lay.lvl.ow w' [v1, v2] l fp ∧ fp.Nodup ∧ (∀ k ∈ fp, b0 ≤ k) := by
  refine ⟨_, ⟨[v1], [v2], _, _, rfl, h1.ow, h2.ow, rfl⟩, ?_, fun k hk => ?_⟩
  · exact nodup_snoc h1.fp.1 h2.fp.1 hlt (fun k hk => (h2.fp.2 k hk).1)
  · rcases List.mem_append.1 hk with hk | hk
    · have := (h1.fp.2 k hk).1; omega
    · have := (h2.fp.2 k hk).1; omega

set_option maxHeartbeats 1000000 in
theorem toLevel_any (A1 A2 : Option Addr) (l : Lv) (c1 c2 : Nat) (w : World) (hn : l.1.length ≤ 1048576) (hm : l.2.length ≤ 1048576) (hA1 : Ss w A1 l.1) (hA2 : Ss w A2 l.2) :
    Calls Try.prog 103 #[.agg #[.slice A1 l.1.length c1, .slice A2 l.2.length c2]] w (GivesLv l w) := by
  obtain ⟨p, q⟩ := l
  simp only at hn hm hA1 hA2 ⊢
  obtain ⟨o1, ho1⟩ : ∃ o1, (Obj.cells #[.slice A1 p.length c1, .slice A2 q.length c2] 119) = o1 := ⟨_, rfl⟩
  have hb0 := (((Below.refl w.heap.size w).alloc (Nat.le_refl _) (.cells #[.slice A1 p.length c1, .slice A2 q.length c2] 119)).alloc (by simp) (.cells #[.slice none 0 0, .slice none 0 0] 63)).alloc (by simp; omega) (.cells #[.slice none 0 0, .slice none 0 0] 63)
  have hB1 := hA1.below hb0
  have hB2 := hA2.below hb0
  clear ho1
  go_enter Try.func103, Try.ntmps103
  go_wp2_with fail
  refine (toStringS_any A1 p c1 _ hn (by exact hB1)).mono ?_
  rintro e w1 ⟨rfl, hown1, hb1⟩
  obtain ⟨hc, hf⟩ := bcell hb1
  have hz : w.heap.size + 3 ≤ w1.heap.size := by have := hb1.size; simp at this; omega
  have bx1 : Blk w1 (w.heap.size + 1 + 1) #[.slice none 0 0, .slice none 0 0] 63 := Blk.below (by
    have := Blk.new ((w.alloc (.cells #[.slice A1 p.length c1, .slice A2 q.length c2] 119)).alloc (.cells #[.slice none 0 0, .slice none 0 0] 63)) #[.slice none 0 0, .slice none 0 0] 63
    simpa using this) hb1
  have br1 : Blk w1 (w.heap.size + 1) #[.slice none 0 0, .slice none 0 0] 63 := Blk.below (by
    have := (Blk.new (w.alloc (.cells #[.slice A1 p.length c1, .slice A2 q.length c2] 119)) #[.slice none 0 0, .slice none 0 0] 63).alloc (.cells #[.slice none 0 0, .slice none 0 0] 63)
    simpa using this) hb1
  have ba1 : Blk w1 w.heap.size #[.slice A1 p.length c1, .slice A2 q.length c2] 119 := Blk.below (((Blk.new w _ _).alloc _).alloc _) hb1
  have hbw1 : Below w.heap.size w w1 := hb0.trans (hb1.mono (by simp; omega))
  have hsz : ((((w.alloc (.cells #[.slice A1 p.length c1, .slice A2 q.length c2] 119)).alloc (.cells #[.slice none 0 0, .slice none 0 0] 63)).alloc (.cells #[.slice none 0 0, .slice none 0 0] 63))).heap.size = w.heap.size + 1 + 1 + 1 := by simp
  rw [hsz] at hown1 ⊢
  clear hsz
  go_wp2_with fail
  have bx2 := bx1.set 0 (.slice (some ⟨w.heap.size + 1 + 1 + 1, 0, none⟩) p.length p.length)
  have br2 := br1.setOther (a := ⟨w.heap.size + 1 + 1, 0, none⟩) (by simp) (.slice (some ⟨w.heap.size + 1 + 1 + 1, 0, none⟩) p.length p.length)
  have ba2 := ba1.setOther (a := ⟨w.heap.size + 1 + 1, 0, none⟩) (by simp; omega) (.slice (some ⟨w.heap.size + 1 + 1 + 1, 0, none⟩) p.length p.length)
  have hbw2 := hbw1.setCell (p := ⟨w.heap.size + 1 + 1, 0, none⟩) (by simp; omega) (.slice (some ⟨w.heap.size + 1 + 1 + 1, 0, none⟩) p.length p.length)
  have ho2 : OwnS (w1.setCell ⟨w.heap.size + 1 + 1, 0, none⟩ (.slice (some ⟨w.heap.size + 1 + 1 + 1, 0, none⟩) p.length p.length)) (w.heap.size + 1 + 1 + 1) (.slice (some ⟨w.heap.size + 1 + 1 + 1, 0, none⟩) p.length p.length) p := ⟨ownsRow_setCell_below hown1.row (by simp) (.slice (some ⟨w.heap.size + 1 + 1 + 1, 0, none⟩) p.length p.length), hown1.len⟩
  have hsw : (w1.setCell ⟨w.heap.size + 1 + 1, 0, none⟩ (.slice (some ⟨w.heap.size + 1 + 1 + 1, 0, none⟩) p.length p.length)).heap.size = w1.heap.size := by simp
  rw [← hsw] at hz
  clear hsw
  generalize w1.setCell ⟨w.heap.size + 1 + 1, 0, none⟩ (.slice (some ⟨w.heap.size + 1 + 1 + 1, 0, none⟩) p.length p.length) = W1 at *
  have hB3 := hA2.below hbw2
  clear hc hf hb1 bx1 br1 ba1 hbw1 hb0 hB1 hB2 hown1
  refine (toStringS_any A2 q c2 _ hm (by exact hB3)).mono ?_
  rintro e w2 ⟨rfl, hown2, hb2⟩
  have bx3 := bx2.below hb2
  have br3 := br2.below hb2
  have ho3 := ho2.below hb2
  have hbw3 := below_then hbw2 hb2
  have hz2 := hb2.size
  have x0 : w2.cell? ⟨w.heap.size + 1 + 1, 0, none⟩ = some (.slice (some ⟨w.heap.size + 1 + 1 + 1, 0, none⟩) p.length p.length) := by rw [bx3.cell]; rfl
  have x1 : w2.cell? ⟨w.heap.size + 1 + 1, 1, none⟩ = some (.slice none 0 0) := by rw [bx3.cell]; rfl
  have x2 : w2.frozen? ⟨w.heap.size + 1 + 1, 1, none⟩ = false := bx3.frozen 1
  have r0 : w2.cell? ⟨w.heap.size + 1, 0, none⟩ = some (.slice none 0 0) := by rw [br3.cell]; rfl
  have r1 : w2.cell? ⟨w.heap.size + 1, 1, none⟩ = some (.slice none 0 0) := by rw [br3.cell]; rfl
  have r2 : w2.frozen? ⟨w.heap.size + 1, 0, none⟩ = false := br3.frozen 0
  have r3 : w2.frozen? ⟨w.heap.size + 1, 1, none⟩ = false := br3.frozen 1
  have hzz : w.heap.size + 1 + 1 < w2.heap.size := by omega
  clear bx2 br2 ba2 hbw2 hb2 hB3 bx3 br3
  go_wp2
  refine bodyPost_ret (v := .agg #[.slice (some ⟨w.heap.size + 1 + 1 + 1, 0, none⟩) p.length p.length, .slice (some ⟨W1.heap.size, 0, none⟩) q.length q.length]) (by simp [results, Try.results103, go_sem, r0, r1]) rfl ?_
  have hlt1 := fun k hk => (ho2.fp.2 k hk).2
  have f1 := ((ho3.setBelow (a := ⟨w.heap.size + 1 + 1, 1, none⟩) (by simp) (.slice (some ⟨W1.heap.size, 0, none⟩) q.length q.length)).setBelow (a := ⟨w.heap.size + 1, 0, none⟩) (by simp) (.slice (some ⟨w.heap.size + 1 + 1 + 1, 0, none⟩) p.length p.length)).setBelow (a := ⟨w.heap.size + 1, 1, none⟩) (by simp) (.slice (some ⟨W1.heap.size, 0, none⟩) q.length q.length)
  have f2 := ((hown2.setBelow (a := ⟨w.heap.size + 1 + 1, 1, none⟩) (by simp; omega) (.slice (some ⟨W1.heap.size, 0, none⟩) q.length q.length)).setBelow (a := ⟨w.heap.size + 1, 0, none⟩) (by simp; omega) (.slice (some ⟨w.heap.size + 1 + 1 + 1, 0, none⟩) p.length p.length)).setBelow (a := ⟨w.heap.size + 1, 1, none⟩) (by simp; omega) (.slice (some ⟨W1.heap.size, 0, none⟩) q.length q.length)
  obtain ⟨fp, g1, g2, g3⟩ := lvl_ow (l := (p, q)) (b0 := w.heap.size) f1 f2 (by omega) (by omega) hlt1
  exact ⟨_, _, fp, rfl, g1, g2, g3, ((hbw3.setCell (by simp; omega) _).setCell (by simp) _).setCell (by simp) _⟩

theorem Filling.snoc2 {α : Type} {T : TypeId} {E : Lay α} {z : Nat → Value} {n : Nat} {w w1 : World} {g : Nat} {es : List (El α)} (h : Filling T E z n w g es) (hb : Below w.heap.size w w1) {v1 v2 : Value} {x : α} {fp : List Nat} (h2 : E.sz = 2)
    (ho : E.ow w1 [v1, v2] x fp) (hn : fp.Nodup) (hf : ∀ k ∈ fp, w.heap.size ≤ k) : Filling T E z n ((w1.setCell ⟨g, es.length * 2, none⟩ v1).setCell ⟨g, es.length * 2 + 1, none⟩ v2) g (es ++ [([v1, v2], x, fp)]) := by
  refine h.snoc hb ho hn hf ?_ (fun k hk => (Below.heap_setCell _ _ _ _ hk).trans (Below.heap_setCell _ _ _ _ hk)) (by simp [World.setCell])
  refine (((h.row.of_block (hb.block g h.row.lt)).set (es.length * 2) v1).set (es.length * 2 + 1) v2).congr (fun j hj => ?_)
  simp only [h2]
  by_cases e1 : j = es.length * 2 + 1
  · rw [if_pos e1, if_pos ⟨by omega, by omega⟩, e1]
    rw [show es.length * 2 + 1 - es.length * 2 = 1 by omega]
    rfl
  · rw [if_neg e1]
    by_cases e : j = es.length * 2
    · rw [if_pos e, if_pos ⟨by omega, by omega⟩, e, Nat.sub_self]
      rfl
    · rw [if_neg e, if_neg (by omega)]

set_option maxHeartbeats 1000000 in
theorem toLevelS_any (A : Option Addr) (ls : List Lv) (c : Nat) (w : World) (hn : ls.length ≤ 1048576) (hs : ∀ l ∈ ls, l.1.length ≤ 1048576 ∧ l.2.length ≤ 1048576) (hA : Ls w A ls) :
    Calls Try.prog 66 #[.slice A ls.length c] w (Gives1 Lay.lvls ls w) := by
  have hmk : ∀ W, (Instr.makeSlice 24 (.int .i64 (ls.length : Int)) (.int .i64 (ls.length : Int))).run Try.prog W = .ok (.slice (some ⟨W.heap.size, 0, none⟩) ls.length ls.length) (W.alloc (.cells (madeCells #[.slice none 0 0, .slice none 0 0] (ls.length * 2)) 63)) := fun W =>
    run_mk (P := Try.prog) 24 63 (.agg #[.slice none 0 0, .slice none 0 0]) 2 48 Try.underlying24 Try.infoLvl ls.length (by omega) (by omega) W
  go_enter Try.func66, Try.ntmps66
  go_wp2
  go_loopw [4] (fun i wr => ∃ es : List (El Lv), es.length ≤ ls.length ∧ i = .int .i64 es.length ∧ Hid (ls.take es.length = es.map (·.2.1)) ∧
      Hid (Filling 63 Lay.lvl (fun j => (#[.slice none 0 0, .slice none 0 0] : Array Value)[j % 2]!) ls.length wr w.heap.size es) ∧ Below w.heap.size w wr)
    (fun i _ => ls.length - (intOf i).toNat)
  case atStart => exact ⟨[], Nat.zero_le _, rfl, Lib.hid (by simp), Lib.hid (Filling.made #[.slice none 0 0, .slice none 0 0] ls.length w), (Below.refl _ _).alloc (Nat.le_refl _) _⟩
  case round =>
    obtain ⟨es, hk, rfl, HTK, HFill, hbel⟩ := hrel
    by_cases hlt : es.length < ls.length
    · obtain ⟨b, off, A1, c1, A2, c2, rfl, hbl, hc1, hc2, hd1, hd2, hd3, hd4, hS1, hS2⟩ := (hA.below hbel).at_ es.length hlt
      have he := hs ls[es.length] (List.getElem_mem hlt)
      have hnext : ls.take (es.length + 1) = es.map (·.2.1) ++ [ls[es.length]] := by rw [List.take_succ_eq_append_getElem hlt, HTK.out]
      generalize hL : ls[es.length] = L at *
      obtain ⟨p, q⟩ := L
      simp only at hc1 hc2 hd1 hd3 hS1 hS2 he
      have HN := Lib.hid hnext
      clear hL hnext hd2 hd4
      obtain ⟨k, hkk⟩ : ∃ k, es.length = k := ⟨_, rfl⟩
      have hlt' := hlt
      rw [hkk] at hc1 hc2 hlt' hk
      have HK := Lib.hid hkk
      rw [hkk]
      clear hkk
      have hw : w.heap.size < wr.heap.size := HFill.out.row.lt
      have hk0 : (k : Int) < (ls.length : Int) := by omega
      go_wp2_with fail
      refine (toLevel_any A1 A2 (p, q) c1 c2 _ he.1 he.2 (by exact hS1) (by exact hS2)).mono ?_
      rintro e w1 ⟨v1, v2, fp, rfl, how, hnd, hfp, hb1⟩
      have hrow1 := HFill.out.row.of_block (hb1.block _ HFill.out.row.lt)
      obtain ⟨u, hu⟩ : ∃ u, w1.cell? ⟨w.heap.size, k * 2, none⟩ = some u := ⟨_, hrow1.cell (by show k * 2 < ls.length * 2; omega)⟩
      obtain ⟨u2, hu2⟩ : ∃ u, w1.cell? ⟨w.heap.size, k * 2 + 1, none⟩ = some u := ⟨_, hrow1.cell (by show k * 2 + 1 < ls.length * 2; omega)⟩
      have hfz := hrow1.frozen (k * 2)
      have hfz2 := hrow1.frozen (k * 2 + 1)
      have hs1 := hb1.size
      obtain ⟨B1, d1, B2, d2, hvv, _, _, _, _, _, _⟩ := lvl_rd (Lay.lvl.read how)
      simp only [List.cons.injEq, and_true] at hvv
      obtain ⟨rfl, rfl⟩ := hvv
      have hf2 := HFill.out.snoc2 hb1 rfl how hnd hfp
      have HF2 := Lib.hid hf2
      have hb2 := ((below_then hbel hb1).setCell (p := ⟨w.heap.size, k * 2, none⟩) (Nat.le_refl _) (.slice B1 p.length d1)).setCell (p := ⟨w.heap.size, k * 2 + 1, none⟩) (Nat.le_refl _) (.slice B2 q.length d2)
      clear hrow1 hf2 HFill how hnd hfp
      go_wp2
      go_roundw
      case rel =>
        refine ⟨_, ?_, ?_, ?_, by rw [← HK.out]; exact HF2, hb2⟩
        · rw [List.length_append]; simp; omega
        · rw [List.length_append, ← HK.out]; simp
        · refine Lib.hid ?_
          rw [List.length_append, List.length_singleton, HN.out, List.map_append]; rfl
      case measure => simp [intOf]; have := HK.out; omega
    · have e : es.length = ls.length := by omega
      obtain ⟨h1, h2, h3⟩ := HFill.out.done e (by unfold maxLen; omega)
      have e2 : es.map (·.2.1) = ls := by rw [← HTK.out, e, List.take_length]
      rw [e2] at h1
      have H1 := Lib.hid h1
      clear h1 e e2 HFill
      go_wp2
      go_ret
      exact ⟨_, _, rfl, H1.out, h2, h3, hbel⟩

/-- What a call ends in that makes a tree of its own. -/
def GivesF (ls : List Lv) (w : World) (e : Ending) (w' : World) : Prop :=
  ∃ v fp, e = .returned (.agg #[v]) ∧ Lay.lvls.ow w' [v] ls fp ∧ fp.Nodup ∧ (∀ k ∈ fp, w.heap.size ≤ k) ∧ Below w.heap.size w w'

theorem lvls_rd {w : World} {v : Value} {l : List Lv} (h : Lay.lvls.rd w [v] l) : ∃ A c, v = .slice A l.length c ∧ l.length ≤ c ∧ c ≤ maxLen ∧ Ls w A l := by
  obtain ⟨A, c, e, h⟩ := h
  cases e
  exact ⟨A, c, rfl, h⟩

theorem Lay.lvls_setBelow {w : World} {v : Value} {l : List Lv} {fp : List Nat} (h : Lay.lvls.ow w [v] l fp) {a : Addr} (ha : a.block ∉ fp) (u : Value) : Lay.lvls.ow (w.setCell a u) [v] l fp :=
  Lay.lvls.kept h (fun k hk => Below.heap_setCell _ _ _ _ (fun e => ha (e ▸ hk))) (by simp [World.setCell])

set_option maxHeartbeats 1000000 in
theorem toFing_any (A : Option Addr) (ls : List Lv) (c : Nat) (w : World) (hn : ls.length ≤ 1048576) (hs : ∀ l ∈ ls, l.1.length ≤ 1048576 ∧ l.2.length ≤ 1048576) (hA : Ls w A ls) :
    Calls Try.prog 33 #[.agg #[.slice A ls.length c]] w (GivesF ls w) := by
  have hb0 := (((Below.refl w.heap.size w).alloc (Nat.le_refl _) (.cells #[.slice A ls.length c] 42)).alloc (by simp) (.cells #[.slice none 0 0] 26)).alloc (by simp; omega) (.cells #[.slice none 0 0] 26)
  have hB := hA.below hb0
  go_enter Try.func33, Try.ntmps33
  go_wp2_with fail
  refine (toLevelS_any A ls c _ hn hs (by exact hB)).mono ?_
  rintro e w1 ⟨v, fp, rfl, how, hnd, hfp, hb1⟩
  obtain ⟨B, d, rfl, hld, hdm, hL⟩ := lvls_rd (Lay.lvls.read how)
  clear hL hld hdm
  obtain ⟨hc, hf⟩ := bcell hb1
  have hz : w.heap.size + 3 ≤ w1.heap.size := by have := hb1.size; simp at this; omega
  have hbw1 : Below w.heap.size w w1 := hb0.trans (hb1.mono (by simp; omega))
  have hfp' : ∀ k ∈ fp, w.heap.size + 3 ≤ k := fun k hk => by have := hfp k hk; simp at this; omega
  go_wp2
  refine bodyPost_ret (v := .agg #[.slice B ls.length d]) (by simp [results, Try.results33, go_sem, hc]) rfl ?_
  have how2 := Lay.lvls_setBelow (Lay.lvls_setBelow how (a := ⟨w.heap.size + 1 + 1, 0, none⟩) (fun h => by have := hfp' _ h; simp at this; omega) (.slice B ls.length d)) (a := ⟨w.heap.size + 1, 0, none⟩) (fun h => by have := hfp' _ h; simp at this) (.slice B ls.length d)
  exact ⟨_, fp, rfl, how2, hnd, fun k hk => by have := hfp' k hk; omega, (hbw1.setCell (by simp; omega) _).setCell (by simp) _⟩
end Go.Proofs.Ytfbcpiipekfapaa
