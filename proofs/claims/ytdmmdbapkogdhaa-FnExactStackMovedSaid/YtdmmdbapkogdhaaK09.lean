/-
  Chapter 8, l08Copy, l08Top, StackPush in the model: contracts. Own work.
  Chapter 8, StackPush in the model: contract. Own work.
  Chapter 8, StackTurn in the model: contract. Own work.
-/
import Derived.Test.YtdmmdbapkogdhaaK01
import Derived.Test.YtdmmdbapkogdhaaC11
namespace Go.Proofs.Ytdmmdbapkogdhaa
open Go.RowKit P
set_option linter.unusedVariables false
set_option linter.unusedSimpArgs false
set_option maxRecDepth 100000

/-- A list that is read in the blocks fp, and stays as long as they do. -/
structure RdE (w : World) (base : Nat) (A : Option Addr) (es : List Ed) (fp : List Nat) : Prop where
  rd : ∀ W : World, (∀ k ∈ fp, W.heap[k]? = w.heap[k]?) → w.heap.size ≤ W.heap.size → Es W A es
  lo : ∀ k ∈ fp, base ≤ k ∧ k < w.heap.size
theorem RdE.es {w : World} {base : Nat} {A : Option Addr} {es : List Ed} {fp : List Nat} (h : RdE w base A es fp) : Es w A es := h.rd w (fun _ _ => rfl) (Nat.le_refl _)
theorem RdE.go {w w' : World} {base : Nat} {A : Option Addr} {es : List Ed} {fp : List Nat} (h : RdE w base A es fp) (hb : ∀ k ∈ fp, w'.heap[k]? = w.heap[k]?) (hs : w.heap.size ≤ w'.heap.size) : RdE w' base A es fp :=
  ⟨fun W hk hz => h.rd W (fun k hk2 => (hk k hk2).trans (hb k hk2)) (Nat.le_trans hs hz), fun k hk => ⟨(h.lo k hk).1, Nat.lt_of_lt_of_le (h.lo k hk).2 hs⟩⟩
theorem RdE.below {w w' : World} {base : Nat} {A : Option Addr} {es : List Ed} {fp : List Nat} (h : RdE w base A es fp) (b : Below w.heap.size w w') : RdE w' base A es fp := h.go (fun k hk => b.block k (h.lo k hk).2) b.size
theorem RdE.keeps {w w' : World} {base : Nat} {A : Option Addr} {es : List Ed} {fp fq : List Nat} (h : RdE w base A es fp) (hk : Keeps fq w w') (hd : ∀ k ∈ fp, k ∉ fq) : RdE w' base A es fp := h.go (fun k hk2 => hk.block k (h.lo k hk2).2 (hd k hk2)) hk.size
theorem OwE.rdE {w : World} {base : Nat} {A : Option Addr} {es : List Ed} {c : Nat} {fp : List Nat} (h : OwE w base A es c fp) : RdE w base A es fp :=
  ⟨fun W hk hs => (show OwE W base A es c fp from ⟨Lay.edits.kept h.ow hk hs, h.nd, h.lo⟩).es, h.range⟩
theorem RdE.mono {w : World} {base base' : Nat} {A : Option Addr} {es : List Ed} {fp : List Nat} (h : RdE w base A es fp) (hb : base' ≤ base) : RdE w base' A es fp := ⟨h.rd, fun k hk => ⟨Nat.le_trans hb (h.lo k hk).1, (h.lo k hk).2⟩⟩
theorem RdE.nil (w : World) (base : Nat) : RdE w base none [] [] := ⟨fun W _ _ k hk => by simp at hk, fun _ h => nomatch h⟩
theorem Es.drop1 {w : World} {g c : Nat} {es : List Ed} (h : Es w (some ⟨g, 0, none⟩) es) : Es w (some ⟨g, 3, none⟩) (es.drop 1) := by
  intro k hk
  rw [List.length_drop] at hk
  obtain ⟨b, off, us, hA, hlt, hus, hc, hr⟩ := h (k + 1) (by omega)
  cases hA
  refine ⟨g, 3, us, rfl, hlt, hus, fun j hj => ?_, ?_⟩
  · have h9 := hc j hj
    first
      | (rw [show 3 + (k * 3 + j) = 0 + ((k + 1) * 3 + j) by omega]; exact h9)
      | (rw [show 3 + (k * 3 + j) = 0 + (k + 1) * 3 + j by omega]; exact h9)
  · rw [List.getElem_drop]
    have e : es[1 + k]'(by omega) = es[k + 1]'(by omega) := by congr 1; omega
    rw [e]
    exact hr

def CopiesE (es : List Ed) (w : World) (e : Ending) (w' : World) : Prop := ∃ A' c' fp, e = .returned (.slice A' es.length c') ∧ OwE w' w.heap.size A' es c' fp ∧ Below w.heap.size w w'
set_option maxHeartbeats 8000000 in
theorem l08Copy_any (A : Option Addr) (es : List Ed) (c : Nat) (w : World) (hl : es.length ≤ 1000) (hp4 : ∀ e ∈ es, e.2.2.length ≤ 1000) (hE : Es w A es) :
    Calls Try.prog 173 #[.slice A es.length c] w (CopiesE es w) := by
  have hal := (Below.refl w.heap.size w).alloc (Nat.le_refl _) (.cells #[] 30)
  have H0 := Lib.hid (show OwE (w.alloc (.cells #[] 30)) w.heap.size (some ⟨w.heap.size, 0, none⟩) [] 0 [w.heap.size] from ⟨Lay.slice_empty _ _ w, by simp, fun k hk => by simp at hk; omega⟩)
  have HP4 := Lib.hid hp4
  clear hp4
  go_enter Try.func173, Try.ntmps173
  go_wp2
  go_loopw [3, 4] (fun o i wr => ∃ (k : Nat) (A' : Option Addr) (c' : Nat) (fp : List Nat), k ≤ es.length ∧ i = .int .i64 k ∧ o = .slice A' k c' ∧ Hid (OwE wr w.heap.size A' (es.take k) c' fp) ∧ Below w.heap.size w wr)
    (fun _ i _ => es.length - (intOf i).toNat)
  case atStart => exact ⟨0, _, 0, _, Nat.zero_le _, rfl, rfl, H0, hal⟩
  case round =>
    obtain ⟨k, A', c', fp, hk, rfl, rfl, HO, hb⟩ := hrel
    have HB := Lib.hid hb
    clear H0 hal
    by_cases hlt : k < es.length
    · have hki0 : (0 : Int) ≤ (k : Int) := by omega
      have hki : (k : Int) < (es.length : Int) := by omega
      obtain ⟨b, off, a, m, P, p, ep, rfl, hbl, hek, k0, k1, k2, ha, hm, hpd, hdm, hBp⟩ := (hE.below hb).at_ k hlt
      have hp4 := HP4.out _ (List.getElem_mem hlt)
      rw [hek] at hp4
      have HNX := Lib.hid (show es.take (k + 1) = es.take k ++ [(a, m, p)] by rw [List.take_succ_eq_append_getElem hlt, hek])
      have HBP := Lib.hid hBp
      have hfr := HO.out.range
      clear hb hek hBp
      go_wp2_with fail
      refine (l08Edit_any a m P p ep _ (by omega) HBP.out).mono ?_
      rintro x w2 ⟨v3, rfl, hO2, hb2⟩
      obtain ⟨A3, c3, rfl, _, _, _⟩ := hO2.form
      have hfx := hO2.fp
      have hb5 : Below w2.heap.size w2 (w2.alloc (.cells #[.int .i64 a, .int .i64 m, .slice A3 p.length c3] 30)) := (Below.refl w2.heap.size w2).alloc (Nat.le_refl _) _
      have hO3 := (HO.out.below hb2).below hb5
      have hXE := Lay.edit.owBelow (own_edit ha hm hO2) hb5
      have hin1 := own_in HO.out.ow
      have hz2 := hb2.size
      have hz5 := hb5.size
      have hzw := HB.out.size
      have HB5 := Lib.hid (below_then (below_then HB.out hb2) hb5)
      have hlen : (es.take k).length = k := by rw [List.length_take]; omega
      have HLN := Lib.hid hlen
      have how9 : Lay.edits.ow (w2.alloc (.cells #[.int .i64 a, .int .i64 m, .slice A3 p.length c3] 30)) [.slice A' k c'] (es.take k) fp := by
        have h9 := hO3.ow
        rw [hlen] at h9
        exact h9
      have hlk : (es.take k).length ≤ 1000000 := by omega
      clear hO2 hb2 k0 k1 k2 hlen
      go_wp2_with (at_builtin; go_must (refine wpList_app_one rfl _ _ 44 rfl 30 Lay.edit _ 3 40 Try.underlying44 Try.infoEd rfl rfl (by decide) (by decide) (.slice A' k c') (es.take k) fp [.int .i64 a, .int .i64 m, .slice A3 p.length c3] (a, m, p) _ ⟨w2.heap.size, 0, none⟩ 1 rfl rfl how9 hO3.nd hXE hfx.1 wr.heap.size (fun k hk => (hfr k hk).2) hfx.2 cell_new3 hlk ?_))
      intro v6 w6 fp6 ho6 hn6 hs6 hg6
      rw [← HNX.out] at ho6
      obtain ⟨A6, c6, e6, _, _, _⟩ := Lay.edits.read ho6
      simp only [List.cons.injEq, and_true] at e6
      have hl1 : (es.take (k + 1)).length = k + 1 := by rw [List.length_take]; omega
      rw [hl1] at e6
      subst e6
      have hk6 := Keeps.of_grown hg6
      have HO6 := Lib.hid (show OwE w6 w.heap.size A6 (es.take (k + 1)) c6 fp6 from ⟨by rw [hl1]; exact ho6, hn6, fun q hq => by
        rcases hs6 q hq with h | h | h
        · exact (hfr q h).1
        · have := hfx.2 q (by simpa using h); omega
        · (try simp at h); omega⟩)
      have HB6 := Lib.hid (HB5.out.trans (hk6.below (B := w.heap.size) HB5.out.size (fun q hq => (hfr q (hin1 q (by
        have h9 := HLN.out
        rw [h9]
        exact hq))).1)))
      clear ho6 hn6 hs6 hg6 hk6 hO3 hXE how9 hl1
      go_wp2
      go_roundw
      case rel => exact ⟨k + 1, _, _, _, by omega, by go_num, rfl, HO6, HB6.out⟩
      case measure => simp [intOf]; omega
    · have e : k = es.length := by omega
      have hki : ¬ (k : Int) < (es.length : Int) := by omega
      subst e
      have h9 := HO.out
      rw [List.take_length] at h9
      have H9 := Lib.hid h9
      clear h9 HO hb
      go_wp2
      go_ret
      first
        | exact ⟨_, _, _, rfl, H9.out, HB.out⟩
        | exact ⟨⟨_, H9.out⟩, HB.out⟩
        | exact ⟨_, H9.out, HB.out⟩

/-- What l08Top gives. -/
def TopsM (es : List Ed) (x : Ed) (w : World) (e : Ending) (w' : World) : Prop := ∃ A c fp, e = .returned (.slice A (topE es x).length c) ∧ RdE w' w.heap.size A (topE es x) fp ∧ Below w.heap.size w w'

set_option maxHeartbeats 8000000 in
theorem l08Top_any (A : Option Addr) (es : List Ed) (c : Nat) (a m : Int) (P : Option Addr) (p : List UInt8) (ep : Nat) (w : World) (hl6 : es.length ≤ 6) (hsm : ∀ e ∈ es, e.2.2.length ≤ 1000) (ha : -9223372036854775808 ≤ a ∧ a ≤ 9223372036854775807) (hm : -9223372036854775808 ≤ m ∧ m ≤ 9223372036854775807) (hp4 : p.length ≤ 1000) (hE : Es w A es) (hP : Bs w P p) :
    Calls Try.prog 118 #[.slice A es.length c, .agg #[.int .i64 a, .int .i64 m, .slice P p.length ep]] w (TopsM es (a, m, p) w) := by
  have hal := (Below.refl w.heap.size w).alloc (Nat.le_refl _) (.cells #[.int .i64 a, .int .i64 m, .slice P p.length ep] 30)
  have BX := Lib.hid (Blk.new w #[.int .i64 a, .int .i64 m, .slice P p.length ep] 30)
  have HE := Lib.hid (hE.below hal)
  have HP := Lib.hid (hP.below hal)
  have HB := Lib.hid hal
  have hzw : (w.alloc (.cells #[.int .i64 a, .int .i64 m, .slice P p.length ep] 30)).heap.size ≥ w.heap.size + 1 := by simp
  clear hal hE hP
  go_enter Try.func118, Try.ntmps118
  go_upto_region 1 with fail
  generalize w.alloc (.cells #[.int .i64 a, .int .i64 m, .slice P p.length ep] 30) = W at *
  have p0 := BX.out.cell 0
  have p1 := BX.out.cell 1
  have p2 := BX.out.cell 2
  have zb := BX.out.lt
  go_wp2_with fail
  refine wp_region_held_drew (S := (fun V => V.cell? ⟨w.heap.size, 0, none⟩ = some (.int .i64 a) ∧ V.cell? ⟨w.heap.size, 1, none⟩ = some (.int .i64 m) ∧ V.cell? ⟨w.heap.size, 2, none⟩ = some (.slice P p.length ep))) (by kernel_rfl) (by exact ⟨p0, p1, p2⟩) (fun hHeld => ?_)
  refine wpAnyH_take (i := 0) (oi := ?_) (v := ?_) ?_ ?_ ?_ ?_ ?_ ?_ (by exact hHeld) ?_
  rotate_left 2
  · (simp only [List.getElem?_toArray, List.getElem?_cons_zero]; try rfl)
  · kernel_rfl
  · kernel_rfl
  · kernel_rfl
  · exact fun _ _ _ h => h
  · refine Or.inl ⟨by rfl, ?_⟩
    (intro V hSV; (try dsimp only at hSV); obtain ⟨q0, q1, q2⟩ := hSV; go_simp; try with_reducible rfl)
  (try simp only [Act.put, List.setIfInBounds_toArray, List.set_cons_zero, List.set_cons_succ])
  refine wpAnyH_take (i := 2) (oi := ?_) (v := ?_) ?_ ?_ ?_ ?_ ?_ ?_ (by exact hHeld) ?_
  rotate_left 2
  · (simp only [List.getElem?_toArray, List.getElem?_cons_zero, List.getElem?_cons_succ]; try rfl)
  · kernel_rfl
  · kernel_rfl
  · kernel_rfl
  · exact fun _ _ _ h => h
  · refine Or.inl ⟨by rfl, ?_⟩
    (intro V hSV; (try dsimp only at hSV); obtain ⟨q0, q1, q2⟩ := hSV; go_simp; try with_reducible rfl)
  (try simp only [Act.put, List.setIfInBounds_toArray, List.set_cons_zero, List.set_cons_succ])
  refine wpAnyH_ready (rs := [1]) (by kernel_rfl) (by simp) ?_
  refine AllReadyH.cons rfl (fun K hK => ?_) AllReadyH.nil
  go_simp
  refine (l08Copy_any A es c _ (by omega) hsm (by exact HE.out)).mono ?_
  rintro x w1 ⟨A1, c1, f1, rfl, hO1, hb1⟩
  have hb1 : Below W.heap.size W w1 := ⟨hb1.os, hb1.tape, hb1.output, hb1.size, hb1.block⟩
  have hO1 : OwE w1 W.heap.size A1 es c1 f1 := ⟨hO1.ow, hO1.nd, hO1.lo⟩
  have HO1 := Lib.hid hO1
  have hfr1 := Lib.hid (show ∀ k ∈ f1, k < w1.heap.size from fun k hk => (hO1.range k hk).2)
  have HP1 := Lib.hid (HP.out.below hb1)
  have BX1 := Lib.hid (BX.out.below hb1)
  have HB1 := Lib.hid hb1
  clear hO1
  go_wp2_with fail
  refine hK.out _ _ (by exact ⟨(BX1.out).cell 0, (BX1.out).cell 1, (BX1.out).cell 2⟩) (fun hHeld => ?_)
  clear hK K
  (try simp only [Act.put, List.setIfInBounds_toArray, List.set_cons_zero, List.set_cons_succ])
  refine wpAnyH_ready (rs := [3]) (by kernel_rfl) (by simp) ?_
  refine AllReadyH.cons rfl (fun K hK => ?_) AllReadyH.nil
  go_simp
  refine (l08Edit_any a m P p ep _ (by omega) HP1.out).mono ?_
  rintro x w2 ⟨v3, rfl, hO2, hb2⟩
  obtain ⟨A3, c3, rfl, _, _, _⟩ := hO2.form
  have hfx := hO2.fp
  have HXE := Lib.hid (own_edit ha hm hO2)
  have HO1 := Lib.hid (HO1.out.below hb2)
  have BX2 := Lib.hid (BX1.out.below hb2)
  have HB2 := Lib.hid (below_then HB1.out hb2)
  have hz1 := HB1.out.size
  have hz2 := hb2.size
  have HF1 := Lib.hid (show ∀ k ∈ f1, k < w1.heap.size from fun k hk => (hfr1.out k hk))
  clear hO2 hb2
  go_wp2_with fail
  refine hK.out _ _ (by exact ⟨(BX2.out).cell 0, (BX2.out).cell 1, (BX2.out).cell 2⟩) (fun hHeld => ?_)
  clear hK K
  (try simp only [Act.put, List.setIfInBounds_toArray, List.set_cons_zero, List.set_cons_succ])
  refine wpAnyH_ready (rs := [4]) (by kernel_rfl) (by simp) ?_
  refine AllReadyH.cons (o := ?_) ?_ (fun K hK => ?_) AllReadyH.nil
  rotate_left 1
  · (simp only [List.getElem?_toArray, List.getElem?_cons_zero, List.getElem?_cons_succ]; try rfl)
  go_simp
  refine hK.out _ _ (by exact ⟨((show Blk _ w.heap.size #[.int .i64 a, .int .i64 m, .slice P p.length ep] 30 from BX2.out.alloc (.cells #[.int .i64 a, .int .i64 m, .slice A3 p.length c3] 30))).cell 0, ((show Blk _ w.heap.size #[.int .i64 a, .int .i64 m, .slice P p.length ep] 30 from BX2.out.alloc (.cells #[.int .i64 a, .int .i64 m, .slice A3 p.length c3] 30))).cell 1, ((show Blk _ w.heap.size #[.int .i64 a, .int .i64 m, .slice P p.length ep] 30 from BX2.out.alloc (.cells #[.int .i64 a, .int .i64 m, .slice A3 p.length c3] 30))).cell 2⟩) (fun hHeld => ?_)
  clear hK K
  (try simp only [Act.put, List.setIfInBounds_toArray, List.set_cons_zero, List.set_cons_succ])
  have hb5 : Below w2.heap.size w2 (w2.alloc (.cells #[.int .i64 a, .int .i64 m, .slice A3 p.length c3] 30)) := (Below.refl w2.heap.size w2).alloc (Nat.le_refl _) _
  refine wpAnyH_ready (rs := [5]) (by kernel_rfl) (by simp) ?_
  refine AllReadyH.cons (o := ?_) ?_ (fun K hK => ?_) AllReadyH.nil
  rotate_left 1
  · (simp only [List.getElem?_toArray, List.getElem?_cons_zero, List.getElem?_cons_succ]; try rfl)
  refine step_app_E rfl (.tmp 7) (.tmp 10) rfl (.slice A1 es.length c1) es f1 (a, m, p) (Value.slice A3 p.length c3).ownBlock.toList [.int .i64 a, .int .i64 m, .slice A3 p.length c3] ⟨w2.heap.size, 0, none⟩ 1 rfl rfl (by exact Lay.edits.owBelow HO1.out.ow hb5) HO1.out.nd (by exact Lay.edit.owBelow HXE.out hb5) hfx.1 w1.heap.size HF1.out hfx.2 (by exact cell_new3) (by omega) ?_
  intro v6 w6 fp6 ho6 hn6 hs6 hg6
  obtain ⟨A6, c6, e6, _, _, _⟩ := Lay.edits.read ho6
  simp only [List.cons.injEq, and_true] at e6
  obtain ⟨N, hN⟩ : ∃ N, (es ++ [(a, m, p)]).length = N := ⟨_, rfl⟩
  rw [hN] at e6
  subst e6
  have hg6 : (w2.alloc (.cells #[.int .i64 a, .int .i64 m, .slice A3 p.length c3] 30)).grownBy w6 (Value.slice A1 es.length c1).ownBlock := ⟨hg6.os, hg6.tape, hg6.output, hg6.size, hg6.block⟩
  have hk6 := Keeps.of_grown hg6
  have hin1 := own_in HO1.out.ow
  have hlo1 := HO1.out.lo
  have HB6 := Lib.hid (show Below W.heap.size W w6 from (below_then HB2.out hb5).trans (hk6.below (B := W.heap.size) (by have := hb5.size; omega) (fun k hk => hlo1 k (hin1 k hk))))
  have BX6 := Lib.hid (show Blk w6 w.heap.size #[.int .i64 a, .int .i64 m, .slice P p.length ep] 30 from BX.out.below HB6.out)
  have HO6 := Lib.hid (show OwE w6 W.heap.size A6 (es ++ [(a, m, p)]) c6 fp6 from ⟨by rw [hN]; exact ho6, hn6, fun k hk => by
    rcases hs6 k hk with h | h | h
    · exact hlo1 k h
    · have := hfx.2 k h; omega
    · simp at h; omega⟩)
  have HNH := Lib.hid hN
  clear ho6 hn6 hs6 hg6 hk6 hN
  (try go_simp)
  refine hK.out _ _ (by exact ⟨(BX6.out).cell 0, (BX6.out).cell 1, (BX6.out).cell 2⟩) (fun hHeld => ?_)
  clear hK K
  (try simp only [Act.put, List.setIfInBounds_toArray, List.set_cons_zero, List.set_cons_succ])
  refine wpAnyH_take (i := 6) (oi := ?_) (v := ?_) ?_ ?_ ?_ ?_ ?_ ?_ (by exact hHeld) ?_
  rotate_left 2
  · (simp only [List.getElem?_toArray, List.getElem?_cons_zero, List.getElem?_cons_succ]; try rfl)
  · kernel_rfl
  · kernel_rfl
  · kernel_rfl
  · exact fun _ _ _ h => h
  · refine Or.inl ⟨by rfl, ?_⟩
    (intro V hSV; (try dsimp only at hSV); obtain ⟨q0, q1, q2⟩ := hSV; go_simp; try with_reducible rfl)
  (try simp only [Act.put, List.setIfInBounds_toArray, List.set_cons_zero, List.set_cons_succ])
  refine wpAnyH_done (by kernel_rfl) ?_ _
  clear hHeld p0 p1 p2
  have HB7 := Lib.hid (below_then HB.out HB6.out)
  have hN := HNH.out
  have hN2 : N = es.length + 1 := by rw [← hN]; simp
  by_cases h6 : es.length < 6
  · have hle : ¬ (6 : Int) < (N : Int) := by omega
    have HT := Lib.hid (topE_room (e := (a, m, p)) h6)
    have HN := Lib.hid hN
    clear hN hN2
    go_wp2
    go_ret
    refine ⟨A6, c6, fp6, by rw [HT.out, HN.out]; rfl, ?_, HB7.out⟩
    rw [HT.out]
    exact (HO6.out.rdE).mono (by omega)
  · have hle : (6 : Int) < (N : Int) := by omega
    have htop : topE es (a, m, p) = (es ++ [(a, m, p)]).drop 1 := by unfold topE; rw [if_neg h6]
    have HT := Lib.hid htop
    obtain ⟨g, hA6⟩ : ∃ g, A6 = some ⟨g, 0, none⟩ := by
      obtain ⟨els, e1, hrow, _⟩ := ow_one HO6.out.ow
      rcases hrow.2 with ⟨e, h0⟩ | ⟨g, cap, cur, e, _⟩
      · have : (es ++ [(a, m, p)]).length = els.length := by rw [e1, List.length_map]
        omega
      · simp only [Value.slice.injEq] at e
        exact ⟨g, e.1⟩
    subst hA6
    have hcap : N ≤ c6 ∧ c6 ≤ maxLen := by
      obtain ⟨A9, c9, e9, h1, h2, _⟩ := Lay.edits.read HO6.out.ow
      simp only [List.cons.injEq, Value.slice.injEq, and_true] at e9
      rw [e9.2.2, ← hN]
      exact ⟨h1, h2⟩
    have hS := slcE_from g N c6 1 (by omega) hcap.1 hcap.2
    rw [if_neg (by omega)] at hS
    simp only [Nat.one_mul, Int.natCast_one] at hS
    have hrd := HO6.out.rdE
    have HR := Lib.hid (show RdE w6 w.heap.size (some ⟨g, 3, none⟩) ((es ++ [(a, m, p)]).drop 1) fp6 from ⟨fun W hk hs => (hrd.rd W hk hs).drop1 (c := c6), fun k hk => ⟨by have := (hrd.lo k hk).1; omega, (hrd.lo k hk).2⟩⟩)
    have hln : (topE es (a, m, p)).length = N - 1 := by rw [htop, List.length_drop, hN]
    have HLN := Lib.hid hln
    clear hN hN2 htop hcap hrd hln
    go_wp2
    go_ret
    refine ⟨_, _, fp6, by rw [HLN.out]; rfl, ?_, HB7.out⟩
    rw [HT.out]
    exact HR.out
end Go.Proofs.Ytdmmdbapkogdhaa

namespace Go.Proofs.Ytdmmdbapkogdhaa
open Go.RowKit P
set_option linter.unusedVariables false
set_option linter.unusedSimpArgs false
set_option maxRecDepth 100000

/-- A stack whose first list is read in blocks that the call made, and whose second is empty. -/
def GivesRd (u : List Ed) (ok : Bool) (w : World) (e : Ending) (w' : World) : Prop := ∃ A c fp B d, e = .returned (.tuple #[.agg #[.slice A u.length c, .slice B 0 d], .bool ok]) ∧ RdE w' w.heap.size A u fp ∧ Below w.heap.size w w'

set_option maxHeartbeats 16000000 in
theorem specStackPush_any (A : Option Addr) (u : List Ed) (c : Nat) (B : Option Addr) (r : List Ed) (d : Nat) (a m : Int) (P : Option Addr) (p : List UInt8) (ep : Nat) (w : World) (hu9 : u.length ≤ 9223372036854775807) (hr9 : r.length ≤ 9223372036854775807) (hp9 : p.length ≤ 9223372036854775807) (ha : -9223372036854775808 ≤ a ∧ a ≤ 9223372036854775807) (hm : -9223372036854775808 ≤ m ∧ m ≤ 9223372036854775807) (hU : Es w A u) (hR : Es w B r) (hP : Bs w P p) :
    Calls Try.prog 38 #[.agg #[.slice A u.length c, .slice B r.length d], .agg #[.int .i64 a, .int .i64 m, .slice P p.length ep]] w (GivesRd (pushU u r (a, m, p)) (pushOk u r (a, m, p)) w) := by
  have hal := ((((Below.refl w.heap.size w).alloc (Nat.le_refl _) (.cells #[.slice A u.length c, .slice B r.length d] 46)).alloc (by simp) (.cells #[.int .i64 a, .int .i64 m, .slice P p.length ep] 30)).alloc (by simp; omega) (.cells #[.slice none 0 0, .slice none 0 0] 46))
  have hbx := ((Blk.new w #[.slice A u.length c, .slice B r.length d] 46).alloc (.cells #[.int .i64 a, .int .i64 m, .slice P p.length ep] 30)).alloc (.cells #[.slice none 0 0, .slice none 0 0] 46)
  have hex := (Blk.new (w.alloc (.cells #[.slice A u.length c, .slice B r.length d] 46)) #[.int .i64 a, .int .i64 m, .slice P p.length ep] 30).alloc (.cells #[.slice none 0 0, .slice none 0 0] 46)
  have hrx := Blk.new ((w.alloc (.cells #[.slice A u.length c, .slice B r.length d] 46)).alloc (.cells #[.int .i64 a, .int .i64 m, .slice P p.length ep] 30)) #[.slice none 0 0, .slice none 0 0] 46
  simp only [World.size_alloc] at hex hrx
  have BX := Lib.hid hbx
  have EX := Lib.hid hex
  have RX := Lib.hid hrx
  have HB := Lib.hid hal
  have HU := Lib.hid (show ∀ W, Below w.heap.size w W → Es W A u from fun W h => hU.below h)
  have HR := Lib.hid (show ∀ W, Below w.heap.size w W → Es W B r from fun W h => hR.below h)
  have HP := Lib.hid (show ∀ W, Below w.heap.size w W → Bs W P p from fun W h => hP.below h)
  have hzw : (((w.alloc (.cells #[.slice A u.length c, .slice B r.length d] 46)).alloc (.cells #[.int .i64 a, .int .i64 m, .slice P p.length ep] 30)).alloc (.cells #[.slice none 0 0, .slice none 0 0] 46)).heap.size ≥ w.heap.size + 3 := by simp
  obtain ⟨z, hz⟩ : ∃ z, stOk u r = z := ⟨_, rfl⟩
  have HZ := Lib.hid hz
  obtain ⟨s, hs⟩ : ∃ s, edSmall a m p = s := ⟨_, rfl⟩
  have HS := Lib.hid hs
  obtain ⟨k, hk⟩ : ∃ k, pushOk u r (a, m, p) = k := ⟨_, rfl⟩
  have hks : k = (z && s) := by rw [← hk, ← hz, ← hs]; rfl
  have HKS := Lib.hid hks
  obtain ⟨L, hL⟩ : ∃ L, pushU u r (a, m, p) = L := ⟨_, rfl⟩
  rw [hk, hL]
  have HL := Lib.hid hL
  have HK := Lib.hid hk
  clear hL hks hk hz hs hal hbx hex hrx hU hR hP
  go_enter Try.func38, Try.ntmps38
  have p0 := BX.out.cell 0
  have p1 := BX.out.cell 1
  go_upto_region 1 with fail
  generalize ((w.alloc (.cells #[.slice A u.length c, .slice B r.length d] 46)).alloc (.cells #[.int .i64 a, .int .i64 m, .slice P p.length ep] 30)).alloc (.cells #[.slice none 0 0, .slice none 0 0] 46) = W at *
  have hU1 := HU.out _ HB.out
  have hR1 := HR.out _ HB.out
  go_wp2_with fail
  refine (specStackOk_any A B u r c d _ hu9 hr9 hU1 hR1).mono ?_
  rintro e w1 ⟨rfl, hb⟩
  rw [HZ.out]
  clear hU1 hR1
  clear p0 p1
  have hz1 := hb.size
  have BX := Lib.hid (BX.out.below hb)
  have EX := Lib.hid (EX.out.below hb)
  have RX := Lib.hid (RX.out.below hb)
  have HB := Lib.hid (below_then HB.out hb)
  clear hb
  cases z
  · have hk0 : k = false := by rw [HKS.out]; rfl
    subst hk0
    have hv0 : L = [] := by rw [← HL.out]; unfold pushU; rw [HK.out]; rfl
    subst hv0
    have q0 := RX.out.cell 0
    have q1 := RX.out.cell 1
    have f0 := RX.out.frozen 0
    have f1 := RX.out.frozen 1
    have hltR := RX.out.lt
    go_wp2
    refine bodyPost_ret (v := .tuple #[.agg #[.slice none 0 0, .slice none 0 0], .bool false]) (by simp [results, Try.results38, go_sem, q0, q1]) rfl ?_
    exact ⟨none, 0, [], none, 0, rfl, RdE.nil _ _, ((HB.out.setCell (p := ⟨w.heap.size + 2, 0, none⟩) (by simp) _).setCell (p := ⟨w.heap.size + 2, 1, none⟩) (by simp) _)⟩
  have p0 := EX.out.cell 0
  have p1 := EX.out.cell 1
  have p2 := EX.out.cell 2
  go_wp2_with fail
  refine (l05Small_any a m P p ep _ hp9).mono ?_
  rintro e w2 ⟨rfl, hb⟩
  rw [HS.out]
  clear p0 p1 p2
  have hz2 := hb.size
  have BX := Lib.hid (BX.out.below hb)
  have EX := Lib.hid (EX.out.below hb)
  have RX := Lib.hid (RX.out.below hb)
  have HB := Lib.hid (below_then HB.out hb)
  clear hb
  cases s
  · have hk0 : k = false := by rw [HKS.out]; rfl
    subst hk0
    have hv0 : L = [] := by rw [← HL.out]; unfold pushU; rw [HK.out]; rfl
    subst hv0
    have q0 := RX.out.cell 0
    have q1 := RX.out.cell 1
    have f0 := RX.out.frozen 0
    have f1 := RX.out.frozen 1
    have hltR := RX.out.lt
    go_wp2
    refine bodyPost_ret (v := .tuple #[.agg #[.slice none 0 0, .slice none 0 0], .bool false]) (by simp [results, Try.results38, go_sem, q0, q1]) rfl ?_
    exact ⟨none, 0, [], none, 0, rfl, RdE.nil _ _, ((HB.out.setCell (p := ⟨w.heap.size + 2, 0, none⟩) (by simp) _).setCell (p := ⟨w.heap.size + 2, 1, none⟩) (by simp) _)⟩
  have hk1 : k = true := by rw [HKS.out]; rfl
  subst hk1
  have hv1 : L = topE u (a, m, p) := by rw [← HL.out]; unfold pushU; rw [HK.out]; rfl
  subst hv1
  have hfu : stFit u = true := by have h9 := HZ.out; unfold stOk at h9; rw [Bool.and_eq_true] at h9; exact h9.1
  have hl6 := stFit_len hfu
  have hsm : ∀ e ∈ u, e.2.2.length ≤ 1000 := fun e he => by
    have h8 := (edSmall_iff _ _ _).1 (show edSmall e.1 e.2.1 e.2.2 = true from stFit_all hfu e he)
    omega
  have hp4 : p.length ≤ 1000 := by have h8 := (edSmall_iff _ _ _).1 HS.out; omega
  have p0 := BX.out.cell 0
  have p1 := BX.out.cell 1
  have q0 := EX.out.cell 0
  have q1 := EX.out.cell 1
  have q2 := EX.out.cell 2
  have hU1 := Lib.hid (HU.out _ HB.out)
  have hP1 := Lib.hid (HP.out _ HB.out)
  go_wp2_with fail
  refine (l08Top_any A u c a m P p ep _ hl6 hsm ha hm hp4 hU1.out hP1.out).mono ?_
  rintro e w3 ⟨T1, tc, tf, rfl, hrd, hb⟩
  have hrg : ∀ k ∈ tf, w.heap.size + 3 ≤ k := fun k hk => by have := (hrd.lo k hk).1; omega
  have hRD := Lib.hid (hrd.mono (show w.heap.size ≤ _ by omega))
  clear hrd hU1 hP1
  clear p0 p1
  clear q0 q1 q2
  have BX := Lib.hid (BX.out.below hb)
  have EX := Lib.hid (EX.out.below hb)
  have RX := Lib.hid (RX.out.below hb)
  have HB := Lib.hid (below_then HB.out hb)
  clear hb
  have RX7 := Lib.hid (show Blk ((w3.setCell ⟨w.heap.size + 2, 0, none⟩ (.slice T1 (topE u (a, m, p)).length tc)).setCell ⟨w.heap.size + 2, 1, none⟩ (.slice none 0 0)) (w.heap.size + 2) #[.slice T1 (topE u (a, m, p)).length tc, .slice none 0 0] 46 by simpa using ((RX.out.set 0 (.slice T1 (topE u (a, m, p)).length tc)).set 1 (.slice none 0 0)))
  have HB7 := Lib.hid (show Below w.heap.size w ((w3.setCell ⟨w.heap.size + 2, 0, none⟩ (.slice T1 (topE u (a, m, p)).length tc)).setCell ⟨w.heap.size + 2, 1, none⟩ (.slice none 0 0)) from ((HB.out.setCell (p := ⟨w.heap.size + 2, 0, none⟩) (by simp) _).setCell (p := ⟨w.heap.size + 2, 1, none⟩) (by simp) _))
  have hk9 := ((Keeps.refl [w.heap.size + 2] w3).set (g := w.heap.size + 2) (by simp) 0 (.slice T1 (topE u (a, m, p)).length tc)).set (g := w.heap.size + 2) (by simp) 1 (.slice none 0 0)
  have HO7 := Lib.hid (hRD.out.keeps hk9 (fun k hk => by have := hrg k hk; simp; omega))
  have p0 := RX.out.cell 0
  have p1 := RX.out.cell 1
  have f0 := RX.out.frozen 0
  have f1 := RX.out.frozen 1
  have hltR := RX.out.lt
  have q0 := RX7.out.cell 0
  have q1 := RX7.out.cell 1
  clear hk9
  go_wp2
  refine bodyPost_ret (v := .tuple #[.agg #[.slice T1 (topE u (a, m, p)).length tc, .slice none 0 0], .bool true]) (by simp [results, Try.results38, go_sem, q0, q1]) rfl ?_
  exact ⟨_, _, _, _, _, rfl, HO7.out, HB7.out⟩
end Go.Proofs.Ytdmmdbapkogdhaa

namespace Go.Proofs.Ytdmmdbapkogdhaa
open Go.RowKit P
set_option linter.unusedVariables false
set_option linter.unusedSimpArgs false
set_option maxRecDepth 100000

theorem Es.takeT {w : World} {A : Option Addr} {es : List Ed} (h : Es w A es) (k : Nat) : Es w A (es.take k) := fun i hi => by
  have hi2 : i < es.length := by rw [List.length_take] at hi; omega
  have h9 := h i hi2
  rw [List.getElem_take]
  exact h9
/-- A list that is not empty begins its row. -/
def Row0 (A : Option Addr) (es : List Ed) (c : Nat) : Prop := 0 < es.length → ∃ g, A = some ⟨g, 0, none⟩ ∧ es.length ≤ c ∧ c ≤ maxLen
theorem OwE.row0 {w : World} {base : Nat} {A : Option Addr} {es : List Ed} {c : Nat} {fp : List Nat} (h : OwE w base A es c fp) : Row0 A es c := fun h0 => by
  obtain ⟨A9, c9, e9, h1, h2, _⟩ := Lay.edits.read h.ow
  simp only [List.cons.injEq, Value.slice.injEq, and_true] at e9
  obtain ⟨els, e1, hrow, _⟩ := ow_one h.ow
  rcases hrow.2 with ⟨e, h3⟩ | ⟨g, cap, cur, e, _⟩
  · have : es.length = els.length := by rw [e1, List.length_map]
    omega
  · simp only [Value.slice.injEq] at e
    exact ⟨g, e.1, by rw [e9.2.2]; exact h1, by rw [e9.2.2]; exact h2⟩

/-- A stack whose lists are read in blocks that the call made. -/
def GivesRd2 (u r : List Ed) (ok : Bool) (w : World) (e : Ending) (w' : World) : Prop := ∃ A c fp B d gp, e = .returned (.tuple #[.agg #[.slice A u.length c, .slice B r.length d], .bool ok]) ∧ RdE w' w.heap.size A u fp ∧ RdE w' w.heap.size B r gp ∧ Below w.heap.size w w'

set_option maxHeartbeats 16000000 in
theorem specStackTurn_any (A : Option Addr) (u : List Ed) (c : Nat) (B : Option Addr) (r : List Ed) (d : Nat) (redo : Bool) (a m : Int) (P : Option Addr) (p : List UInt8) (ep : Nat) (w : World) (hu9 : u.length ≤ 9223372036854775807) (hr9 : r.length ≤ 9223372036854775807) (hp9 : p.length ≤ 9223372036854775807) (ha : -9223372036854775808 ≤ a ∧ a ≤ 9223372036854775807) (hm : -9223372036854775808 ≤ m ∧ m ≤ 9223372036854775807) (hru : Row0 A u c) (hrr : Row0 B r d) (hU : Es w A u) (hR : Es w B r) (hP : Bs w P p) :
    Calls Try.prog 172 #[.agg #[.slice A u.length c, .slice B r.length d], .bool redo, .agg #[.int .i64 a, .int .i64 m, .slice P p.length ep]] w (GivesRd2 (turnU u r redo (a, m, p)) (turnR u r redo (a, m, p)) (turnOk u r redo (a, m, p)) w) := by
  have hal := ((((Below.refl w.heap.size w).alloc (Nat.le_refl _) (.cells #[.slice A u.length c, .slice B r.length d] 46)).alloc (by simp) (.cells #[.int .i64 a, .int .i64 m, .slice P p.length ep] 30)).alloc (by simp; omega) (.cells #[.slice none 0 0, .slice none 0 0] 46))
  have hbx := ((Blk.new w #[.slice A u.length c, .slice B r.length d] 46).alloc (.cells #[.int .i64 a, .int .i64 m, .slice P p.length ep] 30)).alloc (.cells #[.slice none 0 0, .slice none 0 0] 46)
  have hex := (Blk.new (w.alloc (.cells #[.slice A u.length c, .slice B r.length d] 46)) #[.int .i64 a, .int .i64 m, .slice P p.length ep] 30).alloc (.cells #[.slice none 0 0, .slice none 0 0] 46)
  have hrx := Blk.new ((w.alloc (.cells #[.slice A u.length c, .slice B r.length d] 46)).alloc (.cells #[.int .i64 a, .int .i64 m, .slice P p.length ep] 30)) #[.slice none 0 0, .slice none 0 0] 46
  simp only [World.size_alloc] at hex hrx
  have BX := Lib.hid hbx
  have EX := Lib.hid hex
  have RX := Lib.hid hrx
  have HB := Lib.hid hal
  have HU := Lib.hid (show ∀ W, Below w.heap.size w W → Es W A u from fun W h => hU.below h)
  have HR := Lib.hid (show ∀ W, Below w.heap.size w W → Es W B r from fun W h => hR.below h)
  have HP := Lib.hid (show ∀ W, Below w.heap.size w W → Bs W P p from fun W h => hP.below h)
  obtain ⟨t, ht⟩ : ∃ t, topOk u r redo = t := ⟨_, rfl⟩
  have HT := Lib.hid ht
  obtain ⟨⟨va, vm, vp⟩, hvv⟩ : ∃ V, topV u r redo = V := ⟨_, rfl⟩
  have HVV := Lib.hid hvv
  obtain ⟨s, hs⟩ : ∃ s, edSmall a m p = s := ⟨_, rfl⟩
  have HS := Lib.hid hs
  obtain ⟨k, hk⟩ : ∃ k, turnOk u r redo (a, m, p) = k := ⟨_, rfl⟩
  have hks : k = (t && s) := by rw [← hk, ← ht, ← hs]; rfl
  have HKS := Lib.hid hks
  obtain ⟨L, hL⟩ : ∃ L, turnU u r redo (a, m, p) = L := ⟨_, rfl⟩
  obtain ⟨M, hM⟩ : ∃ M, turnR u r redo (a, m, p) = M := ⟨_, rfl⟩
  rw [hk, hL, hM]
  have HL := Lib.hid hL
  have HM := Lib.hid hM
  have HK := Lib.hid hk
  clear hL hM hks hk ht hvv hs hal hbx hex hrx hU hR hP
  go_enter Try.func172, Try.ntmps172
  cases redo
  · have p0 := BX.out.cell 0
    have p1 := BX.out.cell 1
    go_wp2_with fail
    generalize ((w.alloc (.cells #[.slice A u.length c, .slice B r.length d] 46)).alloc (.cells #[.int .i64 a, .int .i64 m, .slice P p.length ep] 30)).alloc (.cells #[.slice none 0 0, .slice none 0 0] 46) = W at *
    have hU1 := HU.out _ HB.out
    have hR1 := HR.out _ HB.out
    refine (specStackTop_any A u c B r d false _ hu9 hr9 hU1 hR1).mono ?_
    rintro e w1 ⟨v, rfl, hown, hb⟩
    rw [HT.out, HVV.out]
    rw [HVV.out] at hown
    obtain ⟨vA, vc, rfl, _, _, _⟩ := hown.form
    have hal := (Below.refl w1.heap.size w1).alloc (Nat.le_refl _) (.cells #[.int .i64 va, .int .i64 vm, .slice vA vp.length vc] 30)
    have hb2 := below_then hb hal
    clear hU1 hR1 hown hb hal
    clear p0 p1
    have BX := Lib.hid (BX.out.below hb2)
    have EX := Lib.hid (EX.out.below hb2)
    have RX := Lib.hid (RX.out.below hb2)
    have HB := Lib.hid (below_then HB.out hb2)
    clear hb2
    cases t
    · have hk0 : k = false := by rw [HKS.out]; rfl
      subst hk0
      have hv0 : L = [] := by rw [← HL.out]; unfold turnU; rw [HK.out]; rfl
      have hv1 : M = [] := by rw [← HM.out]; unfold turnR; rw [HK.out]; rfl
      subst hv0 hv1
      have q0 := RX.out.cell 0
      have q1 := RX.out.cell 1
      have f0 := RX.out.frozen 0
      have f1 := RX.out.frozen 1
      have hltR := RX.out.lt
      go_wp2
      refine bodyPost_ret (v := .tuple #[.agg #[.slice none 0 0, .slice none 0 0], .bool false]) (by simp [results, Try.results172, go_sem, q0, q1]) rfl ?_
      exact ⟨none, 0, [], none, 0, [], rfl, RdE.nil _ _, RdE.nil _ _, ((HB.out.setCell (p := ⟨w.heap.size + 2, 0, none⟩) (by simp) _).setCell (p := ⟨w.heap.size + 2, 1, none⟩) (by simp) _)⟩
    have p0 := EX.out.cell 0
    have p1 := EX.out.cell 1
    have p2 := EX.out.cell 2
    go_wp2_with fail
    generalize w1.alloc (.cells #[.int .i64 va, .int .i64 vm, .slice vA vp.length vc] 30) = W1 at *
    refine (l05Small_any a m P p ep _ hp9).mono ?_
    rintro e w2 ⟨rfl, hb⟩
    rw [HS.out]
    clear p0 p1 p2
    have BX := Lib.hid (BX.out.below hb)
    have EX := Lib.hid (EX.out.below hb)
    have RX := Lib.hid (RX.out.below hb)
    have HB := Lib.hid (below_then HB.out hb)
    clear hb
    cases s
    · have hk0 : k = false := by rw [HKS.out]; rfl
      subst hk0
      have hv0 : L = [] := by rw [← HL.out]; unfold turnU; rw [HK.out]; rfl
      have hv1 : M = [] := by rw [← HM.out]; unfold turnR; rw [HK.out]; rfl
      subst hv0 hv1
      have q0 := RX.out.cell 0
      have q1 := RX.out.cell 1
      have f0 := RX.out.frozen 0
      have f1 := RX.out.frozen 1
      have hltR := RX.out.lt
      go_wp2
      refine bodyPost_ret (v := .tuple #[.agg #[.slice none 0 0, .slice none 0 0], .bool false]) (by simp [results, Try.results172, go_sem, q0, q1]) rfl ?_
      exact ⟨none, 0, [], none, 0, [], rfl, RdE.nil _ _, RdE.nil _ _, ((HB.out.setCell (p := ⟨w.heap.size + 2, 0, none⟩) (by simp) _).setCell (p := ⟨w.heap.size + 2, 1, none⟩) (by simp) _)⟩
    have hk1 : k = true := by rw [HKS.out]; rfl
    subst hk1
    have hv1 : L = u.take (u.length - 1) := by rw [← HL.out]; unfold turnU; rw [HK.out]; rfl
    have hv2 : M = topE r (a, m, p) := by rw [← HM.out]; unfold turnR; rw [HK.out]; rfl
    subst hv1 hv2
    have htk : stOk u r = true ∧ 0 < u.length := by
      have h9 := HT.out
      unfold topOk at h9
      rw [Bool.and_eq_true] at h9
      exact ⟨h9.1, of_decide_eq_true h9.2⟩
    have hst : stFit u = true ∧ stFit r = true := by have h9 := htk.1; unfold stOk at h9; rw [Bool.and_eq_true] at h9; exact h9
    have hfX := hst.1
    have hfY := hst.2
    have hX6 := stFit_len hfX
    have hY6 := stFit_len hfY
    have hall : ∀ es : List Ed, stFit es = true → ∀ e ∈ es, e.2.2.length ≤ 1000 := fun es he e h => by
      have h8 := (edSmall_iff _ _ _).1 (show edSmall e.1 e.2.1 e.2.2 = true from stFit_all he e h)
      omega
    have hsX := hall _ hfX
    have hsY := hall _ hfY
    have hp4 : p.length ≤ 1000 := by have h8 := (edSmall_iff _ _ _).1 HS.out; omega
    obtain ⟨g, hAg, hcg, hmg⟩ := hru htk.2
    obtain ⟨n1, hn1⟩ : ∃ n1, u.length = n1 + 1 := ⟨u.length - 1, by have := htk.2; omega⟩
    have hlen : (u.take (u.length - 1)).length = n1 := by rw [List.length_take]; omega
    have HLEN := Lib.hid hlen
    have hS := slcE_head g u.length c n1 (by omega) hcg hmg
    rw [← hAg] at hS
    have hsub : (u.length : Int) - 1 = (n1 : Int) := by omega
    have hwr : IntKind.i64.wrap (n1 : Int) = (n1 : Int) := IntWalk.i64_in _ (by omega)
    have hn9 : n1 ≤ 5 := by omega
    clear hn1 hlen htk hst hfX hfY hall hAg hcg hmg
    have p0 := BX.out.cell 0
    have p1 := BX.out.cell 1
    go_wp2_with fail
    refine (l08Side_any (.slice A u.length c) (.slice B r.length d) false _).mono ?_
    rintro e w3 ⟨rfl, hb⟩
    rw [if_neg (by simp)]
    clear p0 p1
    have BX := Lib.hid (BX.out.below hb)
    have EX := Lib.hid (EX.out.below hb)
    have RX := Lib.hid (RX.out.below hb)
    have HB := Lib.hid (below_then HB.out hb)
    clear hb
    go_wp2_with fail
    have zw3 : w.heap.size + 3 ≤ w3.heap.size := RX.out.lt
    have hcp := l08Copy_any A (u.take (u.length - 1)) c w3 (by rw [HLEN.out]; omega) (fun e he => hsX e (List.mem_of_mem_take he)) (Es.takeT (HU.out _ HB.out) _)
    rw [HLEN.out] at hcp
    refine hcp.mono ?_
    clear hcp
    rintro e w4 ⟨lA, lc, lf, rfl, hlo, hb⟩
    rw [HLEN.out]
    have hlg : ∀ q ∈ lf, w.heap.size + 3 ≤ q := fun q hq => by have := hlo.lo q hq; have := RX.out.lt; omega
    have zl := hlo.rdE.lo
    have LO := Lib.hid hlo.rdE
    clear hlo
    have BX := Lib.hid (BX.out.below hb)
    have EX := Lib.hid (EX.out.below hb)
    have RX := Lib.hid (RX.out.below hb)
    have HB := Lib.hid (below_then HB.out hb)
    clear hb
    have p0 := BX.out.cell 0
    have p1 := BX.out.cell 1
    have q0 := EX.out.cell 0
    have q1 := EX.out.cell 1
    have q2 := EX.out.cell 2
    have zA := BX.out.lt
    have zE := EX.out.lt
    have hY1 := Lib.hid (HR.out _ HB.out)
    have hP1 := Lib.hid (HP.out _ HB.out)
    go_wp2_with fail
    refine wp_region_held_drew (S := (fun V => V.cell? ⟨w.heap.size, 0, none⟩ = some (.slice A u.length c) ∧ V.cell? ⟨w.heap.size, 1, none⟩ = some (.slice B r.length d) ∧ V.cell? ⟨w.heap.size + 1, 0, none⟩ = some (.int .i64 a) ∧ V.cell? ⟨w.heap.size + 1, 1, none⟩ = some (.int .i64 m) ∧ V.cell? ⟨w.heap.size + 1, 2, none⟩ = some (.slice P p.length ep))) (by kernel_rfl) (by exact ⟨p0, p1, q0, q1, q2⟩) (fun hHeld => ?_)
    refine wpAnyH_take (i := 0) (oi := ?_) (v := ?_) ?_ ?_ ?_ ?_ ?_ ?_ (by exact hHeld) ?_
    rotate_left 2
    · (simp only [List.getElem?_toArray, List.getElem?_cons_zero]; try rfl)
    · kernel_rfl
    · kernel_rfl
    · kernel_rfl
    · exact fun _ _ _ h => h
    · refine Or.inl ⟨by rfl, ?_⟩
      (intro V hSV; (try dsimp only at hSV); obtain ⟨q0, q1, q2, q3, q4⟩ := hSV; go_simp; try with_reducible rfl)
    (try simp only [Act.put, List.setIfInBounds_toArray, List.set_cons_zero, List.set_cons_succ])
    refine wpAnyH_take (i := 1) (oi := ?_) (v := ?_) ?_ ?_ ?_ ?_ ?_ ?_ (by exact hHeld) ?_
    rotate_left 2
    · (simp only [List.getElem?_toArray, List.getElem?_cons_zero, List.getElem?_cons_succ]; try rfl)
    · kernel_rfl
    · kernel_rfl
    · kernel_rfl
    · exact fun _ _ _ h => h
    · refine Or.inl ⟨by rfl, ?_⟩
      (intro V hSV; (try dsimp only at hSV); obtain ⟨q0, q1, q2, q3, q4⟩ := hSV; go_simp; try with_reducible rfl)
    (try simp only [Act.put, List.setIfInBounds_toArray, List.set_cons_zero, List.set_cons_succ])
    refine wpAnyH_take (i := 2) (oi := ?_) (v := ?_) ?_ ?_ ?_ ?_ ?_ ?_ (by exact hHeld) ?_
    rotate_left 2
    · (simp only [List.getElem?_toArray, List.getElem?_cons_zero, List.getElem?_cons_succ]; try rfl)
    · kernel_rfl
    · kernel_rfl
    · kernel_rfl
    · exact fun _ _ _ h => h
    · refine Or.inl ⟨by rfl, ?_⟩
      (intro V hSV; (try dsimp only at hSV); obtain ⟨q0, q1, q2, q3, q4⟩ := hSV; go_simp; try with_reducible rfl)
    (try simp only [Act.put, List.setIfInBounds_toArray, List.set_cons_zero, List.set_cons_succ])
    refine wpAnyH_take (i := 4) (oi := ?_) (v := ?_) ?_ ?_ ?_ ?_ ?_ ?_ (by exact hHeld) ?_
    rotate_left 2
    · (simp only [List.getElem?_toArray, List.getElem?_cons_zero, List.getElem?_cons_succ]; try rfl)
    · kernel_rfl
    · kernel_rfl
    · kernel_rfl
    · exact fun _ _ _ h => h
    · refine Or.inl ⟨by rfl, ?_⟩
      (intro V hSV; (try dsimp only at hSV); obtain ⟨q0, q1, q2, q3, q4⟩ := hSV; go_simp; try with_reducible rfl)
    (try simp only [Act.put, List.setIfInBounds_toArray, List.set_cons_zero, List.set_cons_succ])
    refine wpAnyH_ready (rs := [3]) (by kernel_rfl) (by simp) ?_
    refine AllReadyH.cons rfl (fun K hK => ?_) AllReadyH.nil
    go_simp
    refine (l08Side_any (.slice A u.length c) (.slice B r.length d) true _).mono ?_
    rintro e w5 ⟨rfl, hbw5⟩
    rw [if_pos rfl]
    have hbw5 : Below w4.heap.size w4 w5 := ⟨hbw5.os, hbw5.tape, hbw5.output, hbw5.size, hbw5.block⟩
    have hbR := hbw5
    have hY2 := Lib.hid (hY1.out.below hbw5)
    have hP2 := Lib.hid (hP1.out.below hbw5)
    go_wp2_with fail
    refine hK.out _ _ (by exact ⟨((hbR).cell (p := ⟨w.heap.size, 0, none⟩) zA).trans p0, ((hbR).cell (p := ⟨w.heap.size, 1, none⟩) zA).trans p1, ((hbR).cell (p := ⟨w.heap.size + 1, 0, none⟩) zE).trans q0, ((hbR).cell (p := ⟨w.heap.size + 1, 1, none⟩) zE).trans q1, ((hbR).cell (p := ⟨w.heap.size + 1, 2, none⟩) zE).trans q2⟩) (fun hHeld => ?_)
    clear hK K
    (try simp only [Act.put, List.setIfInBounds_toArray, List.set_cons_zero, List.set_cons_succ])
    refine wpAnyH_ready (rs := [5]) (by kernel_rfl) (by simp) ?_
    refine AllReadyH.cons rfl (fun K hK => ?_) AllReadyH.nil
    go_simp
    refine (l08Top_any B r d a m P p ep _ hY6 hsY ha hm hp4 (by exact hY2.out) (by exact hP2.out)).mono ?_
    rintro e w6 ⟨T1, tc, tf, rfl, htr, hbw6⟩
    have hbw6 : Below w5.heap.size w5 w6 := ⟨hbw6.os, hbw6.tape, hbw6.output, hbw6.size, hbw6.block⟩
    have hbR := below_then hbR hbw6
    have zt := htr.lo
    have TR := Lib.hid htr
    clear htr
    go_wp2_with fail
    refine hK.out _ _ (by exact ⟨((hbR).cell (p := ⟨w.heap.size, 0, none⟩) zA).trans p0, ((hbR).cell (p := ⟨w.heap.size, 1, none⟩) zA).trans p1, ((hbR).cell (p := ⟨w.heap.size + 1, 0, none⟩) zE).trans q0, ((hbR).cell (p := ⟨w.heap.size + 1, 1, none⟩) zE).trans q1, ((hbR).cell (p := ⟨w.heap.size + 1, 2, none⟩) zE).trans q2⟩) (fun hHeld => ?_)
    clear hK K
    (try simp only [Act.put, List.setIfInBounds_toArray, List.set_cons_zero, List.set_cons_succ])
    refine wpAnyH_take (i := 6) (oi := ?_) (v := ?_) ?_ ?_ ?_ ?_ ?_ ?_ (by exact hHeld) ?_
    rotate_left 2
    · (simp only [List.getElem?_toArray, List.getElem?_cons_zero, List.getElem?_cons_succ]; try rfl)
    · kernel_rfl
    · kernel_rfl
    · kernel_rfl
    · exact fun _ _ _ h => h
    · refine Or.inl ⟨by rfl, ?_⟩
      (intro V hSV; (try dsimp only at hSV); obtain ⟨q0, q1, q2, q3, q4⟩ := hSV; go_simp; try with_reducible rfl)
    (try simp only [Act.put, List.setIfInBounds_toArray, List.set_cons_zero, List.set_cons_succ])
    refine wpAnyH_done (by kernel_rfl) ?_ _
    clear hHeld hY1 hP1 hY2 hP2 zA zE
    clear p0 p1
    clear q0 q1 q2
    have zc1 := hbw5.size
    have hw4 : w.heap.size + 3 ≤ w4.heap.size := RX.out.lt
    have LO := Lib.hid (LO.out.below hbR)
    have hRX := RX.out.lt
    clear hbw5 hbw6
    have BX := Lib.hid (BX.out.below hbR)
    have EX := Lib.hid (EX.out.below hbR)
    have RX := Lib.hid (RX.out.below hbR)
    have HB := Lib.hid (below_then HB.out hbR)
    clear hbR
    have hk9 := ((Keeps.refl [w.heap.size + 2] w6).set (g := w.heap.size + 2) (by simp) 0 (.slice lA n1 lc)).set (g := w.heap.size + 2) (by simp) 1 (.slice T1 (topE r (a, m, p)).length tc)
    have LO7 := Lib.hid ((LO.out.mono (show w.heap.size ≤ _ by omega)).keeps hk9 (fun q hq => by have := hlg q hq; simp only [List.mem_singleton]; omega))
    have TR7 := Lib.hid ((TR.out.mono (show w.heap.size ≤ _ by omega)).keeps hk9 (fun q hq => by have := (zt q hq).1; simp only [List.mem_singleton]; omega))
    have RX7 := Lib.hid (show Blk ((w6.setCell ⟨w.heap.size + 2, 0, none⟩ (.slice lA n1 lc)).setCell ⟨w.heap.size + 2, 1, none⟩ (.slice T1 (topE r (a, m, p)).length tc)) (w.heap.size + 2) #[.slice lA n1 lc, .slice T1 (topE r (a, m, p)).length tc] 46 by simpa using ((RX.out.set 0 (.slice lA n1 lc)).set 1 (.slice T1 (topE r (a, m, p)).length tc)))
    have HB7 := Lib.hid (show Below w.heap.size w ((w6.setCell ⟨w.heap.size + 2, 0, none⟩ (.slice lA n1 lc)).setCell ⟨w.heap.size + 2, 1, none⟩ (.slice T1 (topE r (a, m, p)).length tc)) from ((HB.out.setCell (p := ⟨w.heap.size + 2, 0, none⟩) (by simp) _).setCell (p := ⟨w.heap.size + 2, 1, none⟩) (by simp) _))
    have p0 := RX.out.cell 0
    have p1 := RX.out.cell 1
    have f0 := RX.out.frozen 0
    have f1 := RX.out.frozen 1
    have hltR := RX.out.lt
    have q0 := RX7.out.cell 0
    have q1 := RX7.out.cell 1
    clear hk9 zt zl hlg
    go_wp2
    refine bodyPost_ret (v := .tuple #[.agg #[.slice lA n1 lc, .slice T1 (topE r (a, m, p)).length tc], .bool true]) (by simp [results, Try.results172, go_sem, q0, q1]) rfl ?_
    exact ⟨_, _, _, _, _, _, by rw [HLEN.out], LO7.out, TR7.out, HB7.out⟩
  · have p0 := BX.out.cell 0
    have p1 := BX.out.cell 1
    go_wp2_with fail
    generalize ((w.alloc (.cells #[.slice A u.length c, .slice B r.length d] 46)).alloc (.cells #[.int .i64 a, .int .i64 m, .slice P p.length ep] 30)).alloc (.cells #[.slice none 0 0, .slice none 0 0] 46) = W at *
    have hU1 := HU.out _ HB.out
    have hR1 := HR.out _ HB.out
    refine (specStackTop_any A u c B r d true _ hu9 hr9 hU1 hR1).mono ?_
    rintro e w1 ⟨v, rfl, hown, hb⟩
    rw [HT.out, HVV.out]
    rw [HVV.out] at hown
    obtain ⟨vA, vc, rfl, _, _, _⟩ := hown.form
    have hal := (Below.refl w1.heap.size w1).alloc (Nat.le_refl _) (.cells #[.int .i64 va, .int .i64 vm, .slice vA vp.length vc] 30)
    have hb2 := below_then hb hal
    clear hU1 hR1 hown hb hal
    clear p0 p1
    have BX := Lib.hid (BX.out.below hb2)
    have EX := Lib.hid (EX.out.below hb2)
    have RX := Lib.hid (RX.out.below hb2)
    have HB := Lib.hid (below_then HB.out hb2)
    clear hb2
    cases t
    · have hk0 : k = false := by rw [HKS.out]; rfl
      subst hk0
      have hv0 : L = [] := by rw [← HL.out]; unfold turnU; rw [HK.out]; rfl
      have hv1 : M = [] := by rw [← HM.out]; unfold turnR; rw [HK.out]; rfl
      subst hv0 hv1
      have q0 := RX.out.cell 0
      have q1 := RX.out.cell 1
      have f0 := RX.out.frozen 0
      have f1 := RX.out.frozen 1
      have hltR := RX.out.lt
      go_wp2
      refine bodyPost_ret (v := .tuple #[.agg #[.slice none 0 0, .slice none 0 0], .bool false]) (by simp [results, Try.results172, go_sem, q0, q1]) rfl ?_
      exact ⟨none, 0, [], none, 0, [], rfl, RdE.nil _ _, RdE.nil _ _, ((HB.out.setCell (p := ⟨w.heap.size + 2, 0, none⟩) (by simp) _).setCell (p := ⟨w.heap.size + 2, 1, none⟩) (by simp) _)⟩
    have p0 := EX.out.cell 0
    have p1 := EX.out.cell 1
    have p2 := EX.out.cell 2
    go_wp2_with fail
    generalize w1.alloc (.cells #[.int .i64 va, .int .i64 vm, .slice vA vp.length vc] 30) = W1 at *
    refine (l05Small_any a m P p ep _ hp9).mono ?_
    rintro e w2 ⟨rfl, hb⟩
    rw [HS.out]
    clear p0 p1 p2
    have BX := Lib.hid (BX.out.below hb)
    have EX := Lib.hid (EX.out.below hb)
    have RX := Lib.hid (RX.out.below hb)
    have HB := Lib.hid (below_then HB.out hb)
    clear hb
    cases s
    · have hk0 : k = false := by rw [HKS.out]; rfl
      subst hk0
      have hv0 : L = [] := by rw [← HL.out]; unfold turnU; rw [HK.out]; rfl
      have hv1 : M = [] := by rw [← HM.out]; unfold turnR; rw [HK.out]; rfl
      subst hv0 hv1
      have q0 := RX.out.cell 0
      have q1 := RX.out.cell 1
      have f0 := RX.out.frozen 0
      have f1 := RX.out.frozen 1
      have hltR := RX.out.lt
      go_wp2
      refine bodyPost_ret (v := .tuple #[.agg #[.slice none 0 0, .slice none 0 0], .bool false]) (by simp [results, Try.results172, go_sem, q0, q1]) rfl ?_
      exact ⟨none, 0, [], none, 0, [], rfl, RdE.nil _ _, RdE.nil _ _, ((HB.out.setCell (p := ⟨w.heap.size + 2, 0, none⟩) (by simp) _).setCell (p := ⟨w.heap.size + 2, 1, none⟩) (by simp) _)⟩
    have hk1 : k = true := by rw [HKS.out]; rfl
    subst hk1
    have hv1 : L = topE u (a, m, p) := by rw [← HL.out]; unfold turnU; rw [HK.out]; rfl
    have hv2 : M = r.take (r.length - 1) := by rw [← HM.out]; unfold turnR; rw [HK.out]; rfl
    subst hv1 hv2
    have htk : stOk u r = true ∧ 0 < r.length := by
      have h9 := HT.out
      unfold topOk at h9
      rw [Bool.and_eq_true] at h9
      exact ⟨h9.1, of_decide_eq_true h9.2⟩
    have hst : stFit u = true ∧ stFit r = true := by have h9 := htk.1; unfold stOk at h9; rw [Bool.and_eq_true] at h9; exact h9
    have hfX := hst.2
    have hfY := hst.1
    have hX6 := stFit_len hfX
    have hY6 := stFit_len hfY
    have hall : ∀ es : List Ed, stFit es = true → ∀ e ∈ es, e.2.2.length ≤ 1000 := fun es he e h => by
      have h8 := (edSmall_iff _ _ _).1 (show edSmall e.1 e.2.1 e.2.2 = true from stFit_all he e h)
      omega
    have hsX := hall _ hfX
    have hsY := hall _ hfY
    have hp4 : p.length ≤ 1000 := by have h8 := (edSmall_iff _ _ _).1 HS.out; omega
    obtain ⟨g, hAg, hcg, hmg⟩ := hrr htk.2
    obtain ⟨n1, hn1⟩ : ∃ n1, r.length = n1 + 1 := ⟨r.length - 1, by have := htk.2; omega⟩
    have hlen : (r.take (r.length - 1)).length = n1 := by rw [List.length_take]; omega
    have HLEN := Lib.hid hlen
    have hS := slcE_head g r.length d n1 (by omega) hcg hmg
    rw [← hAg] at hS
    have hsub : (r.length : Int) - 1 = (n1 : Int) := by omega
    have hwr : IntKind.i64.wrap (n1 : Int) = (n1 : Int) := IntWalk.i64_in _ (by omega)
    have hn9 : n1 ≤ 5 := by omega
    clear hn1 hlen htk hst hfX hfY hall hAg hcg hmg
    have p0 := BX.out.cell 0
    have p1 := BX.out.cell 1
    go_wp2_with fail
    refine (l08Side_any (.slice A u.length c) (.slice B r.length d) true _).mono ?_
    rintro e w3 ⟨rfl, hb⟩
    rw [if_pos rfl]
    clear p0 p1
    have BX := Lib.hid (BX.out.below hb)
    have EX := Lib.hid (EX.out.below hb)
    have RX := Lib.hid (RX.out.below hb)
    have HB := Lib.hid (below_then HB.out hb)
    clear hb
    go_wp2_with fail
    have zw3 : w.heap.size + 3 ≤ w3.heap.size := RX.out.lt
    have hcp := l08Copy_any B (r.take (r.length - 1)) d w3 (by rw [HLEN.out]; omega) (fun e he => hsX e (List.mem_of_mem_take he)) (Es.takeT (HR.out _ HB.out) _)
    rw [HLEN.out] at hcp
    refine hcp.mono ?_
    clear hcp
    rintro e w4 ⟨lA, lc, lf, rfl, hlo, hb⟩
    rw [HLEN.out]
    have hlg : ∀ q ∈ lf, w.heap.size + 3 ≤ q := fun q hq => by have := hlo.lo q hq; have := RX.out.lt; omega
    have zl := hlo.rdE.lo
    have LO := Lib.hid hlo.rdE
    clear hlo
    have BX := Lib.hid (BX.out.below hb)
    have EX := Lib.hid (EX.out.below hb)
    have RX := Lib.hid (RX.out.below hb)
    have HB := Lib.hid (below_then HB.out hb)
    clear hb
    have p0 := BX.out.cell 0
    have p1 := BX.out.cell 1
    have q0 := EX.out.cell 0
    have q1 := EX.out.cell 1
    have q2 := EX.out.cell 2
    have zA := BX.out.lt
    have zE := EX.out.lt
    have hY1 := Lib.hid (HU.out _ HB.out)
    have hP1 := Lib.hid (HP.out _ HB.out)
    go_wp2_with fail
    refine wp_region_held_drew (S := (fun V => V.cell? ⟨w.heap.size, 0, none⟩ = some (.slice A u.length c) ∧ V.cell? ⟨w.heap.size, 1, none⟩ = some (.slice B r.length d) ∧ V.cell? ⟨w.heap.size + 1, 0, none⟩ = some (.int .i64 a) ∧ V.cell? ⟨w.heap.size + 1, 1, none⟩ = some (.int .i64 m) ∧ V.cell? ⟨w.heap.size + 1, 2, none⟩ = some (.slice P p.length ep))) (by kernel_rfl) (by exact ⟨p0, p1, q0, q1, q2⟩) (fun hHeld => ?_)
    refine wpAnyH_take (i := 0) (oi := ?_) (v := ?_) ?_ ?_ ?_ ?_ ?_ ?_ (by exact hHeld) ?_
    rotate_left 2
    · (simp only [List.getElem?_toArray, List.getElem?_cons_zero]; try rfl)
    · kernel_rfl
    · kernel_rfl
    · kernel_rfl
    · exact fun _ _ _ h => h
    · refine Or.inl ⟨by rfl, ?_⟩
      (intro V hSV; (try dsimp only at hSV); obtain ⟨q0, q1, q2, q3, q4⟩ := hSV; go_simp; try with_reducible rfl)
    (try simp only [Act.put, List.setIfInBounds_toArray, List.set_cons_zero, List.set_cons_succ])
    refine wpAnyH_take (i := 1) (oi := ?_) (v := ?_) ?_ ?_ ?_ ?_ ?_ ?_ (by exact hHeld) ?_
    rotate_left 2
    · (simp only [List.getElem?_toArray, List.getElem?_cons_zero, List.getElem?_cons_succ]; try rfl)
    · kernel_rfl
    · kernel_rfl
    · kernel_rfl
    · exact fun _ _ _ h => h
    · refine Or.inl ⟨by rfl, ?_⟩
      (intro V hSV; (try dsimp only at hSV); obtain ⟨q0, q1, q2, q3, q4⟩ := hSV; go_simp; try with_reducible rfl)
    (try simp only [Act.put, List.setIfInBounds_toArray, List.set_cons_zero, List.set_cons_succ])
    refine wpAnyH_take (i := 2) (oi := ?_) (v := ?_) ?_ ?_ ?_ ?_ ?_ ?_ (by exact hHeld) ?_
    rotate_left 2
    · (simp only [List.getElem?_toArray, List.getElem?_cons_zero, List.getElem?_cons_succ]; try rfl)
    · kernel_rfl
    · kernel_rfl
    · kernel_rfl
    · exact fun _ _ _ h => h
    · refine Or.inl ⟨by rfl, ?_⟩
      (intro V hSV; (try dsimp only at hSV); obtain ⟨q0, q1, q2, q3, q4⟩ := hSV; go_simp; try with_reducible rfl)
    (try simp only [Act.put, List.setIfInBounds_toArray, List.set_cons_zero, List.set_cons_succ])
    refine wpAnyH_take (i := 4) (oi := ?_) (v := ?_) ?_ ?_ ?_ ?_ ?_ ?_ (by exact hHeld) ?_
    rotate_left 2
    · (simp only [List.getElem?_toArray, List.getElem?_cons_zero, List.getElem?_cons_succ]; try rfl)
    · kernel_rfl
    · kernel_rfl
    · kernel_rfl
    · exact fun _ _ _ h => h
    · refine Or.inl ⟨by rfl, ?_⟩
      (intro V hSV; (try dsimp only at hSV); obtain ⟨q0, q1, q2, q3, q4⟩ := hSV; go_simp; try with_reducible rfl)
    (try simp only [Act.put, List.setIfInBounds_toArray, List.set_cons_zero, List.set_cons_succ])
    refine wpAnyH_ready (rs := [3]) (by kernel_rfl) (by simp) ?_
    refine AllReadyH.cons rfl (fun K hK => ?_) AllReadyH.nil
    go_simp
    refine (l08Side_any (.slice A u.length c) (.slice B r.length d) false _).mono ?_
    rintro e w5 ⟨rfl, hbw5⟩
    rw [if_neg (by simp)]
    have hbw5 : Below w4.heap.size w4 w5 := ⟨hbw5.os, hbw5.tape, hbw5.output, hbw5.size, hbw5.block⟩
    have hbR := hbw5
    have hY2 := Lib.hid (hY1.out.below hbw5)
    have hP2 := Lib.hid (hP1.out.below hbw5)
    go_wp2_with fail
    refine hK.out _ _ (by exact ⟨((hbR).cell (p := ⟨w.heap.size, 0, none⟩) zA).trans p0, ((hbR).cell (p := ⟨w.heap.size, 1, none⟩) zA).trans p1, ((hbR).cell (p := ⟨w.heap.size + 1, 0, none⟩) zE).trans q0, ((hbR).cell (p := ⟨w.heap.size + 1, 1, none⟩) zE).trans q1, ((hbR).cell (p := ⟨w.heap.size + 1, 2, none⟩) zE).trans q2⟩) (fun hHeld => ?_)
    clear hK K
    (try simp only [Act.put, List.setIfInBounds_toArray, List.set_cons_zero, List.set_cons_succ])
    refine wpAnyH_ready (rs := [5]) (by kernel_rfl) (by simp) ?_
    refine AllReadyH.cons rfl (fun K hK => ?_) AllReadyH.nil
    go_simp
    refine (l08Top_any A u c a m P p ep _ hY6 hsY ha hm hp4 (by exact hY2.out) (by exact hP2.out)).mono ?_
    rintro e w6 ⟨T1, tc, tf, rfl, htr, hbw6⟩
    have hbw6 : Below w5.heap.size w5 w6 := ⟨hbw6.os, hbw6.tape, hbw6.output, hbw6.size, hbw6.block⟩
    have hbR := below_then hbR hbw6
    have zt := htr.lo
    have TR := Lib.hid htr
    clear htr
    go_wp2_with fail
    refine hK.out _ _ (by exact ⟨((hbR).cell (p := ⟨w.heap.size, 0, none⟩) zA).trans p0, ((hbR).cell (p := ⟨w.heap.size, 1, none⟩) zA).trans p1, ((hbR).cell (p := ⟨w.heap.size + 1, 0, none⟩) zE).trans q0, ((hbR).cell (p := ⟨w.heap.size + 1, 1, none⟩) zE).trans q1, ((hbR).cell (p := ⟨w.heap.size + 1, 2, none⟩) zE).trans q2⟩) (fun hHeld => ?_)
    clear hK K
    (try simp only [Act.put, List.setIfInBounds_toArray, List.set_cons_zero, List.set_cons_succ])
    refine wpAnyH_take (i := 6) (oi := ?_) (v := ?_) ?_ ?_ ?_ ?_ ?_ ?_ (by exact hHeld) ?_
    rotate_left 2
    · (simp only [List.getElem?_toArray, List.getElem?_cons_zero, List.getElem?_cons_succ]; try rfl)
    · kernel_rfl
    · kernel_rfl
    · kernel_rfl
    · exact fun _ _ _ h => h
    · refine Or.inl ⟨by rfl, ?_⟩
      (intro V hSV; (try dsimp only at hSV); obtain ⟨q0, q1, q2, q3, q4⟩ := hSV; go_simp; try with_reducible rfl)
    (try simp only [Act.put, List.setIfInBounds_toArray, List.set_cons_zero, List.set_cons_succ])
    refine wpAnyH_done (by kernel_rfl) ?_ _
    clear hHeld hY1 hP1 hY2 hP2 zA zE
    clear p0 p1
    clear q0 q1 q2
    have zc1 := hbw5.size
    have hw4 : w.heap.size + 3 ≤ w4.heap.size := RX.out.lt
    have LO := Lib.hid (LO.out.below hbR)
    have hRX := RX.out.lt
    clear hbw5 hbw6
    have BX := Lib.hid (BX.out.below hbR)
    have EX := Lib.hid (EX.out.below hbR)
    have RX := Lib.hid (RX.out.below hbR)
    have HB := Lib.hid (below_then HB.out hbR)
    clear hbR
    have hk9 := ((Keeps.refl [w.heap.size + 2] w6).set (g := w.heap.size + 2) (by simp) 0 (.slice T1 (topE u (a, m, p)).length tc)).set (g := w.heap.size + 2) (by simp) 1 (.slice lA n1 lc)
    have LO7 := Lib.hid ((LO.out.mono (show w.heap.size ≤ _ by omega)).keeps hk9 (fun q hq => by have := hlg q hq; simp only [List.mem_singleton]; omega))
    have TR7 := Lib.hid ((TR.out.mono (show w.heap.size ≤ _ by omega)).keeps hk9 (fun q hq => by have := (zt q hq).1; simp only [List.mem_singleton]; omega))
    have RX7 := Lib.hid (show Blk ((w6.setCell ⟨w.heap.size + 2, 0, none⟩ (.slice T1 (topE u (a, m, p)).length tc)).setCell ⟨w.heap.size + 2, 1, none⟩ (.slice lA n1 lc)) (w.heap.size + 2) #[.slice T1 (topE u (a, m, p)).length tc, .slice lA n1 lc] 46 by simpa using ((RX.out.set 0 (.slice T1 (topE u (a, m, p)).length tc)).set 1 (.slice lA n1 lc)))
    have HB7 := Lib.hid (show Below w.heap.size w ((w6.setCell ⟨w.heap.size + 2, 0, none⟩ (.slice T1 (topE u (a, m, p)).length tc)).setCell ⟨w.heap.size + 2, 1, none⟩ (.slice lA n1 lc)) from ((HB.out.setCell (p := ⟨w.heap.size + 2, 0, none⟩) (by simp) _).setCell (p := ⟨w.heap.size + 2, 1, none⟩) (by simp) _))
    have p0 := RX.out.cell 0
    have p1 := RX.out.cell 1
    have f0 := RX.out.frozen 0
    have f1 := RX.out.frozen 1
    have hltR := RX.out.lt
    have q0 := RX7.out.cell 0
    have q1 := RX7.out.cell 1
    clear hk9 zt zl hlg
    go_wp2
    refine bodyPost_ret (v := .tuple #[.agg #[.slice T1 (topE u (a, m, p)).length tc, .slice lA n1 lc], .bool true]) (by simp [results, Try.results172, go_sem, q0, q1]) rfl ?_
    exact ⟨_, _, _, _, _, _, by rw [HLEN.out], TR7.out, LO7.out, HB7.out⟩
end Go.Proofs.Ytdmmdbapkogdhaa
