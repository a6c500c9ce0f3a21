/-
  Chapter 4, the program's RopeJoin: contract. Own work.
-/
import Derived.Test.YthnahenpnafkmaaDoorI05
import Derived.Test.YthnahenpnafkmaaDoorCatC
import Derived.Test.YthnahenpnafkmaaDoorS05b
namespace Go.Proofs.YthnahenpnafkmaaDoor
open Go.RowKit P
set_option linter.unusedVariables false
set_option linter.unusedSimpArgs false
set_option maxRecDepth 100000

theorem ch_choose {α : Type} {Q : Nat → α → Prop} : ∀ n, (∀ i, i < n → ∃ d, Q i d) → ∃ l : List α, l.length = n ∧ ∀ i (h : i < l.length), Q i l[i] := by
  intro n
  induction n with
  | zero => intro _; exact ⟨[], rfl, fun i h => by simp at h⟩
  | succ n ih =>
    intro h
    obtain ⟨l, hl, hq⟩ := ih (fun i hi => h i (by omega))
    obtain ⟨d, hd⟩ := h n (by omega)
    refine ⟨l ++ [d], by simp [hl], fun i hi => ?_⟩
    by_cases e : i < l.length
    · rw [List.getElem_append_left e]; exact hq i e
    · have : i = n := by simp at hi; omega
      subst this
      rw [List.getElem_append_right (by omega)]
      simpa [hl] using hd

/-- The values xs read as the chunks ls. -/
def RdAll (w : World) (xs : List Value) (ls : List (List UInt8)) : Prop := xs.length = ls.length ∧ ∀ k (h1 : k < xs.length) (h2 : k < ls.length), bRd w [xs[k]] ls[k]
theorem RdAll.below {w w' : World} {xs : List Value} {ls : List (List UInt8)} (h : RdAll w xs ls) (hb : Below w.heap.size w w') : RdAll w' xs ls :=
  ⟨h.1, fun k h1 h2 => Lay.bytes.below (h.2 k h1 h2) hb⟩
theorem RdAll.append {w : World} {xs ys : List Value} {ls rs : List (List UInt8)} (h : RdAll w xs ls) (g : RdAll w ys rs) : RdAll w (xs ++ ys) (ls ++ rs) := by
  refine ⟨by rw [List.length_append, List.length_append, h.1, g.1], fun k h1 h2 => ?_⟩
  by_cases hk : k < xs.length
  · rw [List.getElem_append_left hk, List.getElem_append_left (by rw [← h.1]; exact hk)]
    exact h.2 k hk _
  · rw [List.length_append] at h1 h2
    rw [List.getElem_append_right (by omega), List.getElem_append_right (by have := h.1; omega)]
    have := g.2 (k - xs.length) (by omega) (by have := g.1; omega)
    simp only [h.1] at this ⊢
    exact this

theorem Cs.vals {w : World} {A : Option Addr} {ls : List (List UInt8)} (h : Cs w A ls) : ∃ xs : List Value, Vs w A xs ∧ RdAll w xs ls ∧ ∀ u ∈ xs, u.oneCell' = true := by
  obtain ⟨xs, hl, hq⟩ := ch_choose (Q := fun i v => ∃ b off, A = some ⟨b, off, none⟩ ∧ b < w.heap.size ∧ w.cell? ⟨b, off + i, none⟩ = some v ∧ ∀ hi : i < ls.length, bRd w [v] ls[i]) ls.length (fun i hi => by
    obtain ⟨b, off, v, h1, h2, h3, h4⟩ := Sl.at1 h i hi
    exact ⟨v, b, off, h1, h2, h3, fun _ => h4⟩)
  refine ⟨xs, fun k hk => ?_, ⟨hl, fun k h1 h2 => ?_⟩, fun u hu => ?_⟩
  · obtain ⟨b, off, h1, h2, h3, _⟩ := hq k hk
    exact ⟨b, off, h1, h2, h3⟩
  · obtain ⟨b, off, _, _, _, h4⟩ := hq k h1
    exact h4 h2
  · obtain ⟨k, hk, rfl⟩ := List.mem_iff_getElem.1 hu
    obtain ⟨b, off, _, _, _, h4⟩ := hq k hk
    obtain ⟨A', c', e, _⟩ := h4 (by omega)
    simp only [List.cons.injEq, and_true] at e
    rw [e]
    rfl
theorem Cs.of_vals {w : World} {A : Option Addr} {xs : List Value} {ls : List (List UInt8)} (h : Vs w A xs) (hr : RdAll w xs ls) : Cs w A ls := by
  intro k hk
  have hk' : k < xs.length := by have := hr.1; omega
  obtain ⟨b, off, h1, h2, h3⟩ := h k hk'
  refine ⟨b, off, [xs[k]], h1, h2, rfl, fun j hj => ?_, hr.2 k hk' hk⟩
  have : j = 0 := by simpa using hj
  subst this
  simpa using h3

/-- slices.Concat of two slices of chunks: what it gives is the one behind the other. -/
theorem concatCh_any (A B : Option Addr) (ls rs : List (List UInt8)) (c d : Nat) (w : World) (hn : ls.length ≤ c) (hm : rs.length ≤ d) (hl : ls.length + rs.length ≤ 2000000) (hC : Cs w A ls) (hD : Cs w B rs) :
    Calls Tryd.prog 19 #[.slice (some ⟨w.heap.size, 0, none⟩) 2 2] (w.alloc (.cells #[.slice A ls.length c, .slice B rs.length d] 24)) fun e w' => ∃ Q q, e = .returned (.slice Q (ls ++ rs).length q) ∧ (ls ++ rs).length ≤ q ∧ Cs w' Q (ls ++ rs) ∧ Below w.heap.size w w' := by
  have hal := (Below.refl w.heap.size w).alloc (Nat.le_refl _) (.cells #[.slice A ls.length c, .slice B rs.length d] 24)
  have bk := Blk.new w #[.slice A ls.length c, .slice B rs.length d] 24
  obtain ⟨xs, hx1, hx2, hx3⟩ := (hC.below hal).vals
  obtain ⟨ys, hy1, hy2, hy3⟩ := (hD.below hal).vals
  have hv : VVs (w.alloc (.cells #[.slice A ls.length c, .slice B rs.length d] 24)) (some ⟨w.heap.size, 0, none⟩) [xs, ys] := by
    intro k hk
    match k, hk with
    | 0, _ => exact ⟨_, 0, A, c, rfl, bk.lt, by rw [Nat.zero_add, bk.cell]; simp [hx2.1], by simp [hx2.1, hn], hx1⟩
    | 1, _ => exact ⟨_, 0, B, d, rfl, bk.lt, by rw [Nat.zero_add, bk.cell]; simp [hy2.1], by simp [hy2.1, hm], hy1⟩
  have hs : vsums [xs, ys] ≤ 1000000000 := by unfold vsums; simp [hx2.1, hy2.1]; omega
  refine (ch_concat_any (some ⟨w.heap.size, 0, none⟩) [xs, ys] 2 _ (by simp) hs (by
    intro l hl u hu
    simp only [List.mem_cons, List.not_mem_nil, or_false] at hl
    rcases hl with rfl | rfl
    · exact hx3 u hu
    · exact hy3 u hu) hv).mono ?_
  rintro e w' ⟨v, rfl, hown, hb⟩
  obtain ⟨Q, q, rfl, h1, _, hV⟩ := hown.form
  have hflat : [xs, ys].flatten = xs ++ ys := by simp
  rw [hflat] at h1 hV ⊢
  have hlen : (xs ++ ys).length = (ls ++ rs).length := by rw [List.length_append, List.length_append, hx2.1, hy2.1]
  rw [hlen] at h1 ⊢
  exact ⟨Q, q, rfl, h1, Cs.of_vals hV ((hx2.append hy2).below hb), below_then hal hb⟩

theorem joinOk_app (ls rs : List (List UInt8)) : joinOk ls rs = chunksOk (ls ++ rs) := by
  rw [chunksOk_append]
  unfold joinOk
  cases h1 : chunksOk ls
  · rfl
  · cases h2 : chunksOk rs
    · rfl
    · rw [chunksText_ok h1, chunksText_ok h2]; rfl

set_option maxHeartbeats 4000000 in
theorem implRopeJoin_any (A B : Option Addr) (ls rs : List (List UInt8)) (c d : Nat) (w : World) (hnc : ls.length ≤ c) (hmd : rs.length ≤ d) (hn : ls.length + rs.length ≤ 1048576) (hT : Tab w) (hC : Cs w A ls) (hD : Cs w B rs) :
    Calls Tryd.prog 8 #[.agg #[.slice A ls.length c], .agg #[.slice B rs.length d]] w (GivesRB (joinR ls rs) (joinOk ls rs) w) := by
  have J0 := Lib.hid (JIn.start w A B ls rs c d hC hD)
  have HT0 := Lib.hid (hT.below J0.out.bel)
  obtain ⟨z, hz⟩ : ∃ z, joinOk ls rs = z := ⟨_, rfl⟩
  have hz2 := hz
  rw [joinOk_app] at hz2
  have hno : z = false → joinR ls rs = [] := fun h => joinR_no (hz.trans h)
  have hyes : z = true → joinR ls rs = ls ++ rs := fun h => by unfold joinR; rw [if_pos (hz.trans h)]
  have heach : z = true → ∀ x ∈ ls ++ rs, 0 < x.length ∧ x.length ≤ 1000000 := fun h x hx => by
    have := (chunksOk_all (hz2.trans h)).1 x hx
    rw [chunkOk_iff] at this
    omega
  rw [hz]
  generalize joinR ls rs = R at *
  have HZ := Lib.hid hz2
  have HNO := Lib.hid hno
  have HYES := Lib.hid hyes
  have HEA := Lib.hid heach
  clear hz hz2 hno hyes heach hC hD hT
  go_enter Tryd.func8, Tryd.ntmps8
  have a0 := J0.out.k0
  have a1 := J0.out.k1
  go_wp2_with fail
  have hsz : (((w.alloc (.cells #[.slice A ls.length c] 26)).alloc (.cells #[.slice B rs.length d] 26)).alloc (.cells #[.slice none 0 0] 26)).heap.size = w.heap.size + 1 + 1 + 1 := by simp
  generalize ((w.alloc (.cells #[.slice A ls.length c] 26)).alloc (.cells #[.slice B rs.length d] 26)).alloc (.cells #[.slice none 0 0] 26) = W0 at *
  rw [← hsz]
  refine (concatCh_any A B ls rs c d W0 hnc hmd (by omega) J0.out.l J0.out.r).mono ?_
  rintro e w1 ⟨Q, q, rfl, hq, hQ, hb1⟩
  have J1 := Lib.hid (J0.out.below hb1)
  have HT1 := Lib.hid (HT0.out.below hb1)
  have hlen : (ls ++ rs).length ≤ 1048576 := by rw [List.length_append]; exact hn
  have r1 : w1.cell? ⟨w.heap.size + 1 + 1, 0, none⟩ = some (.slice none 0 0) := J1.out.res.cell 0
  have f1 : w1.frozen? ⟨w.heap.size + 1 + 1, 0, none⟩ = false := J1.out.res.frozen 0
  obtain ⟨L, hL⟩ : ∃ L, ls ++ rs = L := ⟨_, rfl⟩
  rw [hL] at hq hQ hlen ⊢
  have HL := Lib.hid hL
  clear hL hb1 a0 a1 J0 HT0
  go_wp2_with fail
  refine (implChunksOk_any Q L q _ (by omega) (by exact HT1.out) (by exact hQ)).mono ?_
  rintro e w2 ⟨rfl, hb2⟩
  have hz2 := HZ.out
  rw [HL.out] at hz2
  rw [hz2]
  have J2 := Lib.hid (J1.out.below hb2)
  have hQ2 := hQ.below hb2
  have r2 : w2.cell? ⟨w.heap.size + 1 + 1, 0, none⟩ = some (.slice none 0 0) := J2.out.res.cell 0
  have f2 : w2.frozen? ⟨w.heap.size + 1 + 1, 0, none⟩ = false := J2.out.res.frozen 0
  clear hz2 hb2 hQ r1 f1 J1 HT1
  cases z
  · have hR := HNO.out (by first | rfl | trivial)
    subst hR
    have hfin := givesRB_no (w := w) (b := w.heap.size + 1 + 1) J2.out.bel (by omega)
    go_wp2
    refine bodyPost_ret (v := .tuple #[.agg #[.slice none 0 0], .bool false]) (by simp [results, Tryd.results8, go_sem, r2]) rfl hfin
  · have hR := HYES.out (by first | rfl | trivial)
    rw [HL.out] at hR
    subst hR
    have hea := HEA.out (by first | rfl | trivial)
    rw [HL.out] at hea
    have HEA2 := Lib.hid hea
    have hl4 : R.length ≤ 1000000 := by
      have := HZ.out
      rw [HL.out] at this
      have := chunksOk_len this
      omega
    clear hea
    go_wp2_with fail
    refine (ropeFrom_any Q R q _ hl4 HEA2.out (by exact hQ2)).mono ?_
    rintro e w3 ⟨v3, fp3, rfl, how3, hnd3, hfp3, hb3⟩
    obtain ⟨Q3, q3, rfl, _, _, _⟩ := Lay.chunks_rd (Lay.chunks.read how3)
    have J3 := Lib.hid (J2.out.below hb3)
    have r3 : w3.cell? ⟨w.heap.size + 1 + 1, 0, none⟩ = some (.slice none 0 0) := J3.out.res.cell 0
    have f3 : w3.frozen? ⟨w.heap.size + 1 + 1, 0, none⟩ = false := J3.out.res.frozen 0
    have hz2 : w.heap.size + 2 < w2.heap.size := J2.out.res.lt
    have hfin : GivesRB R true w (.returned (.tuple #[.agg #[.slice Q3 R.length q3], .bool true])) (w3.setCell ⟨w.heap.size + 1 + 1, 0, none⟩ (.slice Q3 R.length q3)) :=
      ⟨_, fp3, rfl, Lay.chunks_setBelow how3 (fun h => by have : w2.heap.size ≤ w.heap.size + 1 + 1 := hfp3 _ h; omega) _, hnd3, fun k hk => by have := hfp3 k hk; omega, J3.out.bel.setCell (p := ⟨w.heap.size + 1 + 1, 0, none⟩) (by show w.heap.size ≤ w.heap.size + 1 + 1; omega) _⟩
    clear hb3 hfp3 how3 r2 f2 J2
    go_wp2
    refine bodyPost_ret (v := .tuple #[.agg #[.slice Q3 R.length q3], .bool true]) (by simp [results, Tryd.results8, go_sem, r3]) rfl hfin
end Go.Proofs.YthnahenpnafkmaaDoor
