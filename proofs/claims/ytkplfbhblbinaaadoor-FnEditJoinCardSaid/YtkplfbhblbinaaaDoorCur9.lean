/-
  The draws' cursor: ropes, places of a rope: contracts. Own work.
-/
import Derived.Test.YtkplfbhblbinaaaDoorCur6
import Derived.Test.YtkplfbhblbinaaaDoorR04
import Derived.Test.YtkplfbhblbinaaaDoorS01
namespace Go.Proofs.YtkplfbhblbinaaaDoor
open Go.RowKit P
set_option linter.unusedVariables false

/-- Chunks that can be read, whatever becomes of what lies below base. -/
def Far (base : Nat) (w : World) (A : Option Addr) (L : List (List UInt8)) (c : Nat) : Prop :=
  L.length ≤ c ∧ c ≤ maxLen ∧ ∀ w' : World, (∀ k, base ≤ k → k < w.heap.size → w'.heap[k]? = w.heap[k]?) → w.heap.size ≤ w'.heap.size → Cs w' A L
theorem Far.keep {base : Nat} {w w' : World} {A : Option Addr} {L : List (List UInt8)} {c : Nat} (h : Far base w A L c) (hk : ∀ k, base ≤ k → k < w.heap.size → w'.heap[k]? = w.heap[k]?) (hs : w.heap.size ≤ w'.heap.size) : Far base w' A L c :=
  ⟨h.1, h.2.1, fun x hx hz => h.2.2 x (fun k h1 h2 => (hx k h1 (by omega)).trans (hk k h1 h2)) (by omega)⟩
theorem Far.only {base g : Nat} {w w' : World} {A : Option Addr} {L : List (List UInt8)} {c : Nat} (h : Far base w A L c) (hg : g < base) (ho : Only g w w') : Far base w' A L c := h.keep (fun k h1 h2 => ho.block k h2 (fun e => by injection e; omega)) ho.size
theorem Far.cs {base : Nat} {w : World} {A : Option Addr} {L : List (List UInt8)} {c : Nat} (h : Far base w A L c) : Cs w A L := h.2.2 w (fun _ _ _ => rfl) (Nat.le_refl _)
theorem Far.below {base : Nat} {w w' : World} {A : Option Addr} {L : List (List UInt8)} {c : Nat} (h : Far base w A L c) (hb : Below w.heap.size w w') : Far base w' A L c := h.keep (fun k _ h2 => hb.block k h2) hb.size
theorem Far.setNew {base : Nat} {w : World} {A : Option Addr} {L : List (List UInt8)} {c : Nat} (h : Far base w A L c) {b : Nat} (hb : b < base) (i : Nat) (u : Value) : Far base (w.setCell ⟨b, i, none⟩ u) A L c :=
  h.keep (fun k h1 _ => Below.heap_setCell w ⟨b, i, none⟩ u k (fun e => by simp at e; omega)) (by simp [World.setCell])
theorem Far.mono {base base' : Nat} {w : World} {A : Option Addr} {L : List (List UInt8)} {c : Nat} (h : Far base w A L c) (hb : base' ≤ base) : Far base' w A L c := ⟨h.1, h.2.1, fun x hx hz => h.2.2 x (fun k h1 h2 => hx k (by omega) h2) hz⟩
theorem far_of_seen {base : Nat} {w : World} {v : Value} {L : List (List UInt8)} {fp : List Nat} (h : Lay.chunksS.ow w [v] L fp) (hg : ∀ k ∈ fp, base ≤ k) : ∃ A c, v = .slice A L.length c ∧ Far base w A L c := by
  obtain ⟨A, c, e, h1, h2, _⟩ := Lay.chunksS.read h
  cases e
  refine ⟨A, c, rfl, h1, h2, fun w' hk hs => ?_⟩
  obtain ⟨A', c', e, _, _, hC⟩ := Lay.chunksS.read (Lay.chunksS.kept h (fun k hm => hk k (hg k hm) (Lay.chunksS.lt h k hm)) hs)
  cases e
  exact hC
theorem far_of_own {base : Nat} {w : World} {v : Value} {L : List (List UInt8)} {fp : List Nat} (h : Lay.chunks.ow w [v] L fp) (hg : ∀ k ∈ fp, base ≤ k) : ∃ A c, v = .slice A L.length c ∧ Far base w A L c := by
  obtain ⟨A, c, rfl, h1, h2, _⟩ := Lay.chunks_rd (Lay.chunks.read h)
  refine ⟨A, c, rfl, h1, h2, fun w' hk hs => ?_⟩
  obtain ⟨A', c', e, _, _, hC⟩ := Lay.chunks_rd (Lay.chunks.read (Lay.chunks.kept h (fun k hm => hk k (hg k hm) (Lay.chunks.lt h k hm)) hs))
  cases e
  exact hC

/-- What a draw of a rope ends in. -/
def DrawsR (g N : Nat) (w : World) (e : Ending) (w' : World) : Prop :=
  ∃ A c L, e = .returned (.agg #[.slice A L.length c]) ∧ Far w.heap.size w' A L c ∧ L.length ≤ 400 ∧ (∀ x ∈ L, x.length ≤ 401) ∧ Cur w' g N ∧ Only g w w'

theorem Blk.only {g b : Nat} {w w' : World} {cs : Array Value} {t : TypeId} (h : Blk w b cs t) (ho : Only g w w') (hb : b ≠ g) : Blk w' b cs t := h.of_block (ho.block b h.lt (fun e => hb (by injection e)))

theorem chunksOf_len (l : List UInt8) : (chunksOf l).length ≤ 400 ∧ ∀ x ∈ chunksOf l, x.length ≤ 401 := by
  have h := chunksOf_ok l
  refine ⟨chunksOk_len h, fun x hx => ?_⟩
  obtain ⟨k, hk, rfl⟩ := List.mem_iff_getElem.1 hx
  have h1 := tot_mem (ls := chunksOf l) k hk
  have h2 := chunksOk_tot h
  omega

theorem Only.setNew {g : Nat} {a w : World} (h : Only g a w) {b : Nat} (hb : a.heap.size ≤ b) (i : Nat) (u : Value) : Only g a (w.setCell ⟨b, i, none⟩ u) :=
  ⟨h.os, h.tape, h.output, by simpa [World.setCell] using h.size, fun k hk hne => (Below.heap_setCell w ⟨b, i, none⟩ u k (fun e => by simp at e; omega)).trans (h.block k hk hne)⟩
theorem Cur.setNew {w : World} {g N : Nat} (h : Cur w g N) {b : Nat} (hb : g < b) (i : Nat) (u : Value) : Cur (w.setCell ⟨b, i, none⟩ u) g N :=
  h.keep (fun k hk => Below.heap_setCell w ⟨b, i, none⟩ u k (fun e => by simp at e; omega)) (by simp [World.setCell])
theorem Lay.set {α : Type} (L : Lay α) {w : World} {cs : List Value} {x : α} {fp : List Nat} (h : L.ow w cs x fp) {b : Nat} (hb : b ∉ fp) (i : Nat) (u : Value) : L.ow (w.setCell ⟨b, i, none⟩ u) cs x fp :=
  L.kept h (fun k hk => Below.heap_setCell _ _ _ _ (fun e => hb (by simp at e; exact e ▸ hk))) (by simp [World.setCell])
theorem Blk.setFar {w : World} {b d : Nat} {cs : Array Value} {t : TypeId} (h : Blk w b cs t) (hne : b ≠ d) (i : Nat) (u : Value) : Blk (w.setCell ⟨d, i, none⟩ u) b cs t := h.of_block (Below.heap_setCell w ⟨d, i, none⟩ u b (fun e => hne (by simpa using e)))

theorem cutsOr_bd (l : List UInt8) : (cutsOr l).length ≤ l.length + 1 ∧ ∀ x ∈ cutsOr l, x ≤ l.length := by
  unfold cutsOr cuts
  split
  · refine ⟨by have := List.length_filter_le (fun k : Nat => isBound l k) (List.range (l.length + 1)); simpa using this, fun x hx => ?_⟩
    have := List.mem_range.1 (List.mem_filter.1 hx).1
    omega
  · simp

theorem OwnN.only {w w' : World} {g base : Nat} {v : Value} {l : List Nat} (h : OwnN w base v l) (ho : Only g w w') (hb : g < base) : OwnN w' base v l := by
  refine World.ownsRow.kept (w' := w') (row := some g) h ho ?_
  cases hv : v.ownBlock with
  | none => exact .inl rfl
  | some k => exact .inr (fun e => by injection e with e; have := (World.ownsRow.lt h k hv).1; omega)

set_option maxRecDepth 100000 in
set_option maxHeartbeats 4000000 in
theorem cutOf_any (g N base : Nat) (A : Option Addr) (L : List (List UInt8)) (c : Nat) (w : World) (hN : N ≤ 100000) (h : Cur w g N) (hg : g < base) (hF : Far base w A L c) (hL9 : L.length ≤ 400) :
    Calls Tryd.prog 90 #[.pointer (some ⟨g, 0, none⟩), .agg #[.slice A L.length c]] w (Draws g (N + 7) (-9223372036854775808) 9223372036854775807 w) := by
  have hglt := h.lt
  have hal := (Below.refl w.heap.size w).alloc (Nat.le_refl _) (.cells #[.slice A L.length c] 84)
  have bA := Blk.new w #[.slice A L.length c] 84
  have hc0 := h.only_new hal
  have hC0 := hF.cs.below hal
  have hTl := chunksText_len L
  obtain ⟨T', hT⟩ : ∃ T', chunksText L = T' := ⟨_, rfl⟩
  rw [hT] at hTl
  have HT := Lib.hid hT
  clear hT h
  go_enter Tryd.func90, Tryd.ntmps90
  go_wp2_with fail
  refine (specRopeText_any A L c _ (by omega) (by exact hC0)).mono ?_
  rintro e w1 ⟨v1, rfl, hown1, hb1⟩
  rw [HT.out] at hown1
  obtain ⟨B, d, rfl, hld, hdm, hB⟩ := hown1.form
  have hd9 : d ≤ 9223372036854775807 := by unfold maxLen at hdm; omega
  have bA1 := bA.below hb1
  have hc1 := hc0.only_new hb1
  have hb1 := below_then hal hb1
  clear hown1 hdm hal hc0 hC0
  go_wp2_with fail
  refine (l01Cuts_any B T' d _ hld hd9 (by exact hB)).mono ?_
  rintro e w2 ⟨v2, rfl, hown2, hb2⟩
  obtain ⟨C, q, rfl, hlq, hqm, _⟩ := hown2.form
  have bA2 := bA1.below hb2
  have hc2 := hc1.only_new hb2
  have hb2 := below_then hb1 hb2
  have hs2 := hb2.size
  have hbase2 : g < w1.heap.size := by have := hb1.size; omega
  obtain ⟨cuts, hcu⟩ : ∃ cuts, cutsOr T' = cuts := ⟨_, rfl⟩
  have hcul : cuts.length ≤ 1000 := by rw [← hcu]; have := (cutsOr_bd T').1; omega
  have hcub : ∀ x ∈ cuts, x ≤ 1000 := fun x hx => by rw [← hcu] at hx; have := (cutsOr_bd T').2 x hx; omega
  rw [hcu] at hown2 hlq ⊢
  clear hcu bA bA1 hc1 hb1 hB
  have kA2 : w2.cell? ⟨w.heap.size, 0, none⟩ = some (.slice A L.length c) := bA2.cell 0
  have ho2 : Only g w w2 := Only.of_below hb2
  by_cases hpos : (0 : Int) < (cuts.length : Int)
  · go_wp2_with fail
    refine (once_any g N _ _ (by omega) (by omega) (by omega) (by exact hc2)).mono ?_
    rintro e w3 ⟨p, rfl, hc3, ho3⟩
    have hown3 := hown2.only ho3 hbase2
    have bA3 := bA2.only ho3 (by omega)
    have kA3 : w3.cell? ⟨w.heap.size, 0, none⟩ = some (.slice A L.length c) := bA3.cell 0
    have ho3 := ho2.trans ho3
    clear hown2 bA2 kA2 hc2 ho2 hb2
    cases p
    · obtain ⟨m, hm⟩ : ∃ m : Nat, min 256 cuts.length = m := ⟨_, rfl⟩
      have hm1 : 1 ≤ m ∧ m ≤ cuts.length := by omega
      have hmn : min (256 : Int) (cuts.length : Int) = (m : Int) := by omega
      clear hm
      go_wp2_with fail
      refine (pick_draws g (N + 1) _ _ (by omega) (by omega) (by omega) (by exact hc3)).mono ?_
      rintro e w4 ⟨x, rfl, hx0, hx1, hc4, ho4⟩
      obtain ⟨k, rfl⟩ := Int.eq_ofNat_of_zero_le hx0
      have hown4 := hown3.only ho4 hbase2
      have hk : k < cuts.length := by omega
      obtain ⟨C', q', e', _, _, hcell⟩ := hown4.form
      cases e'
      obtain ⟨b, off, rfl, hcb⟩ := hcell k hk
      have hbd := hcub _ (List.getElem_mem hk)
      obtain ⟨y, hy⟩ : ∃ y : Nat, cuts[k] = y := ⟨_, rfl⟩
      rw [hy] at hcb hbd
      have hki : (k : Int) < (cuts.length : Int) := by omega
      have ho4 := ho3.trans ho4
      clear hcell hy hown3 hown4 hc3 ho3 bA3 kA3 hmn hx0 hx1
      go_wp2
      go_ret
      exact ⟨_, rfl, by omega, by omega, hc4.mono (by omega), ho4⟩
    · have hC4 := (Far.only hF (by omega) ho3).cs
      go_wp2_with fail
      refine (specRopeText_any A L c _ (by omega) (by exact hC4)).mono ?_
      rintro e w5 ⟨v5, rfl, hown5, hb5⟩
      rw [HT.out] at hown5
      obtain ⟨B5, d5, rfl, _, _, _⟩ := hown5.form
      have hc5 := Cur.only_new hc3 hb5
      have ho5 := ho3.trans (Only.of_below hb5)
      obtain ⟨m, hm⟩ : ∃ m : Nat, min 200 T'.length = m := ⟨_, rfl⟩
      have hm1 : m ≤ 200 := by omega
      have hmn : min (200 : Int) (T'.length : Int) = (m : Int) := by omega
      clear hm hown5 hb5 hc3 ho3 bA3 kA3 hC4
      go_wp2_with fail
      refine (place_any g (N + 1) _ _ (by omega) (by omega) (by omega) (by exact hc5)).mono ?_
      rintro e w6 ⟨x, rfl, hx0, hx1, hc6, ho6⟩
      go_wp2
      go_ret
      exact ⟨x, rfl, hx0, hx1, hc6.mono (by omega), ho5.trans ho6⟩
  · have hC4 := (Far.below hF hb2).cs
    go_wp2_with fail
    refine (specRopeText_any A L c _ (by omega) (by exact hC4)).mono ?_
    rintro e w5 ⟨v5, rfl, hown5, hb5⟩
    rw [HT.out] at hown5
    obtain ⟨B5, d5, rfl, _, _, _⟩ := hown5.form
    have hc5 := Cur.only_new hc2 hb5
    have ho5 := (Only.of_below (g := g) hb2).trans (Only.of_below hb5)
    obtain ⟨m, hm⟩ : ∃ m : Nat, min 200 T'.length = m := ⟨_, rfl⟩
    have hm1 : m ≤ 200 := by omega
    have hmn : min (200 : Int) (T'.length : Int) = (m : Int) := by omega
    clear hm hown5 hb5 hc2 hb2 bA2 kA2 hC4
    go_wp2_with fail
    refine (place_any g N _ _ (by omega) (by omega) (by omega) (by exact hc5)).mono ?_
    rintro e w6 ⟨x, rfl, hx0, hx1, hc6, ho6⟩
    go_wp2
    go_ret
    exact ⟨x, rfl, hx0, hx1, hc6.mono (by omega), ho5.trans ho6⟩

/-- What a draw of two places ends in. -/
def Draws2 (g N : Nat) (w : World) (e : Ending) (w' : World) : Prop := ∃ x y : Int, e = .returned (.tuple #[.int .i64 x, .int .i64 y]) ∧ (-9223372036854775808 ≤ x ∧ x ≤ 9223372036854775807) ∧ (-9223372036854775808 ≤ y ∧ y ≤ 9223372036854775807) ∧ Cur w' g N ∧ Only g w w'

set_option maxRecDepth 100000 in
set_option maxHeartbeats 4000000 in
theorem span_any (g N base : Nat) (A : Option Addr) (L : List (List UInt8)) (c : Nat) (w : World) (hN : N ≤ 50000) (h : Cur w g N) (hg : g < base) (hF : Far base w A L c) (hL9 : L.length ≤ 400) :
    Calls Tryd.prog 89 #[.pointer (some ⟨g, 0, none⟩), .agg #[.slice A L.length c]] w (Draws2 g (N + 20) w) := by
  have hglt := h.lt
  have hal := (Below.refl w.heap.size w).alloc (Nat.le_refl _) (.cells #[.slice A L.length c] 84)
  have bA := Blk.new w #[.slice A L.length c] 84
  have hc0 := h.only_new hal
  have hF0 := hF.below hal
  have ho0 : Only g w _ := Only.of_below hal
  clear h
  go_enter Tryd.func89, Tryd.ntmps89
  go_wp2_with fail
  refine (cutOf_any g N base A L c _ (by omega) (by exact hc0) hg (by exact hF0) hL9).mono ?_
  rintro e w1 ⟨x, rfl, hx0, hx1, hc1, ho1⟩
  have bA1 := bA.only ho1 (by omega)
  have hF1 := hF0.only hg ho1
  have ho1 := ho0.trans ho1
  have kA1 : w1.cell? ⟨w.heap.size, 0, none⟩ = some (.slice A L.length c) := bA1.cell 0
  clear bA hc0 hF0 ho0 hal
  go_wp2_with fail
  refine (cutOf_any g (N + 7) base A L c _ (by omega) (by exact hc1) hg (by exact hF1) hL9).mono ?_
  rintro e w2 ⟨y, rfl, hy0, hy1, hc2, ho2⟩
  have ho2 := ho1.trans ho2
  clear bA1 kA1 hc1 hF1 ho1
  by_cases hxy : y < x
  · go_wp2_with fail
    refine (once_any g (N + 7 + 7) _ _ (by omega) (by omega) (by omega) (by exact hc2)).mono ?_
    rintro e w3 ⟨p, rfl, hc3, ho3⟩
    have ho3 := ho2.trans ho3
    cases p
    all_goals
      go_wp2
      go_ret2
      exact ⟨_, _, rfl, ⟨by assumption, by assumption⟩, ⟨by assumption, by assumption⟩, hc3.mono (by omega), ho3⟩
  · go_wp2
    go_ret2
    exact ⟨_, _, rfl, ⟨hx0, hx1⟩, ⟨hy0, hy1⟩, hc2.mono (by omega), ho2⟩
end Go.Proofs.YtkplfbhblbinaaaDoor
