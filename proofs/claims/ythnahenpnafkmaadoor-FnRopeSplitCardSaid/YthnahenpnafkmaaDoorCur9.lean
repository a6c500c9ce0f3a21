/-
  The draws' cursor: ropes, places of a rope: contracts. Own work.
-/
import Derived.Test.YthnahenpnafkmaaDoorCur6
import Derived.Test.YthnahenpnafkmaaDoorR04
import Derived.Test.YthnahenpnafkmaaDoorS01
namespace Go.Proofs.YthnahenpnafkmaaDoor
open Go.RowKit P
set_option linter.unusedVariables false

/-- Chunks that can be read, whatever becomes of what lies below base. -/
def Far (base : Nat) (w : World) (A : Option Addr) (L : List (List UInt8)) (c : Nat) : Prop :=
  L.length ≤ c ∧ c ≤ maxLen ∧ ∀ w' : World, (∀ k, base ≤ k → k < w.heap.size → w'.heap[k]? = w.heap[k]?) → w.heap.size ≤ w'.heap.size → Cs w' A L
theorem Far.keep {base : Nat} {w w' : World} {A : Option Addr} {L : List (List UInt8)} {c : Nat} (h : Far base w A L c) (hk : ∀ k, base ≤ k → k < w.heap.size → w'.heap[k]? = w.heap[k]?) (hs : w.heap.size ≤ w'.heap.size) : Far base w' A L c :=
  ⟨h.1, h.2.1, fun x hx hz => h.2.2 x (fun k h1 h2 => (hx k h1 (by omega)).trans (hk k h1 h2)) (by omega)⟩
theorem Far.only {base g : Nat} {w w' : World} {A : Option Addr} {L : List (List UInt8)} {c : Nat} (h : Far base w A L c) (hg : g < base) (ho : Only g w w') : Far base w' A L c := h.keep (fun k h1 h2 => ho.block k h2 (fun e => by injection e; omega)) ho.size
theorem Far.cs {base : Nat} {w : World} {A : Option Addr} {L : List (List UInt8)} {c : Nat} (h : Far base w A L c) : Cs w A L := h.2.2 w (fun _ _ _ => rfl) (Nat.le_refl _)
theorem Far.below {base : Nat} {w w' : World} {A : Option Addr} {L : List (List UInt8)} {c : Nat} (h : Far base w A L c) (hb : Below w.heap.size w w') : Far base w' A L c := h.keep (fun k _ h2 => hb.block k h2) hb.size
theorem Far.setNew {base : Nat} {w : World} {A : Option Addr} {L : List (List UInt8)} {c : Nat} (h : Far base w A L c) {b : Nat} (hb : b < base) (i : Nat) (u : Value) : Far base (w.setCell ⟨b, i, none⟩ u) A L c :=
  h.keep (fun k h1 _ => Below.heap_setCell w ⟨b, i, none⟩ u k (fun e => by simp at e; omega)) (by simp [World.setCell])
theorem Far.mono {base base' : Nat} {w : World} {A : Option Addr} {L : List (List UInt8)} {c : Nat} (h : Far base w A L c) (hb : base' ≤ base) : Far base' w A L c := ⟨h.1, h.2.1, fun x hx hz => h.2.2 x (fun k h1 h2 => hx k (by omega) h2) hz⟩
theorem far_of_seen {base : Nat} {w : World} {v : Value} {L : List (List UInt8)} {fp : List Nat} (h : Lay.chunksS.ow w [v] L fp) (hg : ∀ k ∈ fp, base ≤ k) : ∃ A c, v = .slice A L.length c ∧ Far base w A L c := by
  obtain ⟨A, c, e, h1, h2, _⟩ := Lay.chunksS.read h
  cases e
  refine ⟨A, c, rfl, h1, h2, fun w' hk hs => ?_⟩
  obtain ⟨A', c', e, _, _, hC⟩ := Lay.chunksS.read (Lay.chunksS.kept h (fun k hm => hk k (hg k hm) (Lay.chunksS.lt h k hm)) hs)
  cases e
  exact hC
theorem far_of_own {base : Nat} {w : World} {v : Value} {L : List (List UInt8)} {fp : List Nat} (h : Lay.chunks.ow w [v] L fp) (hg : ∀ k ∈ fp, base ≤ k) : ∃ A c, v = .slice A L.length c ∧ Far base w A L c := by
  obtain ⟨A, c, rfl, h1, h2, _⟩ := Lay.chunks_rd (Lay.chunks.read h)
  refine ⟨A, c, rfl, h1, h2, fun w' hk hs => ?_⟩
  obtain ⟨A', c', e, _, _, hC⟩ := Lay.chunks_rd (Lay.chunks.read (Lay.chunks.kept h (fun k hm => hk k (hg k hm) (Lay.chunks.lt h k hm)) hs))
  cases e
  exact hC

/-- What a draw of a rope ends in. -/
def DrawsR (g N : Nat) (w : World) (e : Ending) (w' : World) : Prop :=
  ∃ A c L, e = .returned (.agg #[.slice A L.length c]) ∧ Far w.heap.size w' A L c ∧ L.length ≤ 400 ∧ (∀ x ∈ L, x.length ≤ 401) ∧ Cur w' g N ∧ Only g w w'

theorem Blk.only {g b : Nat} {w w' : World} {cs : Array Value} {t : TypeId} (h : Blk w b cs t) (ho : Only g w w') (hb : b ≠ g) : Blk w' b cs t := h.of_block (ho.block b h.lt (fun e => hb (by injection e)))

theorem chunksOf_len (l : List UInt8) : (chunksOf l).length ≤ 400 ∧ ∀ x ∈ chunksOf l, x.length ≤ 401 := by
  have h := chunksOf_ok l
  refine ⟨chunksOk_len h, fun x hx => ?_⟩
  obtain ⟨k, hk, rfl⟩ := List.mem_iff_getElem.1 hx
  have h1 := tot_mem (ls := chunksOf l) k hk
  have h2 := chunksOk_tot h
  omega

theorem Only.setNew {g : Nat} {a w : World} (h : Only g a w) {b : Nat} (hb : a.heap.size ≤ b) (i : Nat) (u : Value) : Only g a (w.setCell ⟨b, i, none⟩ u) :=
  ⟨h.os, h.tape, h.output, by simpa [World.setCell] using h.size, fun k hk hne => (Below.heap_setCell w ⟨b, i, none⟩ u k (fun e => by simp at e; omega)).trans (h.block k hk hne)⟩
theorem Cur.setNew {w : World} {g N : Nat} (h : Cur w g N) {b : Nat} (hb : g < b) (i : Nat) (u : Value) : Cur (w.setCell ⟨b, i, none⟩ u) g N :=
  h.keep (fun k hk => Below.heap_setCell w ⟨b, i, none⟩ u k (fun e => by simp at e; omega)) (by simp [World.setCell])
theorem Lay.set {α : Type} (L : Lay α) {w : World} {cs : List Value} {x : α} {fp : List Nat} (h : L.ow w cs x fp) {b : Nat} (hb : b ∉ fp) (i : Nat) (u : Value) : L.ow (w.setCell ⟨b, i, none⟩ u) cs x fp :=
  L.kept h (fun k hk => Below.heap_setCell _ _ _ _ (fun e => hb (by simp at e; exact e ▸ hk))) (by simp [World.setCell])
theorem Blk.setFar {w : World} {b d : Nat} {cs : Array Value} {t : TypeId} (h : Blk w b cs t) (hne : b ≠ d) (i : Nat) (u : Value) : Blk (w.setCell ⟨d, i, none⟩ u) b cs t := h.of_block (Below.heap_setCell w ⟨d, i, none⟩ u b (fun e => hne (by simpa using e)))

set_option maxRecDepth 100000 in
set_option maxHeartbeats 4000000 in
theorem rope_any (g N : Nat) (w : World) (hN : N ≤ 1000) (h : Cur w g N) :
    Calls Tryd.prog 14 #[.pointer (some ⟨g, 0, none⟩)] w (DrawsR g (N + 1000) w) := by
  have hglt := h.lt
  have hc0 := h.alloc (.cells #[.slice none 0 0] 26)
  have ho0 : Only g w (w.alloc (.cells #[.slice none 0 0] 26)) := Only.of_below ((Below.refl _ w).alloc (Nat.le_refl _) _)
  have bR0 := Blk.new w #[.slice none 0 0] 26
  go_enter Tryd.func14, Tryd.ntmps14
  go_wp2_with fail
  refine (chunks_any g N 6 _ (by omega) (by omega) (by exact hc0)).mono ?_
  rintro e w1 ⟨v1, L, fp, rfl, how1, _, hfp, hL, hLe, hc1, ho1⟩
  obtain ⟨A1, c1, rfl, hf1⟩ := far_of_seen (base := w.heap.size + 1) how1 (fun k hk => by have := hfp k hk; simp at this; omega)
  have bR1 := bR0.only ho1 (by omega)
  have hs1x : w.heap.size + 1 ≤ w1.heap.size := by have := ho1.size; simp at this; omega
  have ho1 := ho0.trans ho1
  have hs1 := ho1.size
  have hal := (Below.refl w1.heap.size w1).alloc (Nat.le_refl _) (.cells #[.slice A1 L.length c1] 26)
  have bB := Blk.new w1 #[.slice A1 L.length c1] 26
  have bR2 := bR1.alloc (.cells #[.slice A1 L.length c1] 26)
  have hc2 := hc1.only_new hal
  have hf2 := hf1.below hal
  have ho2 := ho1.trans (Only.of_below hal)
  have hL4 : L.length ≤ 400 := by omega
  have hLe4 : ∀ x ∈ L, x.length ≤ 401 := fun x hx => by have := hLe x hx; omega
  clear how1 hfp hL hLe hc1 ho1 bR1 hal hf1 bR0 ho0 hc0
  go_wp2_with fail
  generalize w1.alloc (.cells #[.slice A1 L.length c1] 26) = W2 at *
  refine (once_any g (N + 1 + 40 * 6) _ _ (by omega) (by omega) (by omega) (by exact hc2)).mono ?_
  rintro e w3 ⟨p, rfl, hc3, ho3⟩
  have bB3 := bB.only ho3 (by omega)
  have bR3 := bR2.only ho3 (by omega)
  have hf3 := hf2.only (by omega) ho3
  have ho3 := ho2.trans ho3
  clear hc2 ho2 bB bR2 hf2
  have kB3 : w3.cell? ⟨w1.heap.size, 0, none⟩ = some (.slice A1 L.length c1) := bB3.cell 0
  have kF3 := bB3.frozen 0
  have zB3 := bB3.lt
  obtain ⟨M, hM⟩ : ∃ M, N + 1 + 40 * 6 + 1 = M := ⟨_, rfl⟩
  rw [hM] at hc3
  have hM2 : M ≤ N + 300 := by omega
  clear hM h
  cases p
  · go_wp2_with fail
    refine (once_any g M _ _ (by omega) (by omega) (by omega) (by exact hc3)).mono ?_
    rintro e w7 ⟨q, rfl, hc7, ho7⟩
    have bB7 := Blk.only bB3 ho7 (by omega)
    have bR7 := Blk.only bR3 ho7 (by omega)
    have hf7 := Far.only hf3 (by omega) ho7
    have ho7 := Only.trans ho3 ho7
    have hs7 := ho7.size
    have kB7 : w7.cell? ⟨w1.heap.size, 0, none⟩ = some (.slice A1 L.length c1) := bB7.cell 0
    have kF7 := bB7.frozen 0
    have kR7 : w7.cell? ⟨w.heap.size, 0, none⟩ = some (.slice none 0 0) := bR7.cell 0
    have kG7 := bR7.frozen 0
    clear hc3 bB3 bR3 hf3 ho3
    cases q
    · go_wp2
      refine bodyPost_ret (v := .agg #[.slice A1 L.length c1]) (by simp [results, Tryd.results14, go_sem, kR7]) rfl ?_
      have hFAR := (hf7.setNew (b := w.heap.size) (by omega) 0 (.slice A1 L.length c1)).mono (Nat.le_succ _)
      exact ⟨_, _, L, rfl, hFAR, hL4, hLe4, (hc7.setNew (b := w.heap.size) (by omega) 0 _).mono (by omega), ho7.setNew (Nat.le_refl _) 0 _⟩
    · go_wp2_with fail
      refine (badChunks_any g (M + 1) 6 _ (by omega) (by omega) (by exact hc7)).mono ?_
      rintro e w8 ⟨v8, L8, fp8, rfl, how8, _, hfp8, hL8, hLe8, hc8, ho8⟩
      have bB8 := bB7.only ho8 (by omega)
      have bR8 := bR7.only ho8 (by omega)
      have ho8 := ho7.trans ho8
      have how9 := Lay.set Lay.chunksS how8 (b := w1.heap.size) (fun hk => by have := hfp8 _ hk; have := bB7.lt; omega) 0 v8
      have how10 := Lay.set Lay.chunksS how9 (b := w.heap.size) (fun hk => by have := hfp8 _ hk; have := bB7.lt; omega) 0 v8
      obtain ⟨A8, c8, rfl, hf10⟩ := far_of_seen (base := w.heap.size + 1) how10 (fun k hk => by have := hfp8 k hk; have := bB7.lt; omega)
      have kB8 : w8.cell? ⟨w1.heap.size, 0, none⟩ = some (.slice A1 L.length c1) := bB8.cell 0
      have kF8 := bB8.frozen 0
      have bR9 := bR8.setFar (d := w1.heap.size) (by omega) 0 (.slice A8 L8.length c8)
      have kR9 : (w8.setCell ⟨w1.heap.size, 0, none⟩ (.slice A8 L8.length c8)).cell? ⟨w.heap.size, 0, none⟩ = some (.slice none 0 0) := bR9.cell 0
      have kG9 := bR9.frozen 0
      have hc9 := hc8.setNew (b := w1.heap.size) (by omega) 0 (.slice A8 L8.length c8)
      have ho9 := ho8.setNew (b := w1.heap.size) (by omega) 0 (.slice A8 L8.length c8)
      clear how8 how9 how10 hfp8 hc8 ho8 bB7 bR7 hc7 ho7 kB7 kF7 kR7 kG7 bR8 bB8
      go_wp2
      refine bodyPost_ret (v := .agg #[.slice A8 L8.length c8]) (by simp [results, Tryd.results14, go_sem, kR9]) rfl ?_
      exact ⟨_, _, L8, rfl, hf10.mono (Nat.le_succ _), by omega, hLe8, (hc9.setNew (b := w.heap.size) (by omega) 0 _).mono (by omega), ho9.setNew (Nat.le_refl _) 0 _⟩
  · go_wp2_with fail
    refine (text_any g M 60 _ (by omega) (by omega) (by exact hc3)).mono ?_
    rintro e w4 ⟨v4, X, rfl, hown4, hX, hc4, ho4⟩
    have bB4 := bB3.only ho4 (by omega)
    have bR4 := bR3.only ho4 (by omega)
    have hs4 := ho4.size
    have ho4 := ho3.trans ho4
    obtain ⟨A4, c4, rfl, hlc4, hcm4, hB4⟩ := hown4.form
    have hc49 : c4 ≤ 9223372036854775807 := by unfold maxLen at hcm4; omega
    clear hc3 ho3 bB3 bR3 hf3 kB3 kF3 hown4 hcm4
    go_wp2_with fail
    refine (specRopeOf_any A4 X c4 _ hlc4 hc49 (by exact hB4)).mono ?_
    rintro e w5 ⟨v5, fp5, rfl, how5, _, hfp5, hb5⟩
    have bB5 := bB4.below hb5
    have bR5 := bR4.below hb5
    have hc5 := hc4.only_new hb5
    have ho5 := ho4.trans (Only.of_below hb5)
    have kF5 := bB5.frozen 0
    have kB5 : w5.cell? ⟨w1.heap.size, 0, none⟩ = some (.slice A1 L.length c1) := bB5.cell 0
    have how6 := Lay.chunks.set how5 (b := w1.heap.size) (fun hk => by have := hfp5 _ hk; omega) 0 v5
    obtain ⟨A5, c5, rfl, hf6⟩ := far_of_own (base := w.heap.size + 1) how6 (fun k hk => by have := hfp5 k hk; omega)
    have bB6 : Blk (w5.setCell ⟨w1.heap.size, 0, none⟩ (.slice A5 (chunksOf X).length c5)) w1.heap.size #[.slice A5 (chunksOf X).length c5] 26 := by simpa using bB5.set 0 (.slice A5 (chunksOf X).length c5)
    have bR6 := bR5.setFar (d := w1.heap.size) (by omega) 0 (.slice A5 (chunksOf X).length c5)
    have hc6 := hc5.setNew (b := w1.heap.size) (by omega) 0 (.slice A5 (chunksOf X).length c5)
    have ho6 := ho5.setNew (b := w1.heap.size) (by omega) 0 (.slice A5 (chunksOf X).length c5)
    have hlen := chunksOf_len X
    generalize chunksOf X = L5 at *
    generalize isText X = q at *
    clear how5 how6 hfp5 hb5 bB4 bB5 bR4 bR5 hc4 hc5 ho4 ho5 hB4
    go_wp2_with fail
    refine (once_any g (M + 1 + 3 * 60) _ _ (by omega) (by omega) (by omega) (by exact hc6)).mono ?_
    rintro e w7 ⟨q, rfl, hc7, ho7⟩
    have bB7 := Blk.only bB6 ho7 (by omega)
    have bR7 := Blk.only bR6 ho7 (by omega)
    have hf7 := Far.only hf6 (by omega) ho7
    have ho7 := Only.trans ho6 ho7
    have hs7 := ho7.size
    have kB7 : w7.cell? ⟨w1.heap.size, 0, none⟩ = some (.slice A5 L5.length c5) := bB7.cell 0
    have kF7 := bB7.frozen 0
    have kR7 : w7.cell? ⟨w.heap.size, 0, none⟩ = some (.slice none 0 0) := bR7.cell 0
    have kG7 := bR7.frozen 0
    clear hc6 bB6 bR6 hf6 ho6
    cases q
    · go_wp2
      refine bodyPost_ret (v := .agg #[.slice A5 L5.length c5]) (by simp [results, Tryd.results14, go_sem, kR7]) rfl ?_
      have hFAR := (hf7.setNew (b := w.heap.size) (by omega) 0 (.slice A5 L5.length c5)).mono (Nat.le_succ _)
      exact ⟨_, _, L5, rfl, hFAR, hlen.1, hlen.2, (hc7.setNew (b := w.heap.size) (by omega) 0 _).mono (by omega), ho7.setNew (Nat.le_refl _) 0 _⟩
    · go_wp2_with fail
      refine (badChunks_any g ((M + 1 + 3 * 60) + 1) 6 _ (by omega) (by omega) (by exact hc7)).mono ?_
      rintro e w8 ⟨v8, L8, fp8, rfl, how8, _, hfp8, hL8, hLe8, hc8, ho8⟩
      have bB8 := bB7.only ho8 (by omega)
      have bR8 := bR7.only ho8 (by omega)
      have ho8 := ho7.trans ho8
      have how9 := Lay.set Lay.chunksS how8 (b := w1.heap.size) (fun hk => by have := hfp8 _ hk; have := bB7.lt; omega) 0 v8
      have how10 := Lay.set Lay.chunksS how9 (b := w.heap.size) (fun hk => by have := hfp8 _ hk; have := bB7.lt; omega) 0 v8
      obtain ⟨A8, c8, rfl, hf10⟩ := far_of_seen (base := w.heap.size + 1) how10 (fun k hk => by have := hfp8 k hk; have := bB7.lt; omega)
      have kB8 : w8.cell? ⟨w1.heap.size, 0, none⟩ = some (.slice A5 L5.length c5) := bB8.cell 0
      have kF8 := bB8.frozen 0
      have bR9 := bR8.setFar (d := w1.heap.size) (by omega) 0 (.slice A8 L8.length c8)
      have kR9 : (w8.setCell ⟨w1.heap.size, 0, none⟩ (.slice A8 L8.length c8)).cell? ⟨w.heap.size, 0, none⟩ = some (.slice none 0 0) := bR9.cell 0
      have kG9 := bR9.frozen 0
      have hc9 := hc8.setNew (b := w1.heap.size) (by omega) 0 (.slice A8 L8.length c8)
      have ho9 := ho8.setNew (b := w1.heap.size) (by omega) 0 (.slice A8 L8.length c8)
      clear how8 how9 how10 hfp8 hc8 ho8 bB7 bR7 hc7 ho7 kB7 kF7 kR7 kG7 bR8 bB8
      go_wp2
      refine bodyPost_ret (v := .agg #[.slice A8 L8.length c8]) (by simp [results, Tryd.results14, go_sem, kR9]) rfl ?_
      exact ⟨_, _, L8, rfl, hf10.mono (Nat.le_succ _), by omega, hLe8, (hc9.setNew (b := w.heap.size) (by omega) 0 _).mono (by omega), ho9.setNew (Nat.le_refl _) 0 _⟩

theorem cutsOr_bd (l : List UInt8) : (cutsOr l).length ≤ l.length + 1 ∧ ∀ x ∈ cutsOr l, x ≤ l.length := by
  unfold cutsOr cuts
  split
  · refine ⟨by have := List.length_filter_le (fun k : Nat => isBound l k) (List.range (l.length + 1)); simpa using this, fun x hx => ?_⟩
    have := List.mem_range.1 (List.mem_filter.1 hx).1
    omega
  · simp

theorem OwnN.only {w w' : World} {g base : Nat} {v : Value} {l : List Nat} (h : OwnN w base v l) (ho : Only g w w') (hb : g < base) : OwnN w' base v l := by
  refine World.ownsRow.kept (w' := w') (row := some g) h ho ?_
  cases hv : v.ownBlock with
  | none => exact .inl rfl
  | some k => exact .inr (fun e => by injection e with e; have := (World.ownsRow.lt h k hv).1; omega)

set_option maxRecDepth 100000 in
set_option maxHeartbeats 4000000 in
theorem cutOf_any (g N base : Nat) (A : Option Addr) (L : List (List UInt8)) (c : Nat) (w : World) (hN : N ≤ 100000) (h : Cur w g N) (hg : g < base) (hF : Far base w A L c) (hL9 : L.length ≤ 400) :
    Calls Tryd.prog 15 #[.pointer (some ⟨g, 0, none⟩), .agg #[.slice A L.length c]] w (Draws g (N + 7) (-9223372036854775808) 9223372036854775807 w) := by
  have hglt := h.lt
  have hal := (Below.refl w.heap.size w).alloc (Nat.le_refl _) (.cells #[.slice A L.length c] 26)
  have bA := Blk.new w #[.slice A L.length c] 26
  have hc0 := h.only_new hal
  have hC0 := hF.cs.below hal
  have hTl := chunksText_len L
  obtain ⟨T', hT⟩ : ∃ T', chunksText L = T' := ⟨_, rfl⟩
  rw [hT] at hTl
  have HT := Lib.hid hT
  clear hT h
  go_enter Tryd.func15, Tryd.ntmps15
  go_wp2_with fail
  refine (specRopeText_any A L c _ (by omega) (by exact hC0)).mono ?_
  rintro e w1 ⟨v1, rfl, hown1, hb1⟩
  rw [HT.out] at hown1
  obtain ⟨B, d, rfl, hld, hdm, hB⟩ := hown1.form
  have hd9 : d ≤ 9223372036854775807 := by unfold maxLen at hdm; omega
  have bA1 := bA.below hb1
  have hc1 := hc0.only_new hb1
  have hb1 := below_then hal hb1
  clear hown1 hdm hal hc0 hC0
  go_wp2_with fail
  refine (l01Cuts_any B T' d _ hld hd9 (by exact hB)).mono ?_
  rintro e w2 ⟨v2, rfl, hown2, hb2⟩
  obtain ⟨C, q, rfl, hlq, hqm, _⟩ := hown2.form
  have bA2 := bA1.below hb2
  have hc2 := hc1.only_new hb2
  have hb2 := below_then hb1 hb2
  have hs2 := hb2.size
  have hbase2 : g < w1.heap.size := by have := hb1.size; omega
  obtain ⟨cuts, hcu⟩ : ∃ cuts, cutsOr T' = cuts := ⟨_, rfl⟩
  have hcul : cuts.length ≤ 1000 := by rw [← hcu]; have := (cutsOr_bd T').1; omega
  have hcub : ∀ x ∈ cuts, x ≤ 1000 := fun x hx => by rw [← hcu] at hx; have := (cutsOr_bd T').2 x hx; omega
  rw [hcu] at hown2 hlq ⊢
  clear hcu bA bA1 hc1 hb1 hB
  have kA2 : w2.cell? ⟨w.heap.size, 0, none⟩ = some (.slice A L.length c) := bA2.cell 0
  have ho2 : Only g w w2 := Only.of_below hb2
  by_cases hpos : (0 : Int) < (cuts.length : Int)
  · go_wp2_with fail
    refine (once_any g N _ _ (by omega) (by omega) (by omega) (by exact hc2)).mono ?_
    rintro e w3 ⟨p, rfl, hc3, ho3⟩
    have hown3 := hown2.only ho3 hbase2
    have bA3 := bA2.only ho3 (by omega)
    have kA3 : w3.cell? ⟨w.heap.size, 0, none⟩ = some (.slice A L.length c) := bA3.cell 0
    have ho3 := ho2.trans ho3
    clear hown2 bA2 kA2 hc2 ho2 hb2
    cases p
    · obtain ⟨m, hm⟩ : ∃ m : Nat, min 256 cuts.length = m := ⟨_, rfl⟩
      have hm1 : 1 ≤ m ∧ m ≤ cuts.length := by omega
      have hmn : min (256 : Int) (cuts.length : Int) = (m : Int) := by omega
      clear hm
      go_wp2_with fail
      refine (pick_draws g (N + 1) _ _ (by omega) (by omega) (by omega) (by exact hc3)).mono ?_
      rintro e w4 ⟨x, rfl, hx0, hx1, hc4, ho4⟩
      obtain ⟨k, rfl⟩ := Int.eq_ofNat_of_zero_le hx0
      have hown4 := hown3.only ho4 hbase2
      have hk : k < cuts.length := by omega
      obtain ⟨C', q', e', _, _, hcell⟩ := hown4.form
      cases e'
      obtain ⟨b, off, rfl, hcb⟩ := hcell k hk
      have hbd := hcub _ (List.getElem_mem hk)
      obtain ⟨y, hy⟩ : ∃ y : Nat, cuts[k] = y := ⟨_, rfl⟩
      rw [hy] at hcb hbd
      have hki : (k : Int) < (cuts.length : Int) := by omega
      have ho4 := ho3.trans ho4
      clear hcell hy hown3 hown4 hc3 ho3 bA3 kA3 hmn hx0 hx1
      go_wp2
      go_ret
      exact ⟨_, rfl, by omega, by omega, hc4.mono (by omega), ho4⟩
    · have hC4 := (Far.only hF (by omega) ho3).cs
      go_wp2_with fail
      refine (specRopeText_any A L c _ (by omega) (by exact hC4)).mono ?_
      rintro e w5 ⟨v5, rfl, hown5, hb5⟩
      rw [HT.out] at hown5
      obtain ⟨B5, d5, rfl, _, _, _⟩ := hown5.form
      have hc5 := Cur.only_new hc3 hb5
      have ho5 := ho3.trans (Only.of_below hb5)
      obtain ⟨m, hm⟩ : ∃ m : Nat, min 200 T'.length = m := ⟨_, rfl⟩
      have hm1 : m ≤ 200 := by omega
      have hmn : min (200 : Int) (T'.length : Int) = (m : Int) := by omega
      clear hm hown5 hb5 hc3 ho3 bA3 kA3 hC4
      go_wp2_with fail
      refine (place_any g (N + 1) _ _ (by omega) (by omega) (by omega) (by exact hc5)).mono ?_
      rintro e w6 ⟨x, rfl, hx0, hx1, hc6, ho6⟩
      go_wp2
      go_ret
      exact ⟨x, rfl, hx0, hx1, hc6.mono (by omega), ho5.trans ho6⟩
  · have hC4 := (Far.below hF hb2).cs
    go_wp2_with fail
    refine (specRopeText_any A L c _ (by omega) (by exact hC4)).mono ?_
    rintro e w5 ⟨v5, rfl, hown5, hb5⟩
    rw [HT.out] at hown5
    obtain ⟨B5, d5, rfl, _, _, _⟩ := hown5.form
    have hc5 := Cur.only_new hc2 hb5
    have ho5 := (Only.of_below (g := g) hb2).trans (Only.of_below hb5)
    obtain ⟨m, hm⟩ : ∃ m : Nat, min 200 T'.length = m := ⟨_, rfl⟩
    have hm1 : m ≤ 200 := by omega
    have hmn : min (200 : Int) (T'.length : Int) = (m : Int) := by omega
    clear hm hown5 hb5 hc2 hb2 bA2 kA2 hC4
    go_wp2_with fail
    refine (place_any g N _ _ (by omega) (by omega) (by omega) (by exact hc5)).mono ?_
    rintro e w6 ⟨x, rfl, hx0, hx1, hc6, ho6⟩
    go_wp2
    go_ret
    exact ⟨x, rfl, hx0, hx1, hc6.mono (by omega), ho5.trans ho6⟩

/-- What a draw of two places ends in. -/
def Draws2 (g N : Nat) (w : World) (e : Ending) (w' : World) : Prop := ∃ x y : Int, e = .returned (.tuple #[.int .i64 x, .int .i64 y]) ∧ (-9223372036854775808 ≤ x ∧ x ≤ 9223372036854775807) ∧ (-9223372036854775808 ≤ y ∧ y ≤ 9223372036854775807) ∧ Cur w' g N ∧ Only g w w'

end Go.Proofs.YthnahenpnafkmaaDoor
