/-
  Chapter 7, l07Meet and l07Put in the model: contracts. Own work.
-/
import Derived.Test.YtgpjjolgpppeeaaP14
import Derived.Test.YtgpjjolgpppeeaaI23
import Derived.Test.YtgpjjolgpppeeaaS12
namespace Go.Proofs.Ytgpjjolgpppeeaa
open Go.RowKit P
set_option linter.unusedVariables false
set_option linter.unusedSimpArgs false
set_option maxRecDepth 100000

set_option maxHeartbeats 4000000 in
theorem l07Meet_any (i j s t x y u v : Int) (w : World) :
    Calls Try.prog 83 #[.agg #[.int .i64 i, .int .i64 j, .int .i64 s, .int .i64 t], .agg #[.int .i64 x, .int .i64 y, .int .i64 u, .int .i64 v]] w fun e w' => e = .returned (.bool (meet (i, j, s, t) (x, y, u, v))) ∧ Below w.heap.size w w' := by
  rw [meet_iff]
  have hal := ((Below.refl w.heap.size w).alloc (Nat.le_refl _) (.cells #[.int .i64 i, .int .i64 j, .int .i64 s, .int .i64 t] 43)).alloc (by simp) (.cells #[.int .i64 x, .int .i64 y, .int .i64 u, .int .i64 v] 43)
  have b0 := (Blk.new w #[.int .i64 i, .int .i64 j, .int .i64 s, .int .i64 t] 43).alloc (.cells #[.int .i64 x, .int .i64 y, .int .i64 u, .int .i64 v] 43)
  have b1 := Blk.new (w.alloc (.cells #[.int .i64 i, .int .i64 j, .int .i64 s, .int .i64 t] 43)) #[.int .i64 x, .int .i64 y, .int .i64 u, .int .i64 v] 43
  simp only [World.size_alloc] at b1
  have p0 := b0.cell 0
  have p1 := b0.cell 1
  have q0 := b1.cell 0
  have q1 := b1.cell 1
  clear b0 b1
  by_cases h1 : i < y
  · by_cases h2 : x < j
    · by_cases h3 : i < j
      · by_cases h4 : x < y
        · go_enter Try.func83, Try.ntmps83
          go_wp2
          go_ret
          exact ⟨ret_bool (by simp <;> omega), hal⟩
        · go_enter Try.func83, Try.ntmps83
          go_wp2
          go_ret
          exact ⟨ret_bool (by simp <;> omega), hal⟩
      · go_enter Try.func83, Try.ntmps83
        go_wp2
        go_ret
        exact ⟨ret_bool (by simp <;> omega), hal⟩
    · go_enter Try.func83, Try.ntmps83
      go_wp2
      go_ret
      exact ⟨ret_bool (by simp <;> omega), hal⟩
  · go_enter Try.func83, Try.ntmps83
    go_wp2
    go_ret
    exact ⟨ret_bool (by simp <;> omega), hal⟩

/-- The list with a kept place at p: what stands there while the second loop runs. -/
def keptAt (L M : List Le) (l : Le) (i : Nat) : List Le := if i ≤ L.length then L ++ (0, 0, 0, 0) :: M else L ++ l :: M
theorem keptAt_length (L M : List Le) (l : Le) (i : Nat) : (keptAt L M l i).length = L.length + 1 + M.length := by
  unfold keptAt; split <;> simp <;> omega
theorem keptAt_zero {L M : List Le} {l : Le} {i : Nat} (hi : i < (keptAt L M l i).length) (hL : ∀ x ∈ L, leRight x = true) (hM : ∀ x ∈ M, leRight x = true) : ((keptAt L M l i)[i]).2.2.1 = 0 ↔ i = L.length := by
  have hr : ∀ x : Le, leRight x = true → ¬ x.2.2.1 = 0 := by
    intro x hx
    have := of_decide_eq_true hx
    omega
  rw [keptAt_length] at hi
  rcases Nat.lt_trichotomy i L.length with h | h | h
  · have e : (keptAt L M l i)[i]'(by rw [keptAt_length]; exact hi) = L[i] := by
      simp only [keptAt, if_pos (Nat.le_of_lt h)]
      rw [List.getElem_append_left h]
    rw [e]
    exact ⟨fun h2 => absurd h2 (hr _ (hL _ (List.getElem_mem h))), fun h2 => by omega⟩
  · subst h
    have e : (keptAt L M l L.length)[L.length]'(by rw [keptAt_length]; exact hi) = (0, 0, 0, 0) := by
      simp only [keptAt, if_pos (Nat.le_refl _)]
      simp
    rw [e]
    simp
  · have e : (keptAt L M l i)[i]'(by rw [keptAt_length]; exact hi) = M[i - L.length - 1]'(by omega) := by
      simp only [keptAt, if_neg (show ¬ i ≤ L.length by omega)]
      rw [List.getElem_append_right (by omega), List.getElem_cons, dif_neg (by omega)]
    rw [e]
    exact ⟨fun h2 => absurd h2 (hr _ (hM _ (List.getElem_mem _))), fun h2 => by omega⟩
theorem keptAt_next {L M : List Le} {l : Le} {i : Nat} (h : ¬ i = L.length) : keptAt L M l (i + 1) = keptAt L M l i := by
  unfold keptAt
  by_cases h1 : i ≤ L.length
  · rw [if_pos h1, if_pos (by omega)]
  · rw [if_neg h1, if_neg (by omega)]
theorem keptAt_put (L M : List Le) (l : Le) : keptAt L M l (L.length + 1) = (keptAt L M l L.length).set L.length l := by
  unfold keptAt
  rw [if_neg (by omega), if_pos (Nat.le_refl _), List.set_append_right _ _ (Nat.le_refl _), Nat.sub_self]
  rfl

theorem leIn_right {l : Le} (h : leRight l = true) : leIn l := by
  have := of_decide_eq_true h
  exact ⟨⟨by omega, by omega⟩, ⟨by omega, by omega⟩, ⟨by omega, by omega⟩, ⟨by omega, by omega⟩⟩

theorem cell_other {w : World} {a p : Addr} (v : Value) (h : p.block ≠ a.block) : (w.setCell a v).cell? p = w.cell? p := by
  unfold World.cell?
  rw [Below.heap_setCell w a v p.block h]
theorem max_if (T t : Int) : max T t = if T < t then t else T := by
  by_cases h : T < t
  · rw [if_pos h]; omega
  · rw [if_neg h]; omega
theorem after_app {w wr w4 : World} {v : Value} {out : List Le} {cs : Array Value} (hbx : Blk wr w.heap.size cs 43) (how : OwR wr (w.heap.size + 1) v out) (hb : Below w.heap.size w wr) (o : Obj) (hg : (wr.alloc o).grownBy w4 v.ownBlock) :
    Blk w4 w.heap.size cs 43 ∧ Below w.heap.size w w4 := by
  have hk := Keeps.of_grown hg
  have hz := hbx.lt
  refine ⟨(hbx.alloc o).of_block (hk.block _ (by simp; omega) (fun hm => by have := (how.range _ hm).1; omega)), ?_⟩
  exact (hb.alloc hb.size o).trans (hk.below (B := w.heap.size) (by simp; omega) (fun k hm => by have := (how.range k hm).1; omega))
theorem zero_in : leIn (0, 0, 0, 0) := ⟨⟨by decide, by decide⟩, ⟨by decide, by decide⟩, ⟨by decide, by decide⟩, ⟨by decide, by decide⟩⟩

set_option maxHeartbeats 16000000 in
theorem l07Put_any (A : Option Addr) (es : List Le) (c : Nat) (x y s t : Int) (w : World) (hl : es.length ≤ 1000) (hsr : Srt es) (hrt : ∀ l ∈ es, leRight l = true) (hin : leIn (x, y, s, t)) (hA : Ll w A es) :
    Calls Try.prog 85 #[.slice A es.length c, .agg #[.int .i64 x, .int .i64 y, .int .i64 s, .int .i64 t]] w fun e w' => ∃ v, e = .returned v ∧ OwR w' w.heap.size v (putM es (x, y, s, t)) ∧ Below w.heap.size w w' := by
  have hn9 : es.length ≤ 9223372036854775807 := by omega
  have HSR := Lib.hid hsr
  have HRT := Lib.hid hrt
  have hal := (Below.refl w.heap.size w).alloc (Nat.le_refl _) (.cells #[.int .i64 x, .int .i64 y, .int .i64 s, .int .i64 t] 43)
  have hbx := Blk.new w #[.int .i64 x, .int .i64 y, .int .i64 s, .int .i64 t] 43
  have hal2 := hal.alloc (by simp) (.cells #[] 43)
  have hbx2 := hbx.alloc (.cells #[] 43)
  have hown := OwR.empty (w.alloc (.cells #[.int .i64 x, .int .i64 y, .int .i64 s, .int .i64 t] 43))
  simp only [World.size_alloc] at hown
  have hp0 := Lib.hid (PutAt.start es (x, y, s, t))
  have hix := Lib.hid (show isI x ∧ isI y ∧ isI s from ⟨hin.1, hin.2.1, hin.2.2.1⟩)
  have hit : isI t := hin.2.2.2
  clear hsr hrt hal hbx hin
  go_enter Try.func85, Try.ntmps85
  go_wp2
  go_loopw [5, 6, 7] (fun o q i wr => ∃ (k : Nat) (v : Value) (out : List Le) (bb : Bool) (T : Int), k ≤ es.length ∧ i = .int .i64 k ∧ v = o ∧ q = .bool bb ∧ isI T ∧ out.length ≤ 2 * k ∧ Hid (PutAt es (x, y, s, t) k out bb T) ∧ Blk wr w.heap.size #[.int .i64 x, .int .i64 y, .int .i64 s, .int .i64 T] 43 ∧ OwR wr (w.heap.size + 1) v out ∧ Below w.heap.size w wr)
    (fun _ _ i _ => es.length - (intOf i).toNat)
  case atStart => exact ⟨0, _, [], false, t, Nat.zero_le _, rfl, rfl, rfl, hit, Nat.zero_le _, hp0, hbx2, hown, hal2⟩
  case round =>
    obtain ⟨k, v, out, bb, T, hk, rfl, rfl, rfl, hiT, hol, HP, hbx3, hown3, hb⟩ := hrel
    clear hbx2 hown hal2 hp0
    have HOW := Lib.hid hown3
    have HBX := Lib.hid hbx3
    have HB := Lib.hid hb
    have zb := hbx3.lt
    by_cases hlt : k < es.length
    · have hki0 : (0 : Int) ≤ (k : Int) := by omega
      have hki : (k : Int) < (es.length : Int) := by omega
      obtain ⟨b, off, x0, y0, s0, t0, rfl, hbw, hek, m0, m1, m2, m3, hin0⟩ := hA.at_ k hlt
      have hbl : b < wr.heap.size := Nat.lt_of_lt_of_le hbw hb.size
      have k0 := (HB.out.cell (p := ⟨b, off + k * 4, none⟩) hbw).trans m0
      have k1 := (HB.out.cell (p := ⟨b, off + k * 4 + 1, none⟩) hbw).trans m1
      have k2 := (HB.out.cell (p := ⟨b, off + k * 4 + 2, none⟩) hbw).trans m2
      have k3 := (HB.out.cell (p := ⟨b, off + k * 4 + 3, none⟩) hbw).trans m3
      have p0 := hbx3.cell 0
      have p1 := hbx3.cell 1
      have p2 := hbx3.cell 2
      have p3 := hbx3.cell 3
      obtain ⟨q, hq⟩ : ∃ q, leSame (x0, y0, s0, t0) (x, y, s, T) = q := ⟨_, rfl⟩
      have hq2 : leSame (x0, y0, s0, t0) (x, y, s, t) = q := by rw [← hq]; rfl
      obtain ⟨gg, hg⟩ : ∃ g, leLess (x, y, s, T) (x0, y0, s0, t0) = g := ⟨_, rfl⟩
      have hg2 : leLess (x, y, s, t) (x0, y0, s0, t0) = gg := by rw [← hg]; rfl
      have HQ := Lib.hid hq
      have HQ2 := Lib.hid hq2
      have HG := Lib.hid hg
      have HG2 := Lib.hid hg2
      have HEK := Lib.hid hek
      have HIN0 := Lib.hid hin0
      clear hq hq2 hg hg2 hek hown3 hbx3 hb hin0
      go_wp2_with fail
      refine wp_region_held_drew (S := (fun V => V.cell? ⟨b, off + k * 4, none⟩ = some (.int .i64 x0) ∧ V.cell? ⟨b, off + k * 4 + 1, none⟩ = some (.int .i64 y0) ∧ V.cell? ⟨b, off + k * 4 + 2, none⟩ = some (.int .i64 s0) ∧ V.cell? ⟨b, off + k * 4 + 3, none⟩ = some (.int .i64 t0) ∧ V.cell? ⟨w.heap.size, 0, none⟩ = some (.int .i64 x) ∧ V.cell? ⟨w.heap.size, 1, none⟩ = some (.int .i64 y) ∧ V.cell? ⟨w.heap.size, 2, none⟩ = some (.int .i64 s) ∧ V.cell? ⟨w.heap.size, 3, none⟩ = some (.int .i64 T))) (by kernel_rfl) (by exact ⟨k0, k1, k2, k3, p0, p1, p2, p3⟩) (fun hHeld => ?_)
      refine wpAnyH_take (i := 0) (oi := ?_) (v := ?_) ?_ ?_ ?_ ?_ ?_ ?_ (by exact hHeld) ?_
      rotate_left 2
      · (simp only [List.getElem?_toArray, List.getElem?_cons_zero]; try rfl)
      · kernel_rfl
      · kernel_rfl
      · kernel_rfl
      · exact fun _ _ _ h => h
      · refine Or.inl ⟨by rfl, ?_⟩
        (intro V hSV; (try dsimp only at hSV); obtain ⟨q0, q1, q2, q3, q4, q5, q6, q7⟩ := hSV; go_simp; try with_reducible rfl)
      (try simp only [Act.put, List.setIfInBounds_toArray, List.set_cons_zero, List.set_cons_succ])
      refine wpAnyH_take (i := 1) (oi := ?_) (v := ?_) ?_ ?_ ?_ ?_ ?_ ?_ (by exact hHeld) ?_
      rotate_left 2
      · (simp only [List.getElem?_toArray, List.getElem?_cons_zero, List.getElem?_cons_succ]; try rfl)
      · kernel_rfl
      · kernel_rfl
      · kernel_rfl
      · exact fun _ _ _ h => h
      · refine Or.inl ⟨by rfl, ?_⟩
        (intro V hSV; (try dsimp only at hSV); obtain ⟨q0, q1, q2, q3, q4, q5, q6, q7⟩ := hSV; go_simp; try with_reducible rfl)
      (try simp only [Act.put, List.setIfInBounds_toArray, List.set_cons_zero, List.set_cons_succ])
      refine wpAnyH_take (i := 2) (oi := ?_) (v := ?_) ?_ ?_ ?_ ?_ ?_ ?_ (by exact hHeld) ?_
      rotate_left 2
      · (simp only [List.getElem?_toArray, List.getElem?_cons_zero, List.getElem?_cons_succ]; try rfl)
      · kernel_rfl
      · kernel_rfl
      · kernel_rfl
      · exact fun _ _ _ h => h
      · refine Or.inl ⟨by rfl, ?_⟩
        (intro V hSV; (try dsimp only at hSV); obtain ⟨q0, q1, q2, q3, q4, q5, q6, q7⟩ := hSV; go_simp; try with_reducible rfl)
      (try simp only [Act.put, List.setIfInBounds_toArray, List.set_cons_zero, List.set_cons_succ])
      refine wpAnyH_take (i := 3) (oi := ?_) (v := ?_) ?_ ?_ ?_ ?_ ?_ ?_ (by exact hHeld) ?_
      rotate_left 2
      · (simp only [List.getElem?_toArray, List.getElem?_cons_zero, List.getElem?_cons_succ]; try rfl)
      · kernel_rfl
      · kernel_rfl
      · kernel_rfl
      · exact fun _ _ _ h => h
      · refine Or.inl ⟨by rfl, ?_⟩
        (intro V hSV; (try dsimp only at hSV); obtain ⟨q0, q1, q2, q3, q4, q5, q6, q7⟩ := hSV; go_simp; try with_reducible rfl)
      (try simp only [Act.put, List.setIfInBounds_toArray, List.set_cons_zero, List.set_cons_succ])
      refine wpAnyH_take (i := 4) (oi := ?_) (v := ?_) ?_ ?_ ?_ ?_ ?_ ?_ (by exact hHeld) ?_
      rotate_left 2
      · (simp only [List.getElem?_toArray, List.getElem?_cons_zero, List.getElem?_cons_succ]; try rfl)
      · kernel_rfl
      · kernel_rfl
      · kernel_rfl
      · exact fun _ _ _ h => h
      · refine Or.inl ⟨by rfl, ?_⟩
        (intro V hSV; (try dsimp only at hSV); obtain ⟨q0, q1, q2, q3, q4, q5, q6, q7⟩ := hSV; go_simp; try with_reducible rfl)
      (try simp only [Act.put, List.setIfInBounds_toArray, List.set_cons_zero, List.set_cons_succ])
      refine wpAnyH_ready (rs := [5]) (by kernel_rfl) (by simp) ?_
      refine AllReadyH.cons rfl (fun K hK => ?_) AllReadyH.nil
      go_simp
      refine (l07One_any x0 y0 s0 t0 x y s T _).mono ?_
      rintro e w1 ⟨rfl, hbw1⟩
      rw [HQ.out]
      have hbw1 : Below wr.heap.size wr w1 := ⟨hbw1.os, hbw1.tape, hbw1.output, hbw1.size, hbw1.block⟩
      have hbR := hbw1
      go_wp2_with fail
      refine hK.out _ _ (by exact ⟨((hbR).cell (p := ⟨b, off + k * 4, none⟩) hbl).trans k0, ((hbR).cell (p := ⟨b, off + k * 4 + 1, none⟩) hbl).trans k1, ((hbR).cell (p := ⟨b, off + k * 4 + 2, none⟩) hbl).trans k2, ((hbR).cell (p := ⟨b, off + k * 4 + 3, none⟩) hbl).trans k3, ((hbR).cell (p := ⟨w.heap.size, 0, none⟩) zb).trans p0, ((hbR).cell (p := ⟨w.heap.size, 1, none⟩) zb).trans p1, ((hbR).cell (p := ⟨w.heap.size, 2, none⟩) zb).trans p2, ((hbR).cell (p := ⟨w.heap.size, 3, none⟩) zb).trans p3⟩) (fun hHeld => ?_)
      clear hK K
      (try simp only [Act.put, List.setIfInBounds_toArray, List.set_cons_zero, List.set_cons_succ])
      refine wpAnyH_done (by kernel_rfl) ?_ _
      clear hHeld
      have HOW := Lib.hid (HOW.out.below hbw1)
      have HBX := Lib.hid (HBX.out.below hbw1)
      have HB := Lib.hid (below_then HB.out hbw1)
      have k0 := (hbw1.cell (p := ⟨b, off + k * 4, none⟩) hbl).trans k0
      have k1 := (hbw1.cell (p := ⟨b, off + k * 4 + 1, none⟩) hbl).trans k1
      have k2 := (hbw1.cell (p := ⟨b, off + k * 4 + 2, none⟩) hbl).trans k2
      have k3 := (hbw1.cell (p := ⟨b, off + k * 4 + 3, none⟩) hbl).trans k3
      have hbl1 : b < w1.heap.size := Nat.lt_of_lt_of_le hbl hbw1.size
      have zb1 : w.heap.size < w1.heap.size := Nat.lt_of_lt_of_le zb hbw1.size
      clear p0 p1 p2 p3 hbR hbw1
      have p0 := HBX.out.cell 0
      have p1 := HBX.out.cell 1
      have p2 := HBX.out.cell 2
      have p3 := HBX.out.cell 3
      cases q
      · have hsn : leSame es[k] (x, y, s, t) = false := by rw [HEK.out]; exact HQ2.out
        have HSN := Lib.hid hsn
        clear hsn
        cases bb
        · go_wp2_with fail
          refine wp_region_held_drew (S := (fun V => V.cell? ⟨b, off + k * 4, none⟩ = some (.int .i64 x0) ∧ V.cell? ⟨b, off + k * 4 + 1, none⟩ = some (.int .i64 y0) ∧ V.cell? ⟨b, off + k * 4 + 2, none⟩ = some (.int .i64 s0) ∧ V.cell? ⟨b, off + k * 4 + 3, none⟩ = some (.int .i64 t0) ∧ V.cell? ⟨w.heap.size, 0, none⟩ = some (.int .i64 x) ∧ V.cell? ⟨w.heap.size, 1, none⟩ = some (.int .i64 y) ∧ V.cell? ⟨w.heap.size, 2, none⟩ = some (.int .i64 s) ∧ V.cell? ⟨w.heap.size, 3, none⟩ = some (.int .i64 T))) (by kernel_rfl) (by exact ⟨k0, k1, k2, k3, p0, p1, p2, p3⟩) (fun hHeld => ?_)
          refine wpAnyH_take (i := 0) (oi := ?_) (v := ?_) ?_ ?_ ?_ ?_ ?_ ?_ (by exact hHeld) ?_
          rotate_left 2
          · (simp only [List.getElem?_toArray, List.getElem?_cons_zero]; try rfl)
          · kernel_rfl
          · kernel_rfl
          · kernel_rfl
          · exact fun _ _ _ h => h
          · refine Or.inl ⟨by rfl, ?_⟩
            (intro V hSV; (try dsimp only at hSV); obtain ⟨q0, q1, q2, q3, q4, q5, q6, q7⟩ := hSV; go_simp; try with_reducible rfl)
          (try simp only [Act.put, List.setIfInBounds_toArray, List.set_cons_zero, List.set_cons_succ])
          refine wpAnyH_take (i := 1) (oi := ?_) (v := ?_) ?_ ?_ ?_ ?_ ?_ ?_ (by exact hHeld) ?_
          rotate_left 2
          · (simp only [List.getElem?_toArray, List.getElem?_cons_zero, List.getElem?_cons_succ]; try rfl)
          · kernel_rfl
          · kernel_rfl
          · kernel_rfl
          · exact fun _ _ _ h => h
          · refine Or.inl ⟨by rfl, ?_⟩
            (intro V hSV; (try dsimp only at hSV); obtain ⟨q0, q1, q2, q3, q4, q5, q6, q7⟩ := hSV; go_simp; try with_reducible rfl)
          (try simp only [Act.put, List.setIfInBounds_toArray, List.set_cons_zero, List.set_cons_succ])
          refine wpAnyH_take (i := 2) (oi := ?_) (v := ?_) ?_ ?_ ?_ ?_ ?_ ?_ (by exact hHeld) ?_
          rotate_left 2
          · (simp only [List.getElem?_toArray, List.getElem?_cons_zero, List.getElem?_cons_succ]; try rfl)
          · kernel_rfl
          · kernel_rfl
          · kernel_rfl
          · exact fun _ _ _ h => h
          · refine Or.inl ⟨by rfl, ?_⟩
            (intro V hSV; (try dsimp only at hSV); obtain ⟨q0, q1, q2, q3, q4, q5, q6, q7⟩ := hSV; go_simp; try with_reducible rfl)
          (try simp only [Act.put, List.setIfInBounds_toArray, List.set_cons_zero, List.set_cons_succ])
          refine wpAnyH_take (i := 3) (oi := ?_) (v := ?_) ?_ ?_ ?_ ?_ ?_ ?_ (by exact hHeld) ?_
          rotate_left 2
          · (simp only [List.getElem?_toArray, List.getElem?_cons_zero, List.getElem?_cons_succ]; try rfl)
          · kernel_rfl
          · kernel_rfl
          · kernel_rfl
          · exact fun _ _ _ h => h
          · refine Or.inl ⟨by rfl, ?_⟩
            (intro V hSV; (try dsimp only at hSV); obtain ⟨q0, q1, q2, q3, q4, q5, q6, q7⟩ := hSV; go_simp; try with_reducible rfl)
          (try simp only [Act.put, List.setIfInBounds_toArray, List.set_cons_zero, List.set_cons_succ])
          refine wpAnyH_take (i := 4) (oi := ?_) (v := ?_) ?_ ?_ ?_ ?_ ?_ ?_ (by exact hHeld) ?_
          rotate_left 2
          · (simp only [List.getElem?_toArray, List.getElem?_cons_zero, List.getElem?_cons_succ]; try rfl)
          · kernel_rfl
          · kernel_rfl
          · kernel_rfl
          · exact fun _ _ _ h => h
          · refine Or.inl ⟨by rfl, ?_⟩
            (intro V hSV; (try dsimp only at hSV); obtain ⟨q0, q1, q2, q3, q4, q5, q6, q7⟩ := hSV; go_simp; try with_reducible rfl)
          (try simp only [Act.put, List.setIfInBounds_toArray, List.set_cons_zero, List.set_cons_succ])
          refine wpAnyH_take (i := 5) (oi := ?_) (v := ?_) ?_ ?_ ?_ ?_ ?_ ?_ (by exact hHeld) ?_
          rotate_left 2
          · (simp only [List.getElem?_toArray, List.getElem?_cons_zero, List.getElem?_cons_succ]; try rfl)
          · kernel_rfl
          · kernel_rfl
          · kernel_rfl
          · exact fun _ _ _ h => h
          · refine Or.inl ⟨by rfl, ?_⟩
            (intro V hSV; (try dsimp only at hSV); obtain ⟨q0, q1, q2, q3, q4, q5, q6, q7⟩ := hSV; go_simp; try with_reducible rfl)
          (try simp only [Act.put, List.setIfInBounds_toArray, List.set_cons_zero, List.set_cons_succ])
          refine wpAnyH_take (i := 6) (oi := ?_) (v := ?_) ?_ ?_ ?_ ?_ ?_ ?_ (by exact hHeld) ?_
          rotate_left 2
          · (simp only [List.getElem?_toArray, List.getElem?_cons_zero, List.getElem?_cons_succ]; try rfl)
          · kernel_rfl
          · kernel_rfl
          · kernel_rfl
          · exact fun _ _ _ h => h
          · refine Or.inl ⟨by rfl, ?_⟩
            (intro V hSV; (try dsimp only at hSV); obtain ⟨q0, q1, q2, q3, q4, q5, q6, q7⟩ := hSV; go_simp; try with_reducible rfl)
          (try simp only [Act.put, List.setIfInBounds_toArray, List.set_cons_zero, List.set_cons_succ])
          refine wpAnyH_take (i := 7) (oi := ?_) (v := ?_) ?_ ?_ ?_ ?_ ?_ ?_ (by exact hHeld) ?_
          rotate_left 2
          · (simp only [List.getElem?_toArray, List.getElem?_cons_zero, List.getElem?_cons_succ]; try rfl)
          · kernel_rfl
          · kernel_rfl
          · kernel_rfl
          · exact fun _ _ _ h => h
          · refine Or.inl ⟨by rfl, ?_⟩
            (intro V hSV; (try dsimp only at hSV); obtain ⟨q0, q1, q2, q3, q4, q5, q6, q7⟩ := hSV; go_simp; try with_reducible rfl)
          (try simp only [Act.put, List.setIfInBounds_toArray, List.set_cons_zero, List.set_cons_succ])
          refine wpAnyH_ready (rs := [8]) (by kernel_rfl) (by simp) ?_
          refine AllReadyH.cons rfl (fun K hK => ?_) AllReadyH.nil
          go_simp
          refine (l07Less_any x y s T x0 y0 s0 t0 _).mono ?_
          rintro e w2 ⟨rfl, hbw2⟩
          rw [HG.out]
          have hbw2 : Below w1.heap.size w1 w2 := ⟨hbw2.os, hbw2.tape, hbw2.output, hbw2.size, hbw2.block⟩
          have hbR := hbw2
          go_wp2_with fail
          refine hK.out _ _ (by exact ⟨((hbR).cell (p := ⟨b, off + k * 4, none⟩) hbl1).trans k0, ((hbR).cell (p := ⟨b, off + k * 4 + 1, none⟩) hbl1).trans k1, ((hbR).cell (p := ⟨b, off + k * 4 + 2, none⟩) hbl1).trans k2, ((hbR).cell (p := ⟨b, off + k * 4 + 3, none⟩) hbl1).trans k3, ((hbR).cell (p := ⟨w.heap.size, 0, none⟩) zb1).trans p0, ((hbR).cell (p := ⟨w.heap.size, 1, none⟩) zb1).trans p1, ((hbR).cell (p := ⟨w.heap.size, 2, none⟩) zb1).trans p2, ((hbR).cell (p := ⟨w.heap.size, 3, none⟩) zb1).trans p3⟩) (fun hHeld => ?_)
          clear hK K
          (try simp only [Act.put, List.setIfInBounds_toArray, List.set_cons_zero, List.set_cons_succ])
          refine wpAnyH_take (i := 9) (oi := ?_) (v := ?_) ?_ ?_ ?_ ?_ ?_ ?_ (by exact hHeld) ?_
          rotate_left 2
          · (simp only [List.getElem?_toArray, List.getElem?_cons_zero, List.getElem?_cons_succ]; try rfl)
          · kernel_rfl
          · kernel_rfl
          · kernel_rfl
          · exact fun _ _ _ h => h
          · refine Or.inl ⟨by rfl, ?_⟩
            (intro V hSV; (try dsimp only at hSV); obtain ⟨q0, q1, q2, q3, q4, q5, q6, q7⟩ := hSV; go_simp; try with_reducible rfl)
          (try simp only [Act.put, List.setIfInBounds_toArray, List.set_cons_zero, List.set_cons_succ])
          refine wpAnyH_done (by kernel_rfl) ?_ _
          clear hHeld
          have HOW := Lib.hid (HOW.out.below hbw2)
          have HBX := Lib.hid (HBX.out.below hbw2)
          have HB := Lib.hid (below_then HB.out hbw2)
          clear k0 k1 k2 k3 p0 p1 p2 p3 hbR hbw2
          have k0 := (HB.out.cell (p := ⟨b, off + k * 4, none⟩) hbw).trans m0
          have k1 := (HB.out.cell (p := ⟨b, off + k * 4 + 1, none⟩) hbw).trans m1
          have k2 := (HB.out.cell (p := ⟨b, off + k * 4 + 2, none⟩) hbw).trans m2
          have k3 := (HB.out.cell (p := ⟨b, off + k * 4 + 3, none⟩) hbw).trans m3
          have p0 := HBX.out.cell 0
          have p1 := HBX.out.cell 1
          have p2 := HBX.out.cell 2
          have p3 := HBX.out.cell 3
          cases gg
          · have hst := HP.out.less hlt HSN.out (by rw [HEK.out]; exact HG2.out)
            rw [HEK.out] at hst
            have HST := Lib.hid hst
            clear hst
            have how2 := HOW.out.below ((Below.refl w2.heap.size w2).alloc (Nat.le_refl _) (.cells (leC (x0, y0, s0, t0)) 43))
            have hnew := ll_new w2 HIN0.out
            have hzz := HBX.out.lt
            have hzz2 : ∀ r, w.heap.size + 1 ≤ (w2.alloc (.cells (leC r) 43)).heap.size := fun r => by simp; omega
            have hol2 : (out).length ≤ 2 * k + 1 := by first | omega | (simp; omega)
            generalize hOUT : out = OUT at *
            have hc1 : OUT.length + [((x0, y0, s0, t0) : Le)].length ≤ 1000000 := by simp; omega
            have hc2 := hzz2 (x0, y0, s0, t0)
            go_wp2_with (at_builtin; go_must (refine wpList_app_le rfl _ _ rfl (w.heap.size + 1) _ OUT [(x0, y0, s0, t0)] _ 1 1 rfl rfl rfl how2 hnew hc1 hc2 ?_))
            intro v4 w4 hown4 hg4 _
            obtain ⟨hbx4, hb4⟩ := after_app HBX.out HOW.out HB.out _ hg4
            subst hOUT
            have HOW := Lib.hid hown4
            have HBX := Lib.hid hbx4
            have HB := Lib.hid hb4
            clear hown4 hg4 hbx4 hb4 how2 hnew hzz hzz2 hc1 hc2 hol2 k0 k1 k2 k3 p0 p1 p2 p3
            go_wp2
            go_roundw
            case rel => exact ⟨k + 1, _, out ++ [(x0, y0, s0, t0)], false, T, by omega, by go_num, rfl, rfl, hiT, by simp; omega, HST, HBX.out, HOW.out, HB.out⟩
            case measure => simp [intOf]; omega
          · have hst := HP.out.more0 hlt (by rw [HEK.out]; exact HG2.out)
            rw [HEK.out] at hst
            have HST := Lib.hid hst
            clear hst
            have how2 := HOW.out.below ((Below.refl w2.heap.size w2).alloc (Nat.le_refl _) (.cells (leC (0, 0, 0, 0)) 43))
            have hnew := ll_new w2 zero_in
            have hzz := HBX.out.lt
            have hzz2 : ∀ r, w.heap.size + 1 ≤ (w2.alloc (.cells (leC r) 43)).heap.size := fun r => by simp; omega
            have hol2 : (out).length ≤ 2 * k + 1 := by first | omega | (simp; omega)
            generalize hOUT : out = OUT at *
            have hc1 : OUT.length + [((0, 0, 0, 0) : Le)].length ≤ 1000000 := by simp; omega
            have hc2 := hzz2 (0, 0, 0, 0)
            go_wp2_with (at_builtin; go_must (refine wpList_app_le rfl _ _ rfl (w.heap.size + 1) _ OUT [(0, 0, 0, 0)] _ 1 1 rfl rfl rfl how2 hnew hc1 hc2 ?_))
            intro v4 w4 hown4 hg4 _
            obtain ⟨hbx4, hb4⟩ := after_app HBX.out HOW.out HB.out _ hg4
            subst hOUT
            have HOW := Lib.hid hown4
            have HBX := Lib.hid hbx4
            have HB := Lib.hid hb4
            clear hown4 hg4 hbx4 hb4 how2 hnew hzz hzz2 hc1 hc2 hol2 k0 k1 k2 k3 p0 p1 p2 p3
            have k0 := (HB.out.cell (p := ⟨b, off + k * 4, none⟩) hbw).trans m0
            have k1 := (HB.out.cell (p := ⟨b, off + k * 4 + 1, none⟩) hbw).trans m1
            have k2 := (HB.out.cell (p := ⟨b, off + k * 4 + 2, none⟩) hbw).trans m2
            have k3 := (HB.out.cell (p := ⟨b, off + k * 4 + 3, none⟩) hbw).trans m3
            have p0 := HBX.out.cell 0
            have p1 := HBX.out.cell 1
            have p2 := HBX.out.cell 2
            have p3 := HBX.out.cell 3
            have how2 := HOW.out.below ((Below.refl w4.heap.size w4).alloc (Nat.le_refl _) (.cells (leC (x0, y0, s0, t0)) 43))
            have hnew := ll_new w4 HIN0.out
            have hzz := HBX.out.lt
            have hzz2 : ∀ r, w.heap.size + 1 ≤ (w4.alloc (.cells (leC r) 43)).heap.size := fun r => by simp; omega
            have hol2 : (out ++ [(0, 0, 0, 0)]).length ≤ 2 * k + 1 := by first | omega | (simp; omega)
            generalize hOUT : out ++ [(0, 0, 0, 0)] = OUT at *
            have hc1 : OUT.length + [((x0, y0, s0, t0) : Le)].length ≤ 1000000 := by simp; omega
            have hc2 := hzz2 (x0, y0, s0, t0)
            go_wp2_with (at_builtin; go_must (refine wpList_app_le rfl _ _ rfl (w.heap.size + 1) _ OUT [(x0, y0, s0, t0)] _ 1 1 rfl rfl rfl how2 hnew hc1 hc2 ?_))
            intro v5 w5 hown4 hg4 _
            obtain ⟨hbx4, hb4⟩ := after_app HBX.out HOW.out HB.out _ hg4
            subst hOUT
            have HOW := Lib.hid hown4
            have HBX := Lib.hid hbx4
            have HB := Lib.hid hb4
            clear hown4 hg4 hbx4 hb4 how2 hnew hzz hzz2 hc1 hc2 hol2 k0 k1 k2 k3 p0 p1 p2 p3
            go_wp2
            go_roundw
            case rel => exact ⟨k + 1, _, (out ++ [(0, 0, 0, 0)]) ++ [(x0, y0, s0, t0)], true, T, by omega, by go_num, rfl, rfl, hiT, by simp; omega, HST, HBX.out, HOW.out, HB.out⟩
            case measure => simp [intOf]; omega
        · have hst := HP.out.more1 hlt HSR.out HSN.out
          rw [HEK.out] at hst
          have HST := Lib.hid hst
          clear hst
          go_wp2_with fail
          refine wp_region_held_drew (S := (fun V => V.cell? ⟨b, off + k * 4, none⟩ = some (.int .i64 x0) ∧ V.cell? ⟨b, off + k * 4 + 1, none⟩ = some (.int .i64 y0) ∧ V.cell? ⟨b, off + k * 4 + 2, none⟩ = some (.int .i64 s0) ∧ V.cell? ⟨b, off + k * 4 + 3, none⟩ = some (.int .i64 t0) ∧ V.cell? ⟨w.heap.size, 0, none⟩ = some (.int .i64 x) ∧ V.cell? ⟨w.heap.size, 1, none⟩ = some (.int .i64 y) ∧ V.cell? ⟨w.heap.size, 2, none⟩ = some (.int .i64 s) ∧ V.cell? ⟨w.heap.size, 3, none⟩ = some (.int .i64 T))) (by kernel_rfl) (by exact ⟨k0, k1, k2, k3, p0, p1, p2, p3⟩) (fun hHeld => ?_)
          refine wpAnyH_take (i := 0) (oi := ?_) (v := ?_) ?_ ?_ ?_ ?_ ?_ ?_ (by exact hHeld) ?_
          rotate_left 2
          · (simp only [List.getElem?_toArray, List.getElem?_cons_zero]; try rfl)
          · kernel_rfl
          · kernel_rfl
          · kernel_rfl
          · exact fun _ _ _ h => h
          · refine Or.inl ⟨by rfl, ?_⟩
            (intro V hSV; (try dsimp only at hSV); obtain ⟨q0, q1, q2, q3, q4, q5, q6, q7⟩ := hSV; go_simp; try with_reducible rfl)
          (try simp only [Act.put, List.setIfInBounds_toArray, List.set_cons_zero, List.set_cons_succ])
          refine wpAnyH_take (i := 1) (oi := ?_) (v := ?_) ?_ ?_ ?_ ?_ ?_ ?_ (by exact hHeld) ?_
          rotate_left 2
          · (simp only [List.getElem?_toArray, List.getElem?_cons_zero, List.getElem?_cons_succ]; try rfl)
          · kernel_rfl
          · kernel_rfl
          · kernel_rfl
          · exact fun _ _ _ h => h
          · refine Or.inl ⟨by rfl, ?_⟩
            (intro V hSV; (try dsimp only at hSV); obtain ⟨q0, q1, q2, q3, q4, q5, q6, q7⟩ := hSV; go_simp; try with_reducible rfl)
          (try simp only [Act.put, List.setIfInBounds_toArray, List.set_cons_zero, List.set_cons_succ])
          refine wpAnyH_take (i := 2) (oi := ?_) (v := ?_) ?_ ?_ ?_ ?_ ?_ ?_ (by exact hHeld) ?_
          rotate_left 2
          · (simp only [List.getElem?_toArray, List.getElem?_cons_zero, List.getElem?_cons_succ]; try rfl)
          · kernel_rfl
          · kernel_rfl
          · kernel_rfl
          · exact fun _ _ _ h => h
          · refine Or.inl ⟨by rfl, ?_⟩
            (intro V hSV; (try dsimp only at hSV); obtain ⟨q0, q1, q2, q3, q4, q5, q6, q7⟩ := hSV; go_simp; try with_reducible rfl)
          (try simp only [Act.put, List.setIfInBounds_toArray, List.set_cons_zero, List.set_cons_succ])
          refine wpAnyH_take (i := 3) (oi := ?_) (v := undef) ?_ ?_ ?_ ?_ ?_ ?_ (by exact hHeld) ?_
          rotate_left 1
          · (simp only [List.getElem?_toArray, List.getElem?_cons_zero, List.getElem?_cons_succ]; try rfl)
          · kernel_rfl
          · kernel_rfl
          · kernel_rfl
          · exact fun _ _ _ h => h
          · refine Or.inr ?_
            exact ⟨by rfl, rfl⟩
          (try simp only [Act.put, List.setIfInBounds_toArray, List.set_cons_zero, List.set_cons_succ])
          refine wpAnyH_take (i := 4) (oi := ?_) (v := undef) ?_ ?_ ?_ ?_ ?_ ?_ (by exact hHeld) ?_
          rotate_left 1
          · (simp only [List.getElem?_toArray, List.getElem?_cons_zero, List.getElem?_cons_succ]; try rfl)
          · kernel_rfl
          · kernel_rfl
          · kernel_rfl
          · exact fun _ _ _ h => h
          · refine Or.inr ?_
            exact ⟨by rfl, rfl⟩
          (try simp only [Act.put, List.setIfInBounds_toArray, List.set_cons_zero, List.set_cons_succ])
          refine wpAnyH_take (i := 5) (oi := ?_) (v := undef) ?_ ?_ ?_ ?_ ?_ ?_ (by exact hHeld) ?_
          rotate_left 1
          · (simp only [List.getElem?_toArray, List.getElem?_cons_zero, List.getElem?_cons_succ]; try rfl)
          · kernel_rfl
          · kernel_rfl
          · kernel_rfl
          · exact fun _ _ _ h => h
          · refine Or.inr ?_
            exact ⟨by rfl, rfl⟩
          (try simp only [Act.put, List.setIfInBounds_toArray, List.set_cons_zero, List.set_cons_succ])
          refine wpAnyH_take (i := 6) (oi := ?_) (v := undef) ?_ ?_ ?_ ?_ ?_ ?_ (by exact hHeld) ?_
          rotate_left 1
          · (simp only [List.getElem?_toArray, List.getElem?_cons_zero, List.getElem?_cons_succ]; try rfl)
          · kernel_rfl
          · kernel_rfl
          · kernel_rfl
          · exact fun _ _ _ h => h
          · refine Or.inr ?_
            exact ⟨by rfl, rfl⟩
          (try simp only [Act.put, List.setIfInBounds_toArray, List.set_cons_zero, List.set_cons_succ])
          refine wpAnyH_take (i := 7) (oi := ?_) (v := undef) ?_ ?_ ?_ ?_ ?_ ?_ (by exact hHeld) ?_
          rotate_left 1
          · (simp only [List.getElem?_toArray, List.getElem?_cons_zero, List.getElem?_cons_succ]; try rfl)
          · kernel_rfl
          · kernel_rfl
          · kernel_rfl
          · exact fun _ _ _ h => h
          · refine Or.inr ?_
            exact ⟨by rfl, rfl⟩
          (try simp only [Act.put, List.setIfInBounds_toArray, List.set_cons_zero, List.set_cons_succ])
          refine wpAnyH_take (i := 8) (oi := ?_) (v := undef) ?_ ?_ ?_ ?_ ?_ ?_ (by exact hHeld) ?_
          rotate_left 1
          · (simp only [List.getElem?_toArray, List.getElem?_cons_zero, List.getElem?_cons_succ]; try rfl)
          · kernel_rfl
          · kernel_rfl
          · kernel_rfl
          · exact fun _ _ _ h => h
          · refine Or.inr ?_
            exact ⟨by rfl, rfl⟩
          (try simp only [Act.put, List.setIfInBounds_toArray, List.set_cons_zero, List.set_cons_succ])
          refine wpAnyH_take (i := 9) (oi := ?_) (v := ?_) ?_ ?_ ?_ ?_ ?_ ?_ (by exact hHeld) ?_
          rotate_left 2
          · (simp only [List.getElem?_toArray, List.getElem?_cons_zero, List.getElem?_cons_succ]; try rfl)
          · kernel_rfl
          · kernel_rfl
          · kernel_rfl
          · exact fun _ _ _ h => h
          · refine Or.inl ⟨by rfl, ?_⟩
            (intro V hSV; (try dsimp only at hSV); obtain ⟨q0, q1, q2, q3, q4, q5, q6, q7⟩ := hSV; go_simp; try with_reducible rfl)
          (try simp only [Act.put, List.setIfInBounds_toArray, List.set_cons_zero, List.set_cons_succ])
          refine wpAnyH_done (by kernel_rfl) ?_ _
          clear hHeld
          have HOW := Lib.hid (HOW.out.below ((Below.refl w1.heap.size w1).drew))
          have HBX := Lib.hid (HBX.out.below ((Below.refl w1.heap.size w1).drew))
          have HB := Lib.hid (below_then HB.out ((Below.refl w1.heap.size w1).drew))
          clear k0 k1 k2 k3 p0 p1 p2 p3
          generalize w1.drew = w2 at *
          have k0 := (HB.out.cell (p := ⟨b, off + k * 4, none⟩) hbw).trans m0
          have k1 := (HB.out.cell (p := ⟨b, off + k * 4 + 1, none⟩) hbw).trans m1
          have k2 := (HB.out.cell (p := ⟨b, off + k * 4 + 2, none⟩) hbw).trans m2
          have k3 := (HB.out.cell (p := ⟨b, off + k * 4 + 3, none⟩) hbw).trans m3
          have p0 := HBX.out.cell 0
          have p1 := HBX.out.cell 1
          have p2 := HBX.out.cell 2
          have p3 := HBX.out.cell 3
          have how2 := HOW.out.below ((Below.refl w2.heap.size w2).alloc (Nat.le_refl _) (.cells (leC (x0, y0, s0, t0)) 43))
          have hnew := ll_new w2 HIN0.out
          have hzz := HBX.out.lt
          have hzz2 : ∀ r, w.heap.size + 1 ≤ (w2.alloc (.cells (leC r) 43)).heap.size := fun r => by simp; omega
          have hol2 : (out).length ≤ 2 * k + 1 := by first | omega | (simp; omega)
          generalize hOUT : out = OUT at *
          have hc1 : OUT.length + [((x0, y0, s0, t0) : Le)].length ≤ 1000000 := by simp; omega
          have hc2 := hzz2 (x0, y0, s0, t0)
          go_wp2_with (at_builtin; go_must (refine wpList_app_le rfl _ _ rfl (w.heap.size + 1) _ OUT [(x0, y0, s0, t0)] _ 1 1 rfl rfl rfl how2 hnew hc1 hc2 ?_))
          intro v4 w4 hown4 hg4 _
          obtain ⟨hbx4, hb4⟩ := after_app HBX.out HOW.out HB.out _ hg4
          subst hOUT
          have HOW := Lib.hid hown4
          have HBX := Lib.hid hbx4
          have HB := Lib.hid hb4
          clear hown4 hg4 hbx4 hb4 how2 hnew hzz hzz2 hc1 hc2 hol2 k0 k1 k2 k3 p0 p1 p2 p3
          go_wp2
          go_roundw
          case rel => exact ⟨k + 1, _, out ++ [(x0, y0, s0, t0)], true, T, by omega, by go_num, rfl, rfl, hiT, by simp; omega, HST, HBX.out, HOW.out, HB.out⟩
          case measure => simp [intOf]; omega
      · have hst := HP.out.same hlt (by rw [HEK.out]; exact HQ2.out)
        rw [HEK.out, max_if] at hst
        have HST := Lib.hid hst
        have f3 := HBX.out.frozen 3
        obtain ⟨mx, hmx⟩ : ∃ m, (if T < t0 then t0 else T) = m := ⟨_, rfl⟩
        have hk3' : ∀ u, (w1.setCell ⟨w.heap.size, 3, none⟩ u).drew.cell? ⟨b, off + k * 4 + 3, none⟩ = some (.int .i64 t0) := fun u => (cell_other u (by show b ≠ w.heap.size; omega)).trans k3
        have hiM : isI mx := by
          rw [← hmx]
          split
          · exact HIN0.out.2.2.2
          · exact hiT
        rw [hmx] at HST
        have HMX := Lib.hid hmx
        have hkp := (Keeps.refl [w.heap.size] w1).put (List.mem_singleton.2 rfl) 3 (.int .i64 (if T < t0 then t0 else T))
        have hd9 : Below (w1.setCell ⟨w.heap.size, 3, none⟩ (.int .i64 (if T < t0 then t0 else T))).heap.size (w1.setCell ⟨w.heap.size, 3, none⟩ (.int .i64 (if T < t0 then t0 else T))) (w1.setCell ⟨w.heap.size, 3, none⟩ (.int .i64 (if T < t0 then t0 else T))).drew := (Below.refl _ _).drew
        have HOW2 := Lib.hid ((HOW.out.keeps hkp (fun k hk => by
          have := (HOW.out.range k hk).1
          simp
          omega)).below hd9)
        have HB2 := Lib.hid ((HB.out.trans (hkp.below (B := w.heap.size) (by omega) (fun k hk => by simp at hk; omega))).drew)
        have HBX2 := Lib.hid ((show Blk _ w.heap.size #[.int .i64 x, .int .i64 y, .int .i64 s, .int .i64 (if T < t0 then t0 else T)] 43 by simpa using HBX.out.set 3 (.int .i64 (if T < t0 then t0 else T))).below hd9)
        clear hst hkp hd9 hmx
        go_wp2_with fail
        refine wp_region_held_drew (S := (fun V => V.cell? ⟨b, off + k * 4 + 3, none⟩ = some (.int .i64 t0))) (by kernel_rfl) (by exact k3) (fun hHeld => ?_)
        refine wpAnyH_take (i := 0) (oi := ?_) (v := ?_) ?_ ?_ ?_ ?_ ?_ ?_ (by exact hHeld) ?_
        rotate_left 2
        · (simp only [List.getElem?_toArray, List.getElem?_cons_zero]; try rfl)
        · kernel_rfl
        · kernel_rfl
        · kernel_rfl
        · exact fun _ _ _ h => h
        · refine Or.inl ⟨by rfl, ?_⟩
          (intro V hSV; (try dsimp only at hSV); have q0 := hSV; go_simp; try with_reducible rfl)
        (try simp only [Act.put, List.setIfInBounds_toArray, List.set_cons_zero, List.set_cons_succ])
        refine wpAnyH_take (i := 2) (oi := ?_) (v := ?_) ?_ ?_ ?_ ?_ ?_ ?_ (by exact hHeld) ?_
        rotate_left 2
        · (simp only [List.getElem?_toArray, List.getElem?_cons_zero, List.getElem?_cons_succ]; try rfl)
        · kernel_rfl
        · kernel_rfl
        · kernel_rfl
        · exact fun _ _ _ h => h
        · refine Or.inl ⟨by rfl, ?_⟩
          (intro V hSV; (try dsimp only at hSV); have q0 := hSV; go_simp; try with_reducible rfl)
        (try simp only [Act.put, List.setIfInBounds_toArray, List.set_cons_zero, List.set_cons_succ])
        refine wpAnyH_take (i := 3) (oi := ?_) (v := ?_) ?_ ?_ ?_ ?_ ?_ ?_ (by exact hHeld) ?_
        rotate_left 2
        · (simp only [List.getElem?_toArray, List.getElem?_cons_zero, List.getElem?_cons_succ]; try rfl)
        · kernel_rfl
        · kernel_rfl
        · kernel_rfl
        · exact fun _ _ _ h => h
        · refine Or.inl ⟨by rfl, ?_⟩
          (intro V hSV; (try dsimp only at hSV); have q0 := hSV; go_simp; try with_reducible rfl)
        (try simp only [Act.put, List.setIfInBounds_toArray, List.set_cons_zero, List.set_cons_succ])
        refine wpAnyH_take (i := 4) (oi := ?_) (v := ?_) ?_ ?_ ?_ ?_ ?_ ?_ (by exact hHeld) ?_
        rotate_left 2
        · (simp only [List.getElem?_toArray, List.getElem?_cons_zero, List.getElem?_cons_succ]; try rfl)
        · kernel_rfl
        · kernel_rfl
        · kernel_rfl
        · exact fun _ _ _ h => h
        · refine Or.inl ⟨by rfl, ?_⟩
          (intro V hSV; (try dsimp only at hSV); have q0 := hSV; go_simp; try with_reducible rfl)
        (try simp only [Act.put, List.setIfInBounds_toArray, List.set_cons_zero, List.set_cons_succ])
        refine wpAnyH_take (i := 5) (oi := ?_) (v := ?_) ?_ ?_ ?_ ?_ ?_ ?_ (by exact hHeld) ?_
        rotate_left 2
        · (simp only [List.getElem?_toArray, List.getElem?_cons_zero, List.getElem?_cons_succ]; try rfl)
        · kernel_rfl
        · kernel_rfl
        · kernel_rfl
        · exact fun _ _ _ h => h
        · refine Or.inl ⟨by rfl, ?_⟩
          (intro V hSV; (try dsimp only at hSV); have q0 := hSV; go_simp; try with_reducible rfl)
        (try simp only [Act.put, List.setIfInBounds_toArray, List.set_cons_zero, List.set_cons_succ])
        refine wpAnyH_take (i := 6) (oi := ?_) (v := ?_) ?_ ?_ ?_ ?_ ?_ ?_ (by exact hHeld) ?_
        rotate_left 2
        · (simp only [List.getElem?_toArray, List.getElem?_cons_zero, List.getElem?_cons_succ]; try rfl)
        · kernel_rfl
        · kernel_rfl
        · kernel_rfl
        · exact fun _ _ _ h => h
        · refine Or.inl ⟨by rfl, ?_⟩
          (intro V hSV; (try dsimp only at hSV); have q0 := hSV; go_simp; try with_reducible rfl)
        (try simp only [Act.put, List.setIfInBounds_toArray, List.set_cons_zero, List.set_cons_succ])
        refine wpAnyH_ready (rs := [1]) (by kernel_rfl) (by simp) ?_
        refine AllReadyH.cons (o := ?_) ?_ (fun K hK => ?_) AllReadyH.nil
        rotate_left 1
        · (simp only [List.getElem?_toArray, List.getElem?_cons_zero, List.getElem?_cons_succ]; try rfl)
        go_simp
        refine hK.out _ _ (by exact k3) (fun hHeld => ?_)
        clear hK K
        (try simp only [Act.put, List.setIfInBounds_toArray, List.set_cons_zero, List.set_cons_succ])
        refine wpAnyH_take (i := 7) (oi := ?_) (v := ?_) ?_ ?_ ?_ ?_ ?_ ?_ (by exact hHeld) ?_
        rotate_left 2
        · (simp only [List.getElem?_toArray, List.getElem?_cons_zero, List.getElem?_cons_succ]; try rfl)
        · kernel_rfl
        · kernel_rfl
        · kernel_rfl
        · exact fun _ _ _ h => h
        · refine Or.inl ⟨by rfl, ?_⟩
          (intro V hSV; (try dsimp only at hSV); have q0 := hSV; go_simp; try with_reducible rfl)
        (try simp only [Act.put, List.setIfInBounds_toArray, List.set_cons_zero, List.set_cons_succ])
        refine wpAnyH_take (i := 8) (oi := ?_) (v := ?_) ?_ ?_ ?_ ?_ ?_ ?_ (by exact hHeld) ?_
        rotate_left 2
        · (simp only [List.getElem?_toArray, List.getElem?_cons_zero, List.getElem?_cons_succ]; try rfl)
        · kernel_rfl
        · kernel_rfl
        · kernel_rfl
        · exact fun _ _ _ h => h
        · refine Or.inl ⟨by rfl, ?_⟩
          (intro V hSV; (try dsimp only at hSV); have q0 := hSV; go_simp; try with_reducible rfl)
        (try simp only [Act.put, List.setIfInBounds_toArray, List.set_cons_zero, List.set_cons_succ])
        refine wpAnyH_ready (rs := [9]) (by kernel_rfl) (by simp) ?_
        refine AllReadyH.cons (o := ?_) ?_ (fun K hK => ?_) AllReadyH.nil
        rotate_left 1
        · (simp only [List.getElem?_toArray, List.getElem?_cons_zero, List.getElem?_cons_succ]; try rfl)
        go_simp
        refine hK.out _ _ (by exact hk3' _) (fun hHeld => ?_)
        clear hK K
        (try simp only [Act.put, List.setIfInBounds_toArray, List.set_cons_zero, List.set_cons_succ])
        refine wpAnyH_done (by kernel_rfl) ?_ _
        clear hHeld
        generalize (w1.setCell ⟨w.heap.size, 3, none⟩ (.int .i64 (if T < t0 then t0 else T))).drew = w2 at *
        have HMM := HMX.out
        rw [HMM] at HBX2
        go_wp2
        go_roundw
        case rel => exact ⟨k + 1, _, out, bb, mx, by omega, by go_num, rfl, rfl, hiM, by omega, HST, HBX2.out, HOW2.out, HB2.out⟩
        case measure => simp [intOf]; omega
    · have e : k = es.length := by omega
      subst e
      have hki : ¬ (es.length : Int) < (es.length : Int) := by omega
      have p0 := hbx3.cell 0
      have p1 := hbx3.cell 1
      have p2 := hbx3.cell 2
      have p3 := hbx3.cell 3
      clear hown3 hbx3 hb
      cases bb
      · have hst := HP.out.done0
        have hinT : leIn (x, y, s, T) := ⟨hix.out.1, hix.out.2.1, hix.out.2.2, hiT⟩
        have how2 := HOW.out.below ((Below.refl wr.heap.size wr).alloc (Nat.le_refl _) (.cells (leC (x, y, s, T)) 43))
        have hnew := ll_new wr hinT
        have hzz := HBX.out.lt
        have HST := Lib.hid hst
        have hc1 : out.length + [((x, y, s, T) : Le)].length ≤ 1000000 := by simp; omega
        have hc2 : w.heap.size + 1 ≤ (wr.alloc (.cells (leC (x, y, s, T)) 43)).heap.size := by simp; omega
        clear hst hinT
        go_wp2_with (at_builtin; go_must (refine wpList_app_le rfl _ _ rfl (w.heap.size + 1) _ out [(x, y, s, T)] _ 1 1 rfl rfl rfl how2 hnew hc1 hc2 ?_))
        intro v4 w4 hown4 hg4 _
        obtain ⟨hbx4, hb4⟩ := after_app HBX.out HOW.out HB.out _ hg4
        rw [show out ++ [(x, y, s, T)] = putM es (x, y, s, t) from HST.out] at hown4
        have HOW := Lib.hid (hown4.mono (base' := w.heap.size) (by omega))
        have HB := Lib.hid hb4
        clear hown4 hg4 hbx4 hb4 how2 hnew p0 p1 p2 p3
        go_wp2
        go_ret
        exact ⟨_, rfl, HOW.out, HB.out⟩
      · obtain ⟨ho, hp⟩ := HP.out.done1
        obtain ⟨L, hL⟩ : ∃ L, es.filter (fun x_1 => leLess x_1 (x, y, s, t)) = L := ⟨_, rfl⟩
        obtain ⟨M, hM⟩ : ∃ M, es.filter (fun x_1 => leLess (x, y, s, t) x_1) = M := ⟨_, rfl⟩
        have hLr : ∀ l ∈ L, leRight l = true := fun l hl => HRT.out l (List.mem_filter.1 (by rw [hL]; exact hl)).1
        have hMr : ∀ l ∈ M, leRight l = true := fun l hl => HRT.out l (List.mem_filter.1 (by rw [hM]; exact hl)).1
        have hinT : leIn (x, y, s, T) := ⟨hix.out.1, hix.out.2.1, hix.out.2.2, hiT⟩
        rw [hL, hM] at ho hp
        have hres : putM es (x, y, s, t) = keptAt L M (x, y, s, T) (L.length + 1 + M.length) := by
          rw [hp]; unfold keptAt; rw [if_neg (by omega)]; rfl
        have ho2 : out = keptAt L M (x, y, s, T) 0 := by
          rw [ho]; unfold keptAt; rw [if_pos (by omega)]
        have hln : out.length = L.length + 1 + M.length := by rw [ho2, keptAt_length]
        rw [ho2] at HOW
        obtain ⟨n, hn⟩ : ∃ n, L.length + 1 + M.length = n := ⟨_, rfl⟩
        have HKL := Lib.hid (show ∀ j, (keptAt L M (x, y, s, T) j).length = n from fun j => by rw [keptAt_length, hn])
        rw [hn] at hres
        have HRES := Lib.hid hres
        have HLR := Lib.hid hLr
        have HMR := Lib.hid hMr
        have HIN := Lib.hid hinT
        have hln2 : n ≤ 2 * es.length := by omega
        have HNL := Lib.hid (show L.length + 1 ≤ n by omega)
        obtain ⟨A2, c2, hv2, _⟩ := HOW.out.owL
        rw [HKL.out] at hv2
        clear hn ho hp hL hM hLr hMr hinT hres ho2 hln p0 p1 p2 p3 HP
        subst hv2
        go_wp2
        go_loopw [8] (fun i wr => ∃ j : Nat, j ≤ n ∧ i = .int .i64 j ∧ Blk wr w.heap.size #[.int .i64 x, .int .i64 y, .int .i64 s, .int .i64 T] 43 ∧ OwR wr (w.heap.size + 1) (.slice A2 (n) c2) (keptAt L M (x, y, s, T) j) ∧ Below w.heap.size w wr)
          (fun i _ => n - (intOf i).toNat)
        case atStart => exact ⟨0, Nat.zero_le _, rfl, HBX.out, HOW.out, HB.out⟩
        case round =>
          obtain ⟨j, hj, rfl, hbx5, hown5, hb5⟩ := hrel
          have HB5 := Lib.hid hb5
          have HOW5 := Lib.hid hown5
          by_cases hlt : j < n
          · have hjk : j < (keptAt L M (x, y, s, T) j).length := by rw [HKL.out]; exact hlt
            have hz := keptAt_zero hjk HLR.out HMR.out
            obtain ⟨A9, c9, e9, _, _, hA9⟩ := hown5.ll
            simp only [Value.slice.injEq] at e9
            obtain ⟨rfl, -, rfl⟩ := e9
            obtain ⟨b9, off9, x9, y9, s9, t9, e9, hbl9, hek9, k0, k1, k2, k3, _⟩ := hA9.at_ j hjk
            rw [hek9] at hz
            have hj0 : (0 : Int) ≤ (j : Int) := by omega
            have hj1 : (j : Int) < (n : Int) := by omega
            have HZ := Lib.hid hz
            clear hz hek9
            by_cases hs0 : s9 = 0
            · have hjL := HZ.out.1 hs0
              obtain ⟨g, cap, cur, hA, hbg, hB9⟩ : ∃ g cap cur, A2 = some ⟨g, 0, none⟩ ∧ c2 = cap ∧ Blk wr g cur 43 := by
                rcases hown5.row.2 with ⟨e, h0⟩ | ⟨g', cap, cur, e, _, hh9, _⟩
                · rw [HKL.out] at h0; omega
                · rw [HKL.out] at e; cases e; exact ⟨g', _, cur, rfl, rfl, hh9⟩
              subst hA hbg
              simp only [Option.some.injEq, Addr.mk.injEq, and_true] at e9
              obtain ⟨hgb, hof⟩ := e9
              subst hof
              rw [← hgb] at k0 k1 k2 k3
              have hown6 : OwR wr (w.heap.size + 1) (.slice (some ⟨g, 0, none⟩) (keptAt L M (x, y, s, T) j).length c2) (keptAt L M (x, y, s, T) j) := by rw [HKL.out]; exact hown5
              have hset := hown6.set4 j hjk x y s T HIN.out
              rw [HKL.out] at hset
              rw [hjL, ← keptAt_put, ← hjL] at hset
              have hgs := grown_set4 (World.grownBy.refl wr (some g)) j (.int .i64 x) (.int .i64 y) (.int .i64 s) (.int .i64 T)
              have hgne : g ≠ w.heap.size := by
                have := (hown5.range g (by simp [Value.ownBlock])).1
                omega
              have hkg := Keeps.of_grown hgs
              have hbx6 := hbx5.of_block (hkg.block w.heap.size hbx5.lt (by simp [Value.ownBlock]; omega))
              have hz6 := hb5.size
              have hb6 := hb5.trans (hkg.below (B := w.heap.size) (by omega) (fun k hk => by
                have := (hown5.range g (by simp [Value.ownBlock])).1
                simp at hk
                omega))
              have p0 := hbx5.cell 0
              have p1 := hbx5.cell 1
              have p2 := hbx5.cell 2
              have p3 := hbx5.cell 3
              have f0 := hB9.frozen (j * 4)
              have f1 := hB9.frozen (j * 4 + 1)
              have f2 := hB9.frozen (j * 4 + 2)
              have f3 := hB9.frozen (j * 4 + 3)
              simp only [Nat.zero_add] at k0 k1 k2 k3
              have HS := Lib.hid hset
              have HBX6 := Lib.hid hbx6
              have HB6 := Lib.hid hb6
              clear hjL hgb hset hgs hkg hbx6 hb6 hown6 hown5 hbx5 hb5 hB9 hA9
              subst hs0
              go_wp2
              go_roundw
              case rel => exact ⟨j + 1, by omega, by go_num, HBX6.out, HS.out, HB6.out⟩
              case measure => simp [intOf]; omega
            · have hjL : ¬ j = L.length := fun h => hs0 (HZ.out.2 h)
              have he := keptAt_next (M := M) (l := (x, y, s, T)) hjL
              have hs1 : (s9 == 0) = false := beq_eq_false_iff_ne.2 hs0
              have HOW6 := HOW5
              rw [← he] at HOW6
              have HBX6 := Lib.hid hbx5
              clear he hown5 hbx5 hb5 hA9
              go_wp2
              go_roundw
              case rel => exact ⟨j + 1, by omega, by go_num, HBX6.out, HOW6.out, HB5.out⟩
              case measure => simp [intOf]; omega
          · have e : j = n := by omega
            subst e
            rw [← HRES.out] at HOW5
            clear hown5 hbx5 hb5
            go_wp2
            go_ret
            exact ⟨_, rfl, HOW5.out.mono (by omega), HB5.out⟩
end Go.Proofs.Ytgpjjolgpppeeaa
