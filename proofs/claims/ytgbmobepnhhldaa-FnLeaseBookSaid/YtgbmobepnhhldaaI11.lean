/-
  Chapter 7, LeaseAll in the program: contract. Own work.
-/
import Derived.Test.YtgbmobepnhhldaaS11
import Derived.Test.YtgbmobepnhhldaaS10
namespace Go.Proofs.Ytgbmobepnhhldaa
open Go.RowKit P
set_option linter.unusedVariables false
set_option linter.unusedSimpArgs false
set_option maxRecDepth 100000

set_option maxHeartbeats 1000000 in
theorem notOf_any (i j s t a : Int) (g : Nat) (w : World) (hB : Blk w g #[.int .i64 a] 3) :
    Calls Try.prog 60 #[.agg #[.int .i64 i, .int .i64 j, .int .i64 s, .int .i64 t], .pointer (some ⟨g, 0, none⟩)] w fun e w' => e = .returned (.bool (!decide (s = a))) ∧ Below w.heap.size w w' := by
  have hal := (Below.refl w.heap.size w).alloc (Nat.le_refl _) (.cells #[.int .i64 i, .int .i64 j, .int .i64 s, .int .i64 t] 26)
  have q0 : w.cell? ⟨g, 0, none⟩ = some (.int .i64 a) := hB.cell 0
  have q1 := hB.alloc (.cells #[.int .i64 i, .int .i64 j, .int .i64 s, .int .i64 t] 26)
  have q2 := q1.cell 0
  have q3 := (Blk.new w #[.int .i64 i, .int .i64 j, .int .i64 s, .int .i64 t] 26).cell 2
  have hne : (s != a) = !decide (s = a) := by by_cases h : s = a <;> simp [h]
  go_enter Try.func60, Try.ntmps60
  go_wp2
  go_ret
  exact ⟨ret_bool (by first | exact hne.symm | simp [hne]), hal⟩

set_option maxHeartbeats 4000000 in
theorem indexOf_any (A : Option Addr) (es : List Le) (c : Nat) (a : Int) (g : Nat) (w : World) (hl : es.length ≤ 1048576) (hA : Ll w A es) (hB : Blk w g #[.int .i64 a] 3) :
    Calls Try.prog 81 #[.slice A es.length c, .func (.func 60) #[] #[.pointer (some ⟨g, 0, none⟩)]] w fun e w' =>
      (∃ r : Int, e = .returned (.int .i64 r) ∧ ((r = -1 ∧ ∀ j (h : j < es.length), es[j].2.2.1 = a) ∨ ∃ k : Nat, r = k ∧ ∃ h : k < es.length, es[k].2.2.1 ≠ a ∧ ∀ j (h : j < k), es[j].2.2.1 = a)) ∧ Below w.heap.size w w' := by
  have hn9 : es.length ≤ 9223372036854775807 := by omega
  go_enter Try.func81, Try.ntmps81
  go_wp2
  go_loopw [8] (fun i wr => ∃ k : Nat, k ≤ es.length ∧ i = .int .i64 k ∧ (∀ j (h : j < es.length), j < k → es[j].2.2.1 = a) ∧ Below w.heap.size w wr)
    (fun i _ => es.length - (intOf i).toNat)
  case atStart => exact ⟨0, Nat.zero_le _, rfl, fun j h h2 => by omega, Below.refl _ _⟩
  case round =>
    obtain ⟨k, hk, rfl, hall, hb⟩ := hrel
    have HALL := Lib.hid hall
    clear hall
    by_cases hlt : k < es.length
    · have hki : (k : Int) < (es.length : Int) := by omega
      obtain ⟨b, off, x, y, s, t, rfl, hbl, hek, k0, k1, k2, k3, hin⟩ := (hA.below hb).at_ k hlt
      have HEK := Lib.hid hek
      have HBB := Lib.hid (hB.below hb)
      clear hek hin
      go_wp2_with fail
      refine (notOf_any x y s t a g _ (by exact HBB.out)).mono ?_
      rintro e w1 ⟨rfl, hb1⟩
      have hb9 := below_then hb hb1
      by_cases hs : s = a
      · have hd : decide (s = a) = true := decide_eq_true hs
        have HS := Lib.hid hs
        clear hs k0 k1 k2 k3
        go_wp2
        go_roundw
        case rel => exact ⟨k + 1, by omega, by go_num, fun j h h2 => by
          by_cases e : j = k
          · subst e; rw [HEK.out]; exact HS.out
          · exact HALL.out j h (by omega), hb9⟩
        case measure => simp [intOf]; omega
      · have hd : decide (s = a) = false := decide_eq_false hs
        have HS := Lib.hid hs
        clear hs k0 k1 k2 k3
        go_wp2
        go_ret
        exact ⟨⟨_, rfl, .inr ⟨k, rfl, hlt, by rw [HEK.out]; exact HS.out, fun j h => HALL.out j (by omega) h⟩⟩, hb9⟩
    · go_wp2
      go_ret
      exact ⟨⟨_, rfl, .inl ⟨rfl, fun j h => HALL.out j h (by omega)⟩⟩, hb⟩

/-- The row while leases are struck from it: what stays of the first j stands at the front, what comes is as it was. -/
structure Kept (a : Int) (es R : List Le) (i j : Nat) : Prop where
  lt : i < j
  le : j ≤ es.length
  ln : R.length = es.length
  fr : R.take i = (es.take j).filter (fun l => decide (l.2.2.1 = a))
  bk : ∀ t, j ≤ t → R[t]? = es[t]?
  in_ : ∀ l ∈ R, leIn l
theorem Kept.start {a : Int} {es : List Le} {k : Nat} (hk : k < es.length) (hn : es[k].2.2.1 ≠ a) (hall : ∀ j (h : j < k), es[j].2.2.1 = a) (hin : ∀ l ∈ es, leIn l) : Kept a es es k (k + 1) := by
  refine ⟨by omega, hk, rfl, ?_, fun _ _ => rfl, hin⟩
  rw [filter_step hk, decide_eq_false hn]
  rw [if_neg (by simp), List.append_nil]
  rw [List.filter_eq_self.2]
  intro l hl
  obtain ⟨j, hj, rfl⟩ := List.getElem_of_mem hl
  rw [List.length_take] at hj
  rw [List.getElem_take]
  exact decide_eq_true (hall j (by omega))
theorem Kept.skip {a : Int} {es R : List Le} {i j : Nat} (h : Kept a es R i j) (hj : j < es.length) (hn : es[j].2.2.1 ≠ a) : Kept a es R i (j + 1) := by
  refine ⟨by have := h.lt; omega, hj, h.ln, ?_, fun t ht => h.bk t (by omega), h.in_⟩
  rw [filter_step hj, decide_eq_false hn, if_neg (by simp), List.append_nil]
  exact h.fr
theorem Kept.keep {a : Int} {es R : List Le} {i j : Nat} (h : Kept a es R i j) (hj : j < es.length) {x y s t : Int} (he : es[j] = (x, y, s, t)) (hs : s = a) : Kept a es (R.set i (x, y, s, t)) (i + 1) (j + 1) := by
  have hij := h.lt
  have hln := h.ln
  have hi : i < R.length := by omega
  refine ⟨by omega, hj, by rw [List.length_set]; exact hln, ?_, fun u hu => ?_, fun l hl => ?_⟩
  · rw [filter_step hj, he, decide_eq_true hs, if_pos rfl, ← h.fr]
    rw [List.take_succ_eq_append_getElem (by rw [List.length_set]; exact hi), List.getElem_set_self, List.take_set_of_le (Nat.le_refl _)]
  · rw [List.getElem?_set_ne (by omega)]
    exact h.bk u (by omega)
  · rcases List.mem_or_eq_of_mem_set hl with h1 | h1
    · exact h.in_ l h1
    · subst h1
      have h2 := h.bk j (Nat.le_refl _)
      rw [List.getElem?_eq_getElem hj, he] at h2
      exact h.in_ _ (List.mem_of_getElem? h2)
theorem Kept.at_ {a : Int} {es R : List Le} {i j : Nat} (h : Kept a es R i j) (hj : j < es.length) : R[j]'(by have := h.ln; omega) = es[j] := by
  have h2 := h.bk j (Nat.le_refl _)
  rw [List.getElem?_eq_getElem hj, List.getElem?_eq_getElem (by have := h.ln; omega)] at h2
  injection h2
end Go.Proofs.Ytgbmobepnhhldaa
