/-
  Chapter 3, the laws' helpers on trees: sizes and equality, contracts. Own work.
-/
import Derived.Test.YtfbcpiipekfapaaLvl
import Derived.Outline
namespace Go.Proofs.Ytfbcpiipekfapaa
open Go.RowKit P
set_option linter.unusedVariables false

theorem flatten_take {α : Type} (l : List (List α)) (k : Nat) (h : k < l.length) : (l.take (k + 1)).flatten = (l.take k).flatten ++ l[k] := by
  rw [List.take_succ_eq_append_getElem h, List.flatten_append]; simp

set_option maxHeartbeats 400000 in
theorem szStringS_any (A : Option Addr) (l : List Str) (c : Nat) (left : Int) (w : World) (hn : l.length ≤ 9223372036854775807) (h0 : 0 ≤ left) (h1 : left ≤ 1048576) (hA : Ss w A l) :
    Calls Try.prog 121 #[.slice A l.length c, .int .i64 left] w fun e w' => (∃ r : Int, e = .returned (.int .i64 r) ∧ (r = -1 ∨ (0 ≤ r ∧ r + l.length + l.flatten.length = left))) ∧ w' = w := by
  by_cases h : left - (l.length : Int) < 0
  · go_enter Try.func121, Try.ntmps121
    go_wp2
    go_ret
    exact ⟨⟨_, rfl, .inl rfl⟩, rfl⟩
  · go_enter Try.func121, Try.ntmps121
    go_wp2
    go_loop [1, 5] (fun lf i => ∃ k : Nat, ∃ r : Int, k ≤ l.length ∧ i = .int .i64 k ∧ lf = .int .i64 r ∧ 0 ≤ r ∧ r ≤ 1048576 ∧ r + l.length + (l.take k).flatten.length = left) (fun _ i => l.length - (intOf i).toNat)
    case atStart => exact ⟨0, left - l.length, Nat.zero_le _, rfl, rfl, by omega, by omega, by simp⟩
    case round =>
      obtain ⟨k, r, hk, rfl, rfl, hr0, hr1, hr2⟩ := hrel
      by_cases hlt : k < l.length
      · obtain ⟨b, off, rfl, hbl, hc, hcl⟩ := hA.at_ k hlt
        have hf := flatten_take l k hlt
        have hfl : (l.take (k + 1)).flatten.length = (l.take k).flatten.length + (l[k]).length := by rw [hf, List.length_append]
        have HF := Lib.hid hfl
        clear hf hfl
        generalize hE : l[k] = E at *
        clear hE
        have hk0 : (k : Int) < (l.length : Int) := by omega
        unfold maxLen at hcl
        have hE9 : (⟨E.toArray⟩ : ByteArray).size = E.length := by show E.toArray.size = _; rw [List.size_toArray]
        have hcl' : E.length ≤ 9223372036854775807 := by omega
        clear hcl
        by_cases hneg : r - (E.length : Int) < 0
        · go_wp2
          go_ret
          exact ⟨⟨_, rfl, .inl rfl⟩, rfl⟩
        · go_wp2
          go_round
          case rel => exact ⟨k + 1, r - E.length, by omega, by go_num, rfl, by omega, by omega, by rw [HF.out]; omega⟩
          case measure => simp [intOf]; omega
      · have e : k = l.length := by omega
        subst e
        rw [List.take_length] at hr2
        go_wp2
        go_ret
        exact ⟨⟨_, rfl, .inr ⟨hr0, by simpa using hr2⟩⟩, rfl⟩

/-- What a level holds. -/
def lsz (l : Lv) : Nat := l.1.length + l.1.flatten.length + (l.2.length + l.2.flatten.length)

set_option maxHeartbeats 400000 in
theorem szLevel_any (A1 A2 : Option Addr) (l : Lv) (c1 c2 : Nat) (left : Int) (w : World) (hn : l.1.length ≤ 9223372036854775807) (hm : l.2.length ≤ 9223372036854775807) (h0 : 0 ≤ left) (h1 : left ≤ 1048576) (hA1 : Ss w A1 l.1) (hA2 : Ss w A2 l.2) :
    Calls Try.prog 102 #[.agg #[.slice A1 l.1.length c1, .slice A2 l.2.length c2], .int .i64 left] w fun e w' => (∃ r : Int, e = .returned (.int .i64 r) ∧ (r < 0 ∨ (0 ≤ r ∧ r + lsz l = left))) ∧ Below w.heap.size w w' := by
  obtain ⟨p, q⟩ := l
  simp only at hn hm hA1 hA2 ⊢
  have hb := (Below.refl w.heap.size w).alloc (Nat.le_refl _) (.cells #[.slice A1 p.length c1, .slice A2 q.length c2] 119)
  have hB1 := hA1.below hb
  have hB2 := hA2.below hb
  go_enter Try.func102, Try.ntmps102
  go_wp2_with fail
  refine (szStringS_any A1 p c1 left _ hn h0 h1 (by exact hB1)).mono ?_
  rintro e w1 ⟨⟨r, rfl, hr⟩, rfl⟩
  by_cases hneg : r < 0
  · go_wp2
    go_ret
    exact ⟨⟨_, rfl, .inl (by omega)⟩, hb⟩
  · have hr' : 0 ≤ r ∧ r + p.length + p.flatten.length = left := by omega
    clear hr
    go_wp2_with fail
    refine (szStringS_any A2 q c2 r _ hm (by omega) (by omega) (by exact hB2)).mono ?_
    rintro e w1 ⟨⟨s, rfl, hs⟩, rfl⟩
    by_cases hneg2 : s < 0
    · go_wp2
      go_ret
      exact ⟨⟨_, rfl, .inl (by omega)⟩, hb⟩
    · go_wp2
      go_ret
      exact ⟨⟨_, rfl, .inr ⟨by omega, by unfold lsz; simp only; omega⟩⟩, hb⟩

def lszs : List Lv → Nat
  | [] => 0
  | l :: t => lsz l + lszs t
theorem lszs_append (a b : List Lv) : lszs (a ++ b) = lszs a + lszs b := by
  induction a with
  | nil => simp [lszs]
  | cons l t ih => rw [List.cons_append, lszs, lszs, ih]; omega
theorem lszs_take (ls : List Lv) (k : Nat) (h : k < ls.length) : lszs (ls.take (k + 1)) = lszs (ls.take k) + lsz ls[k] := by
  rw [List.take_succ_eq_append_getElem h, lszs_append]; simp [lszs]
theorem lszs_mem {ls : List Lv} {l : Lv} (h : l ∈ ls) : lsz l ≤ lszs ls := by
  induction ls with
  | nil => simp at h
  | cons a t ih =>
    rw [lszs]
    rcases List.mem_cons.1 h with rfl | h
    · omega
    · have := ih h; omega
theorem small_of {ls : List Lv} (h : ls.length + lszs ls ≤ 1048576) : Small ls := by
  refine ⟨by omega, fun l hl => ?_, ?_⟩
  · have := lszs_mem hl
    unfold lsz at this
    omega
  · have : leaves ls ≤ lszs ls := by
      clear h
      induction ls with
      | nil => simp [leaves]
      | cons a t ih =>
        rw [leaves, lszs]
        have := lv_le a.1.flatten
        have := lv_le a.2.flatten
        unfold lsz
        omega
    omega

set_option maxHeartbeats 400000 in
theorem szLevelS_any (A : Option Addr) (ls : List Lv) (c : Nat) (left : Int) (w : World) (hn : ls.length ≤ 9223372036854775807) (h0 : 0 ≤ left) (h1 : left ≤ 1048576) (hA : Ls w A ls) :
    Calls Try.prog 65 #[.slice A ls.length c, .int .i64 left] w fun e w' => (∃ r : Int, e = .returned (.int .i64 r) ∧ (r < 0 ∨ (0 ≤ r ∧ r + ls.length + lszs ls = left))) ∧ Below w.heap.size w w' := by
  by_cases h : left - (ls.length : Int) < 0
  · go_enter Try.func65, Try.ntmps65
    go_wp2
    go_ret
    exact ⟨⟨_, rfl, .inl (by omega)⟩, Below.refl _ _⟩
  · go_enter Try.func65, Try.ntmps65
    go_wp2
    go_loopw [1, 5] (fun lf i wr => ∃ k : Nat, ∃ r : Int, k ≤ ls.length ∧ i = .int .i64 k ∧ lf = .int .i64 r ∧ 0 ≤ r ∧ r ≤ 1048576 ∧ r + ls.length + lszs (ls.take k) = left ∧ Below w.heap.size w wr) (fun _ i _ => ls.length - (intOf i).toNat)
    case atStart => exact ⟨0, left - ls.length, Nat.zero_le _, rfl, rfl, by omega, by omega, by simp [lszs], Below.refl _ _⟩
    case round =>
      obtain ⟨k, r, hk, rfl, rfl, hr0, hr1, hr2, hb⟩ := hrel
      by_cases hlt : k < ls.length
      · obtain ⟨b, off, A1, c1, A2, c2, rfl, hbl, hc1, hc2, hd1, hd2, hd3, hd4, hS1, hS2⟩ := (hA.below hb).at_ k hlt
        have hf := lszs_take ls k hlt
        have HF := Lib.hid hf
        clear hf
        generalize hL : ls[k] = L at *
        obtain ⟨p, q⟩ := L
        simp only at hc1 hc2 hd1 hd3 hS1 hS2
        clear hL
        unfold maxLen at hd2 hd4
        have hp9 : p.length ≤ 9223372036854775807 := by omega
        have hq9 : q.length ≤ 9223372036854775807 := by omega
        clear hd2 hd4
        have hk0 : (k : Int) < (ls.length : Int) := by omega
        go_wp2_with fail
        refine (szLevel_any A1 A2 (p, q) c1 c2 r _ hp9 hq9 hr0 hr1 (by exact hS1) (by exact hS2)).mono ?_
        rintro e w1 ⟨⟨s, rfl, hs⟩, hb1⟩
        have hb2 := below_then hb hb1
        by_cases hneg : s < 0
        · go_wp2
          go_ret
          exact ⟨⟨_, rfl, .inl (by omega)⟩, hb2⟩
        · go_wp2
          go_roundw
          case rel => exact ⟨k + 1, s, by omega, by go_num, rfl, by omega, by omega, by rw [HF.out]; omega, hb2⟩
          case measure => simp [intOf]; omega
      · have e : k = ls.length := by omega
        subst e
        rw [List.take_length] at hr2
        go_wp2
        go_ret
        exact ⟨⟨_, rfl, .inr ⟨hr0, hr2⟩⟩, hb⟩

set_option maxHeartbeats 400000 in
theorem szFing_any (A : Option Addr) (ls : List Lv) (c : Nat) (w : World) (hn : ls.length ≤ 9223372036854775807) (hA : Ls w A ls) :
    Calls Try.prog 32 #[.agg #[.slice A ls.length c], .int .i64 1048576] w fun e w' => (∃ r : Int, e = .returned (.int .i64 r) ∧ (r < 0 ∨ (0 ≤ r ∧ ls.length + lszs ls ≤ 1048576))) ∧ Below w.heap.size w w' := by
  have hb := (Below.refl w.heap.size w).alloc (Nat.le_refl _) (.cells #[.slice A ls.length c] 42)
  have hB := hA.below hb
  go_enter Try.func32, Try.ntmps32
  go_wp2_with fail
  refine (szLevelS_any A ls c 1048576 _ hn (by omega) (by omega) (by exact hB)).mono ?_
  rintro e w1 ⟨⟨r, rfl, hr⟩, hb1⟩
  have hb2 := below_then hb hb1
  by_cases hneg : r < 0
  · go_wp2
    go_ret
    exact ⟨⟨_, rfl, .inl (by omega)⟩, hb2⟩
  · go_wp2
    go_ret
    exact ⟨⟨_, rfl, .inr (by omega)⟩, hb2⟩

/-! ### equality -/
set_option maxHeartbeats 400000 in
theorem eqStringS_any (A B : Option Addr) (l r : List Str) (c d : Nat) (w : World) (hl : l.length ≤ 9223372036854775807) (hA : Ss w A l) (hB : Ss w B r) :
    Calls Try.prog 123 #[.slice A l.length c, .slice B r.length d] w fun e w' => e = .returned (.bool (decide (l = r))) ∧ ∃ n, w' = w.drewN n := by
  by_cases hlen : l.length = r.length
  · have hne : ((l.length : Int) != (r.length : Int)) = false := by simp [hlen]
    have HLEN := Lib.hid hlen
    have hlr : l.length ≤ r.length := by omega
    clear hlen
    go_enter Try.func123, Try.ntmps123
    go_wp2
    go_loopw [5] (fun i wr => ∃ k : Nat, k ≤ l.length ∧ i = .int .i64 k ∧ Hid (l.take k = r.take k) ∧ ∃ n, wr = w.drewN n) (fun i _ => l.length - (intOf i).toNat)
    case atStart => exact ⟨0, Nat.zero_le _, rfl, Lib.hid (by simp), 0, rfl⟩
    case round =>
      obtain ⟨k, hk, rfl, HT, n, rfl⟩ := hrel
      by_cases hlt : k < l.length
      · have hlt2 : k < r.length := by omega
        obtain ⟨b, off, rfl, hbl, hc, hcl⟩ := hA.at_ k hlt
        obtain ⟨b2, off2, rfl, hbl2, hc2, hcl2⟩ := hB.at_ k hlt2
        have hst : l.take (k + 1) = r.take (k + 1) ↔ l[k] = r[k] := by
          rw [List.take_succ_eq_append_getElem hlt, List.take_succ_eq_append_getElem hlt2, HT.out, List.append_cancel_left_eq]
          simp only [List.cons.injEq, and_true]
        have HS := Lib.hid hst
        have hdiff : l[k] ≠ r[k] → l ≠ r := fun h e => by subst e; exact h rfl
        have HD := Lib.hid hdiff
        clear hst hdiff
        have hi0 : (0 : Int) ≤ (k : Int) := by omega
        have hi1 : (k : Int) < (l.length : Int) := by omega
        have hi2 : (k : Int) < (r.length : Int) := by omega
        generalize hL : l[k] = L at *
        generalize hR : r[k] = R at *
        clear hL hR hcl hcl2
        by_cases heq : L = R
        · subst heq
          go_wp2
          go_quiet (fail)
          go_wp2
          go_roundw
          case rel => exact ⟨k + 1, by omega, by go_num, Lib.hid (HS.out.2 (by trivial)), _, rfl⟩
          case measure => simp [intOf]; omega
        · have hne2 : (L == R) = false := beq_eq_false_iff_ne.2 heq
          have HQ := Lib.hid heq
          clear heq
          go_wp2
          go_quiet (fail)
          go_wp2
          go_ret
          exact ⟨ret_bool (by rw [decide_eq_false (HD.out HQ.out)]), _, World.drewN_drewN _ _ _⟩
      · have e1 : k = l.length := by omega
        subst e1
        have e2 : l = r := by have := HT.out; rw [List.take_length] at this; rw [this, HLEN.out, List.take_length]
        have H2 := Lib.hid e2
        clear e2
        go_wp2
        go_ret
        exact ⟨ret_bool (by rw [decide_eq_true H2.out]), n, rfl⟩
  · have hne : ((l.length : Int) != (r.length : Int)) = true := by simp; omega
    go_enter Try.func123, Try.ntmps123
    go_wp2
    go_ret
    exact ⟨by simp; intro e; exact hlen (by rw [e]), 0, rfl⟩

set_option maxHeartbeats 400000 in
theorem eqLevel_any (A1 A2 B1 B2 : Option Addr) (l r : Lv) (c1 c2 d1 d2 : Nat) (w : World) (h1 : l.1.length ≤ 9223372036854775807) (h2 : l.2.length ≤ 9223372036854775807) (hA1 : Ss w A1 l.1) (hA2 : Ss w A2 l.2) (hB1 : Ss w B1 r.1) (hB2 : Ss w B2 r.2) :
    Calls Try.prog 105 #[.agg #[.slice A1 l.1.length c1, .slice A2 l.2.length c2], .agg #[.slice B1 r.1.length d1, .slice B2 r.2.length d2]] w fun e w' => e = .returned (.bool (decide (l = r))) ∧ Below w.heap.size w w' := by
  obtain ⟨p, q⟩ := l
  obtain ⟨s, t⟩ := r
  simp only at h1 h2 hA1 hA2 hB1 hB2 ⊢
  have hb := ((Below.refl w.heap.size w).alloc (Nat.le_refl _) (.cells #[.slice A1 p.length c1, .slice A2 q.length c2] 63)).alloc (by simp) (.cells #[.slice B1 s.length d1, .slice B2 t.length d2] 63)
  have hC1 := hA1.below hb
  have hC2 := hA2.below hb
  have hD1 := hB1.below hb
  have hD2 := hB2.below hb
  have hq1 : decide ((p, q) = (s, t)) = (decide (p = s) && decide (q = t)) := by rw [Bool.eq_iff_iff]; simp
  have HQ := Lib.hid hq1
  clear hq1
  generalize hf1 : decide (p = s) = f1 at *
  generalize hf2 : decide (q = t) = f2 at *
  have HF1 := Lib.hid hf1
  have HF2 := Lib.hid hf2
  clear hf1 hf2
  go_enter Try.func105, Try.ntmps105
  go_wp2_with fail
  refine (eqStringS_any A1 B1 p s c1 d1 _ h1 (by exact hC1) (by exact hD1)).mono ?_
  rintro e w1 ⟨rfl, n1, rfl⟩
  rw [HF1.out]
  cases f1
  · go_wp2
    go_ret
    exact ⟨ret_bool (by rw [HQ.out]; rfl), below_drewN hb n1⟩
  · go_wp2_with fail
    refine (eqStringS_any A2 B2 q t c2 d2 _ h2 (by exact hC2) (by exact hD2)).mono ?_
    rintro e w1 ⟨rfl, n2, rfl⟩
    rw [HF2.out]
    cases f2
    all_goals
      go_wp2
      go_ret
      exact ⟨ret_bool (by rw [HQ.out]; rfl), below_drewN hb _⟩

set_option maxHeartbeats 1000000 in
theorem eqLevelS_any (A B : Option Addr) (ls rs : List Lv) (c d : Nat) (w : World) (hl : ls.length ≤ 9223372036854775807) (hA : Ls w A ls) (hB : Ls w B rs) :
    Calls Try.prog 69 #[.slice A ls.length c, .slice B rs.length d] w fun e w' => e = .returned (.bool (decide (ls = rs))) ∧ Below w.heap.size w w' := by
  by_cases hlen : ls.length = rs.length
  · have hne : ((ls.length : Int) != (rs.length : Int)) = false := by simp [hlen]
    have HLEN := Lib.hid hlen
    have hle : ls.length ≤ rs.length := by omega
    clear hlen
    go_enter Try.func69, Try.ntmps69
    go_wp2
    go_loopw [5] (fun i wr => ∃ k : Nat, k ≤ ls.length ∧ i = .int .i64 k ∧ Hid (ls.take k = rs.take k) ∧ Below w.heap.size w wr) (fun i _ => ls.length - (intOf i).toNat)
    case atStart => exact ⟨0, Nat.zero_le _, rfl, Lib.hid (by simp), Below.refl _ _⟩
    case round =>
      obtain ⟨k, hk, rfl, HT, hb⟩ := hrel
      by_cases hlt : k < ls.length
      · have hlt2 : k < rs.length := by omega
        obtain ⟨b, off, A1, c1, A2, c2, rfl, hbl, hc1, hc2, hd1, hd2, hd3, hd4, hS1, hS2⟩ := (hA.below hb).at_ k hlt
        obtain ⟨b2, off2, B1, e1, B2, e2, rfl, hbl2, he1, he2, hf1, hf2, hf3, hf4, hU1, hU2⟩ := (hB.below hb).at_ k hlt2
        have hst : ls.take (k + 1) = rs.take (k + 1) ↔ ls[k] = rs[k] := by
          rw [List.take_succ_eq_append_getElem hlt, List.take_succ_eq_append_getElem hlt2, HT.out, List.append_cancel_left_eq]
          simp only [List.cons.injEq, and_true]
        have hdiff : ls[k] ≠ rs[k] → ls ≠ rs := fun h e => by subst e; exact h rfl
        have HS := Lib.hid hst
        have HD := Lib.hid hdiff
        clear hst hdiff
        generalize hL : ls[k] = L at *
        generalize hR : rs[k] = R at *
        unfold maxLen at hd2 hd4
        have hp9 : L.1.length ≤ 9223372036854775807 := by omega
        have hq9 : L.2.length ≤ 9223372036854775807 := by omega
        clear hL hR hd2 hd4 hf2 hf4 hd1 hd3 hf1 hf3
        generalize hq : decide (L = R) = q
        have HQ := Lib.hid hq
        clear hq
        have hi0 : (0 : Int) ≤ (k : Int) := by omega
        have hi1 : (k : Int) < (ls.length : Int) := by omega
        have hi2 : (k : Int) < (rs.length : Int) := by omega
        go_wp2
        go_region_with (go_at_call 105; refine (eqLevel_any A1 A2 B1 B2 L R c1 c2 e1 e2 _ hp9 hq9 (by exact hS1) (by exact hS2) (by exact hU1) (by exact hU2)).mono ?_; rintro e w1 ⟨rfl, hb1⟩; rw [HQ.out]; have hb2 : Below w.heap.size w w1 := below_then (b := wr.drew) hb.drew hb1)
        all_goals
          cases q
          · go_wp2
            go_ret
            exact ⟨ret_bool (by rw [decide_eq_false (HD.out (of_decide_eq_false HQ.out))]), hb2⟩
          · go_wp2
            go_roundw
            case rel => exact ⟨k + 1, by omega, by go_num, Lib.hid (HS.out.2 (of_decide_eq_true HQ.out)), hb2⟩
            case measure => simp [intOf]; omega
      · have e1 : k = ls.length := by omega
        subst e1
        have e2 : ls = rs := by have := HT.out; rw [List.take_length] at this; rw [this, HLEN.out, List.take_length]
        have H2 := Lib.hid e2
        clear e2
        go_wp2
        go_ret
        exact ⟨ret_bool (by rw [decide_eq_true H2.out]), hb⟩
  · have hne : ((ls.length : Int) != (rs.length : Int)) = true := by simp; omega
    go_enter Try.func69, Try.ntmps69
    go_wp2
    go_ret
    exact ⟨by simp; intro e; exact hlen (by rw [e]), Below.refl _ _⟩

set_option maxHeartbeats 400000 in
theorem eqFing_any (A B : Option Addr) (ls rs : List Lv) (c d : Nat) (w : World) (hl : ls.length ≤ 9223372036854775807) (hA : Ls w A ls) (hB : Ls w B rs) :
    Calls Try.prog 35 #[.agg #[.slice A ls.length c], .agg #[.slice B rs.length d]] w fun e w' => e = .returned (.bool (decide (ls = rs))) ∧ Below w.heap.size w w' := by
  have hb := ((Below.refl w.heap.size w).alloc (Nat.le_refl _) (.cells #[.slice A ls.length c] 26)).alloc (by simp) (.cells #[.slice B rs.length d] 26)
  have hC := hA.below hb
  have hD := hB.below hb
  generalize hq : decide (ls = rs) = q
  have HQ := Lib.hid hq
  clear hq
  go_enter Try.func35, Try.ntmps35
  go_wp2_with fail
  refine (eqLevelS_any A B ls rs c d _ hl (by exact hC) (by exact hD)).mono ?_
  rintro e w1 ⟨rfl, hb1⟩
  rw [HQ.out]
  have hb2 := hb.trans (hb1.mono (by simp; omega))
  cases q
  all_goals
    go_wp2
    go_ret
    exact ⟨rfl, hb2⟩
end Go.Proofs.Ytfbcpiipekfapaa
