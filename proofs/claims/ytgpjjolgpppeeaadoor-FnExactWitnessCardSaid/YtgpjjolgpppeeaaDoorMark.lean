/-
  The laws' marks on a slice of bytes of the call's own: contracts. Own work.
-/
import Derived.Test.YtgpjjolgpppeeaaDoorI01f
namespace Go.Proofs.YtgpjjolgpppeeaaDoor
open Go.RowKit P
set_option linter.unusedVariables false

theorem Own.set {w : World} {base g : Nat} {c : Nat} {l : List UInt8} (h : Own w base (.slice (some ⟨g, 0, none⟩) l.length c) l) (i : Nat) (hi : i < l.length) (b : UInt8) :
    Own (w.setCell ⟨g, i, none⟩ (bV b)) base (.slice (some ⟨g, 0, none⟩) l.length c) (l.set i b) := by
  obtain ⟨h1, h2⟩ := h
  refine ⟨by simp, ?_⟩
  rcases h2 with ⟨h3, _⟩ | ⟨g', cap, cur, hv, hb, hh, hn, hc, hs, ht⟩
  · cases h3
  · cases hv
    refine .inr ⟨g, c, cur.setIfInBounds i (bV b), by simp, hb, ?_, by simpa using hn, hc, by simpa using hs, ?_⟩
    · simp [World.setCell, Array.getElem?_modify, hh]
    · rw [Array.toList_setIfInBounds, List.length_set, Nat.mul_one, List.take_set, List.map_set]
      rw [Nat.mul_one] at ht
      rw [ht]

/-- n bytes from k on. -/
def marks (k : Nat) : Nat → List UInt8
  | 0 => []
  | n + 1 => UInt8.ofNat k :: marks (k + 1) n

theorem marks_length (k n : Nat) : (marks k n).length = n := by
  induction n generalizing k with
  | zero => rfl
  | succ n ih => simp [marks, ih]

theorem marks_snoc (k n : Nat) : marks k (n + 1) = marks k n ++ [UInt8.ofNat (k + n)] := by
  induction n generalizing k with
  | zero => rfl
  | succ n ih =>
    rw [marks, ih (k + 1)]
    simp only [marks, List.cons_append]
    congr 4
    omega

theorem marks_get (k n i : Nat) (hi : i < n) : (marks k n)[i]'(by rw [marks_length]; exact hi) = UInt8.ofNat (k + i) := by
  induction n generalizing k i with
  | zero => omega
  | succ n ih =>
    cases i with
    | zero => rfl
    | succ i =>
      simp only [marks, List.getElem_cons_succ]
      rw [ih (k + 1) i (by omega)]
      congr 1
      omega

theorem ownBlock_some {g o n c : Nat} : (Value.slice (some ⟨g, o, none⟩) n c).ownBlock = some g := rfl

set_option maxHeartbeats 800000 in
theorem markByteS_any (v : Value) (l : List UInt8) (base k : Nat) (w : World) (hk : k ≤ 2000000) (hl : l.length ≤ 2000000) (h : Own w base v l) :
    Calls Tryd.prog 69 #[v, .int .i64 k] w fun e w' => e = .returned (.int .i64 ((k + l.length : Nat) : Int)) ∧ Own w' base v (marks k l.length) ∧ w.grownBy w' v.ownBlock := by
  by_cases h0 : l.length = 0
  · have hl0 := List.eq_nil_of_length_eq_zero h0
    subst hl0
    obtain ⟨A, c, rfl, _, _, _⟩ := h.form
    have hlen : ([] : List UInt8).length = 0 := rfl
    rw [hlen]
    go_enter Tryd.func69, Tryd.ntmps69
    go_wp2
    go_rounds 1
    go_ret
    exact ⟨by simp, h, World.grownBy.refl w _⟩
  · obtain ⟨g, cap, rfl, hgb⟩ : ∃ g cap, v = .slice (some ⟨g, 0, none⟩) l.length cap ∧ base ≤ g := by
      rcases h.2 with ⟨_, h2⟩ | ⟨g, cap, cur, hv, hb, _⟩
      · exact absurd h2 h0
      · exact ⟨g, cap, hv, hb⟩
    go_enter Tryd.func69, Tryd.ntmps69
    go_wp2
    go_loopw [1, 5] (fun kk i wr => ∃ j : Nat, j ≤ l.length ∧ i = .int .i64 j ∧ kk = .int .i64 ((k + j : Nat) : Int) ∧ Own wr base (.slice (some ⟨g, 0, none⟩) l.length cap) (marks k j ++ l.drop j) ∧ w.grownBy wr (some g)) (fun _ i _ => l.length - (intOf i).toNat)
    case atStart => exact ⟨0, Nat.zero_le _, rfl, rfl, h, World.grownBy.refl w _⟩
    case round =>
      obtain ⟨j, hj, rfl, rfl, hown, hgr⟩ := hrel
      have hlen : (marks k j ++ l.drop j).length = l.length := by rw [List.length_append, marks_length, List.length_drop]; omega
      by_cases hlt : j < l.length
      · have hcell : ∃ u, wr.cell? ⟨g, j, none⟩ = some u := by
          obtain ⟨A, c, hv, _, _, hB⟩ := hown.form
          obtain ⟨b', off', e, _, hc⟩ := hB j (by omega)
          rw [hlen] at hv
          cases hv
          cases e
          exact ⟨_, by simpa using hc⟩
        have hfz : wr.frozen? ⟨g, j, none⟩ = false := by
          rcases hown.2 with ⟨h3, _⟩ | ⟨g', cap', cur, hv, _, hh, _⟩
          · cases h3
          · rw [hlen] at hv; cases hv; simp [World.frozen?, hh]
        obtain ⟨u, hu⟩ := hcell
        have hown2 : Own (wr.setCell ⟨g, j, none⟩ (bV (UInt8.ofNat (k + j)))) base (.slice (some ⟨g, 0, none⟩) l.length cap) (marks k (j + 1) ++ l.drop (j + 1)) := by
          have hv0 : Own wr base (.slice (some ⟨g, 0, none⟩) (marks k j ++ l.drop j).length cap) (marks k j ++ l.drop j) := by rw [hlen]; exact hown
          have := Own.set hv0 j (by omega) (UInt8.ofNat (k + j))
          rw [hlen] at this
          have e : (marks k j ++ l.drop j).set j (UInt8.ofNat (k + j)) = marks k (j + 1) ++ l.drop (j + 1) := by
            rw [List.drop_eq_getElem_cons hlt, List.set_append_right _ _ (by rw [marks_length]; omega), marks_length, Nat.sub_self, List.set_cons_zero, marks_snoc, List.append_assoc, List.singleton_append]
          rw [e] at this
          exact this
        have hgr2 : w.grownBy (wr.setCell ⟨g, j, none⟩ (bV (UInt8.ofNat (k + j)))) (some g) := by
          refine ⟨hgr.os, hgr.tape, hgr.output, by simpa [World.setCell] using hgr.size, fun i hi hne => ?_⟩
          rw [Below.heap_setCell _ _ _ _ (fun e => hne (by rw [e]))]
          exact hgr.block i hi hne
        have hbv : bV (UInt8.ofNat (k + j)) = .int .u8 (IntKind.u8.wrap ((k + j : Nat) : Int)) := by
          unfold bV
          congr 1
        rw [hbv] at hown2 hgr2
        have hwr : IntKind.u8.wrap ((k + j : Nat) : Int) = ((k + j : Nat) : Int) % 256 := IntKind.wrap_u8 _
        rw [hwr] at hown2 hgr2
        clear hwr hbv hown hgr
        go_wp2
        go_roundw
        case rel => exact ⟨j + 1, by omega, by go_num, by go_num, hown2, hgr2⟩
        case measure => simp [intOf]; omega
      · have e : j = l.length := by omega
        subst e
        have hd : l.drop l.length = [] := List.drop_length
        rw [hd, List.append_nil] at hown
        go_wp2
        go_ret
        exact ⟨rfl, hown, hgr⟩
theorem ofNat_marks (k n i : Nat) (hi : i < n) : (((marks k n)[i]'(by rw [marks_length]; exact hi)).toNat : Int) = ((k + i : Nat) : Int) % 256 := by
  rw [marks_get k n i hi, UInt8.toNat_ofNat']
  omega

set_option maxHeartbeats 800000 in
theorem heldByteS_any (A : Option Addr) (n c k : Nat) (w : World) (hk : k ≤ 2000000) (hn : n ≤ 2000000) (h : Bs w A (marks k n)) :
    Calls Tryd.prog 70 #[.slice A n c, .int .i64 k] w fun e w' => e = .returned (.int .i64 ((k + n : Nat) : Int)) ∧ w' = w := by
  go_enter Tryd.func70, Tryd.ntmps70
  go_wp2
  go_loop [1, 5] (fun kk i => ∃ j : Nat, j ≤ n ∧ i = .int .i64 j ∧ kk = .int .i64 ((k + j : Nat) : Int)) (fun _ i => n - (intOf i).toNat)
  case atStart => exact ⟨0, Nat.zero_le _, rfl, rfl⟩
  case round =>
    obtain ⟨j, hj, rfl, rfl⟩ := hrel
    by_cases hlt : j < n
    · obtain ⟨b, off, rfl, hblt, hc⟩ := h j (by rw [marks_length]; exact hlt)
      rw [ofNat_marks k n j hlt] at hc
      go_wp2
      go_round
      case rel => exact ⟨j + 1, by omega, by go_num, by go_num⟩
      case measure => simp [intOf]; omega
    · have e : j = n := by omega
      subst e
      go_wp2
      go_ret
      exact ⟨rfl, rfl⟩

end Go.Proofs.YtgpjjolgpppeeaaDoor
