/-
  The draws' cursor: letters, places, texts: contracts. Own work.
-/
import Derived.Test.YtpgeanombiociaaDoorCur2
import Derived.Test.YtpgeanombiociaaDoorI01f
namespace Go.Proofs.YtpgeanombiociaaDoor
open Go.RowKit P
set_option linter.unusedVariables false

set_option maxHeartbeats 2000000 in
theorem rune_any (g N : Nat) (w : World) (hN : N ≤ 10000000000) (h : Cur w g N) :
    Calls Tryd.prog 52 #[.pointer (some ⟨g, 0, none⟩)] w (Draws g (N + 3) 0 200000 w) := by
  go_enter Tryd.func52, Tryd.ntmps52
  go_wp2_with fail
  refine (pick_draws g N _ _ (by omega) (by omega) (by omega) (by exact h)).mono ?_
  rintro e w1 ⟨x, rfl, hx0, hx1, hc1, ho1⟩
  go_wp2_with fail
  refine (pick_draws g (N + 1) _ _ (by omega) (by omega) (by omega) (by exact hc1)).mono ?_
  rintro e w2 ⟨y, rfl, hy0, hy1, hc2, ho2⟩
  have ho2 := ho1.trans ho2
  go_wp2_with fail
  refine (pick_draws g (N + 2) _ _ (by omega) (by omega) (by omega) (by exact hc2.alloc _)).mono ?_
  rintro e w3 ⟨z, rfl, hz0, hz1, hc3, ho3⟩
  obtain ⟨k, rfl⟩ := Int.eq_ofNat_of_zero_le hz0
  have hrow := ho3.row hc2.lt k
  obtain ⟨v, hv, v1, v2⟩ : ∃ v : Int, w3.cell? ⟨w2.heap.size, k, none⟩ = some (.int .i64 v) ∧ 0 ≤ v ∧ v ≤ 200000 := by
    rw [hrow]
    match k, (show k < 14 by omega) with
    | 0, _ => exact ⟨_, rfl, by omega, by omega⟩
    | 1, _ => exact ⟨_, rfl, by omega, by omega⟩
    | 2, _ => exact ⟨_, rfl, by omega, by omega⟩
    | 3, _ => exact ⟨_, rfl, by omega, by omega⟩
    | 4, _ => exact ⟨_, rfl, by omega, by omega⟩
    | 5, _ => exact ⟨_, rfl, by omega, by omega⟩
    | 6, _ => exact ⟨_, rfl, by omega, by omega⟩
    | 7, _ => exact ⟨_, rfl, by omega, by omega⟩
    | 8, _ => exact ⟨_, rfl, by omega, by omega⟩
    | 9, _ => exact ⟨_, rfl, by omega, by omega⟩
    | 10, _ => exact ⟨_, rfl, by omega, by omega⟩
    | 11, _ => exact ⟨_, rfl, by omega, by omega⟩
    | 12, _ => exact ⟨_, rfl, by omega, by omega⟩
    | 13, _ => exact ⟨_, rfl, by omega, by omega⟩
  clear hrow
  have ho4 := ho2.trans ho3.of_alloc
  go_wp2
  go_ret
  exact ⟨v, rfl, v1, v2, hc3, ho4⟩

set_option maxHeartbeats 2000000 in
theorem place_any (g N : Nat) (n : Int) (w : World) (h0 : 0 ≤ n) (hn : n ≤ 1000) (hN : N ≤ 10000000000) (h : Cur w g N) :
    Calls Tryd.prog 61 #[.pointer (some ⟨g, 0, none⟩), .int .i64 n] w (Draws g (N + 5) (-9223372036854775808) 9223372036854775807 w) := by
  have hcur := h
  by_cases hmx : 1 < n + 1
  all_goals
    go_enter Tryd.func61, Tryd.ntmps61
    go_wp2_with fail
    refine (pick_draws g N _ _ (by omega) (by omega) (by omega) (by exact hcur)).mono ?_
    rintro e w1 ⟨x, rfl, hx0, hx1, hc1, ho1⟩
    go_wp2_with fail
    refine (pick_draws g (N + 1) _ _ (by omega) (by omega) (by omega) (by exact hc1)).mono ?_
    rintro e w2 ⟨y, rfl, hy0, hy1, hc2, ho2⟩
    have ho2 := ho1.trans ho2
    go_wp2_with fail
    refine (raw_any g (N + 2) _ (by omega) (by exact hc2)).mono ?_
    rintro e w3 ⟨r, rfl, hr0, hr1, hc3, ho3⟩
    have ho3 := ho2.trans ho3
    go_wp2_with fail
    refine (pick_draws g (N + 4) _ _ (by omega) (by omega) (by omega) (by exact hc3.alloc _)).mono ?_
    rintro e w4 ⟨z, rfl, hz0, hz1, hc4, ho4⟩
    obtain ⟨k, rfl⟩ := Int.eq_ofNat_of_zero_le hz0
    have hrow := ho4.row hc3.lt k
    obtain ⟨v, hv, v1, v2⟩ : ∃ v : Int, w4.cell? ⟨w3.heap.size, k, none⟩ = some (.int .i64 v) ∧ -9223372036854775808 ≤ v ∧ v ≤ 9223372036854775807 := by
      rw [hrow]
      match k, (show k < 5 by omega) with
      | 0, _ => exact ⟨_, rfl, by omega, by omega⟩
      | 1, _ => exact ⟨_, rfl, by omega, by omega⟩
      | 2, _ => exact ⟨_, rfl, by omega, by omega⟩
      | 3, _ => exact ⟨_, rfl, by omega, by omega⟩
      | 4, _ => exact ⟨_, rfl, by omega, by omega⟩
    clear hrow
    have ho5 := ho3.trans ho4.of_alloc
    go_wp2
    go_ret
    exact ⟨v, rfl, v1, v2, hc4, ho5⟩

/-- Where a cursor is opened. -/
def Opens (w : World) (e : Ending) (w' : World) : Prop := e = .returned (.pointer (some ⟨w.heap.size, 0, none⟩)) ∧ Cur w' w.heap.size 0 ∧ Below w.heap.size w w'

set_option maxHeartbeats 1000000 in
theorem l01Open_any (A : Option Addr) (l : List UInt8) (c : Nat) (w : World) (hl : l.length ≤ 1048576) (hA : Bs w A l) :
    Calls Tryd.prog 51 #[.slice A l.length c] w (Opens w) := by
  have hm : ((l.length : Int) % 1000) = ((l.length % 1000 : Nat) : Int) := by omega
  have HM := Lib.hid hm
  clear hm
  go_enter Tryd.func51, Tryd.ntmps51
  go_wp2
  go_ret
  refine ⟨rfl, ⟨A, l, c, 0, 97 + (l.length : Int) % 1000, ?_, Int.le_refl _, Int.le_refl _, by omega, by omega, hl, ?_, ?_⟩, (Below.refl _ _).alloc (Nat.le_refl _) _⟩
  · exact heap_alloc_new w _
  · exact hA.below ((Below.refl _ _).alloc (Nat.le_refl _) _)
  · intro b off e h0
    obtain ⟨b', off', e', hlt, _⟩ := hA 0 h0
    rw [e] at e'
    cases e'
    omega

set_option maxHeartbeats 2000000 in
theorem drawRuneBytes_any (A : Option Addr) (l : List UInt8) (c : Nat) (w : World) (hl : l.length ≤ 1048576) (hA : Bs w A l) :
    Calls Tryd.prog 13 #[.slice A l.length c] w fun e w' => ∃ v : Int, e = .returned (.int .i64 v) ∧ -9223372036854775808 ≤ v ∧ v ≤ 9223372036854775807 ∧ Below w.heap.size w w' := by
  go_enter Tryd.func13, Tryd.ntmps13
  go_wp2_with fail
  refine (l01Open_any A l c _ hl (by exact hA)).mono ?_
  rintro e w1 ⟨rfl, hc0, hb0⟩
  generalize hg : w.heap.size = g at *
  go_wp2_with fail
  refine (rune_any g 0 _ (by omega) (by exact hc0)).mono ?_
  rintro e w2 ⟨x, rfl, hx0, hx1, hc1, ho1⟩
  go_wp2_with fail
  refine (raw_any g 3 _ (by omega) (by exact hc1)).mono ?_
  rintro e w3 ⟨y, rfl, hy0, hy1, hc2, ho2⟩
  have ho2 := ho1.trans ho2
  go_wp2_with fail
  refine (wide_any g 5 _ _ (by omega) (by omega) (by omega) (by exact hc2)).mono ?_
  rintro e w4 ⟨z, rfl, hz0, hz1, hc3, ho3⟩
  have ho3 := ho2.trans ho3
  go_wp2_with fail
  refine (pick_draws g 8 _ _ (by omega) (by omega) (by omega) (by exact hc3.alloc _)).mono ?_
  rintro e w5 ⟨p, rfl, hp0, hp1, hc4, ho4⟩
  obtain ⟨k, rfl⟩ := Int.eq_ofNat_of_zero_le hp0
  have hrow := ho4.row hc3.lt k
  obtain ⟨v, hv, v1, v2⟩ : ∃ v : Int, w5.cell? ⟨w4.heap.size, k, none⟩ = some (.int .i64 v) ∧ -9223372036854775808 ≤ v ∧ v ≤ 9223372036854775807 := by
    rw [hrow]
    match k, (show k < 3 by omega) with
    | 0, _ => exact ⟨_, rfl, by omega, by omega⟩
    | 1, _ => exact ⟨_, rfl, by omega, by omega⟩
    | 2, _ => exact ⟨_, rfl, by omega, by omega⟩
  clear hrow
  have ho5 := ho3.trans ho4.of_alloc
  have hs := hb0.size
  have hfin : Below g w w5 := hb0.trans (ho5.below g (Nat.le_refl _) (by omega))
  go_wp2
  go_ret
  exact ⟨v, rfl, v1, v2, by rw [hg]; exact hfin⟩
end Go.Proofs.YtpgeanombiociaaDoor
