/-
  FnExactRopeMeas, its walk. Own work.
-/
import Derived.Test.YtpipkmnmdipeeaaDoorLaw
import Derived.Test.YtpipkmnmdipeeaaDoorS04
import Derived.Test.YtpipkmnmdipeeaaDoorI04
import Derived.Test.YtpipkmnmdipeeaaDoorC04
namespace Go.Proofs.YtpipkmnmdipeeaaDoor.fnExactRopeMeas
open Go.ChangeShapes Go.WideShapes Go.ChangeAt Go.RowKit P
set_option linter.unusedVariables false
set_option maxRecDepth 100000

set_option maxHeartbeats 1000000 in
theorem eqMeas_any (a b r x y z : Int) (w : World) : Calls Tryd.prog 32 #[meas a b r, meas x y z] w fun e w' => e = .returned (.bool (decide (a = x ∧ b = y ∧ r = z))) ∧ Below w.heap.size w w' := by
  unfold meas
  by_cases h1 : a = x
  · subst h1
    have n1 : (a != a) = false := by simp
    by_cases h2 : b = y
    · subst h2
      have n2 : (b != b) = false := by simp
      by_cases h3 : r = z
      · subst h3
        have n3 : (r != r) = false := by simp
        go_enter Tryd.func32, Tryd.ntmps32
        go_wp2
        go_ret
        exact ⟨by simp, by (repeat (first | exact Below.refl _ _ | assumption | refine Below.setCell ?_ (by first | (simp; done) | (simp; omega) | omega) _ | refine Below.drew ?_ | refine below_drewN ?_ _ | refine Below.alloc ?_ (by first | (simp; done) | (simp; omega) | omega) _))⟩
      · have n3 : (r != z) = true := by simpa using h3
        have H3 := Lib.hid h3
        clear h3
        go_enter Tryd.func32, Tryd.ntmps32
        go_wp2
        go_ret
        exact ⟨by simp [H3.out], by (repeat (first | exact Below.refl _ _ | assumption | refine Below.setCell ?_ (by first | (simp; done) | (simp; omega) | omega) _ | refine Below.drew ?_ | refine below_drewN ?_ _ | refine Below.alloc ?_ (by first | (simp; done) | (simp; omega) | omega) _))⟩
    · have n2 : (b != y) = true := by simpa using h2
      have H2 := Lib.hid h2
      clear h2
      go_enter Tryd.func32, Tryd.ntmps32
      go_wp2
      go_ret
      exact ⟨by simp [H2.out], by (repeat (first | exact Below.refl _ _ | assumption | refine Below.setCell ?_ (by first | (simp; done) | (simp; omega) | omega) _ | refine Below.drew ?_ | refine below_drewN ?_ _ | refine Below.alloc ?_ (by first | (simp; done) | (simp; omega) | omega) _))⟩
  · have n1 : (a != x) = true := by simpa using h1
    have H1 := Lib.hid h1
    clear h1
    go_enter Tryd.func32, Tryd.ntmps32
    go_wp2
    go_ret
    exact ⟨by simp [H1.out], by (repeat (first | exact Below.refl _ _ | assumption | refine Below.setCell ?_ (by first | (simp; done) | (simp; omega) | omega) _ | refine Below.drew ?_ | refine below_drewN ?_ _ | refine Below.alloc ?_ (by first | (simp; done) | (simp; omega) | omega) _))⟩

set_option maxHeartbeats 2000000 in
theorem walk (A : Option Addr) (ls : List (List UInt8)) (c : Nat) (hc : ls.length ≤ c) (hm : c ≤ maxLen) (w : World) (hL : Cs w A ls) (hT : Tab w) :
    Calls Tryd.prog 6 #[.agg #[.slice A ls.length c]] w fun e w' => e = .returned (.bool true) ∧ Below w.heap.size w w' := by
  have hn9 : ls.length ≤ 9223372036854775807 := by unfold maxLen at hm; omega
  clear hc hm
  have hb0 := (Below.refl w.heap.size w).alloc (Nat.le_refl _) (.cells #[.slice A ls.length c] 24)
  have bA0 := Blk.new w #[.slice A ls.length c] 24
  have hL0 := hL.below hb0
  go_enter Tryd.func6, Tryd.ntmps6
  go_wp2_with fail
  refine (szRope_any A ls c _ hn9 (by exact hL0)).mono ?_
  rintro e w1 ⟨⟨r, rfl, hr⟩, hb1⟩
  have bA1 := bA0.below hb1
  have hb1 := below_then hb0 hb1
  by_cases hneg : r < 0
  · go_wp2
    go_ret
    exact ⟨rfl, hb1⟩
  · have hl : ls.length + tot ls ≤ 1048576 := by omega
    have hl2 : ls.length ≤ 1048576 := by omega
    clear hr bA0 hb0 hL0
    have hL1 := hL.below hb1
    have kA1 : w1.cell? ⟨w.heap.size, 0, none⟩ = some (.slice A ls.length c) := by rw [bA1.cell]; rfl
    go_wp2_with fail
    refine (toRope_any A ls c _ hl (by exact hL1)).mono ?_
    rintro e w2 ⟨v2, fp2, rfl, how2, hn2, hf2, hb2⟩
    have bA2 := bA1.below hb2
    have hb2 := below_then hb1 hb2
    obtain ⟨A2, c2, rfl, _, _, hD2⟩ := Lay.chunks_rd (Lay.chunks.read how2)
    clear how2 hn2 hf2 bA1 kA1 hL1 hb1
    go_wp2_with fail
    refine (specRopeMeas_any A2 ls c2 _ hn9 (by exact hD2)).mono ?_
    rintro e w3 ⟨rfl, hb3⟩
    have bA3 := bA2.below hb3
    have hb3 := below_then hb2 hb3
    clear hD2 hb2 bA2
    unfold meas
    obtain ⟨x, hx⟩ : ∃ x, mB (chunksText ls) = x := ⟨_, rfl⟩
    obtain ⟨y, hy⟩ : ∃ y, mR (chunksText ls) = y := ⟨_, rfl⟩
    obtain ⟨z, hz⟩ : ∃ z, mL (chunksText ls) = z := ⟨_, rfl⟩
    rw [hx, hy, hz]
    have HX := Lib.hid hx
    have HY := Lib.hid hy
    have HZ := Lib.hid hz
    clear hx hy hz
    have bM3 := Blk.new w3 #[.int .i64 x, .int .i64 y, .int .i64 z] 43
    have hal := (Below.refl w3.heap.size w3).alloc (Nat.le_refl _) (.cells #[.int .i64 x, .int .i64 y, .int .i64 z] 43)
    have bA3 := bA3.below hal
    have hb3 := below_then hb3 hal
    have hL3 := hL.below hb3
    have kA3 : (w3.alloc (.cells #[.int .i64 x, .int .i64 y, .int .i64 z] 43)).cell? ⟨w.heap.size, 0, none⟩ = some (.slice A ls.length c) := by rw [bA3.cell]; rfl
    have hz3 : w3.heap.size < (w3.alloc (.cells #[.int .i64 x, .int .i64 y, .int .i64 z] 43)).heap.size := by simp
    clear hal
    go_wp2_with fail
    generalize w3.alloc (.cells #[.int .i64 x, .int .i64 y, .int .i64 z] 43) = W3 at *
    refine (toRope_any A ls c _ hl (by exact hL3)).mono ?_
    rintro e w4 ⟨v4, fp4, rfl, how4, hn4, hf4, hb4⟩
    have bA4 := (bA3.below hb4).alloc (.cells #[v4] 29)
    have bM4 := (bM3.below hb4).alloc (.cells #[v4] 29)
    obtain ⟨A4, c4, rfl, _, _, hD4⟩ := Lay.chunks_rd (Lay.chunks.read how4)
    have hb4 := below_then hb3 hb4
    have hal := (Below.refl w4.heap.size w4).alloc (Nat.le_refl _) (.cells #[.slice A4 ls.length c4] 29)
    have hb4 := below_then hb4 hal
    have bX4 := Blk.new w4 #[.slice A4 ls.length c4] 29
    have hD4 := hD4.below hal
    have hT4 := hT.below hb4
    clear how4 hn4 hf4 bA3 kA3 hL3 hb3 hal bM3 hz3
    go_wp2_with fail
    refine (implRopeMeas_any A4 ls c4 _ hl2 (by exact hT4) (by exact hD4)).mono ?_
    rintro e w5 ⟨rfl, hb5⟩
    rw [HX.out, HY.out, HZ.out]
    unfold meas
    have hal := (Below.refl w5.heap.size w5).alloc (Nat.le_refl _) (.cells #[.int .i64 x, .int .i64 y, .int .i64 z] 43)
    have bA5 := (bA4.below hb5).below hal
    have bX5 := (bX4.below hb5).below hal
    have bM5 := (bM4.below hb5).below hal
    have hD5 := (hD4.below hb5).below hal
    have bG5 := Blk.new w5 #[.int .i64 x, .int .i64 y, .int .i64 z] 43
    have hb5 := below_then (below_then hb4 hb5) hal
    have hL5 := hL.below hb5
    have hsA := bA5.lt
    have hsX := bX5.lt
    have kA5 : (w5.alloc (.cells #[.int .i64 x, .int .i64 y, .int .i64 z] 43)).cell? ⟨w.heap.size, 0, none⟩ = some (.slice A ls.length c) := by rw [bA5.cell]; rfl
    have kX5 : (w5.alloc (.cells #[.int .i64 x, .int .i64 y, .int .i64 z] 43)).cell? ⟨w4.heap.size, 0, none⟩ = some (.slice A4 ls.length c4) := by rw [bX5.cell]; rfl
    have m0 : (w5.alloc (.cells #[.int .i64 x, .int .i64 y, .int .i64 z] 43)).cell? ⟨w3.heap.size, 0, none⟩ = some (.int .i64 x) := by rw [bM5.cell]; rfl
    have m1 : (w5.alloc (.cells #[.int .i64 x, .int .i64 y, .int .i64 z] 43)).cell? ⟨w3.heap.size, 1, none⟩ = some (.int .i64 y) := by rw [bM5.cell]; rfl
    have m2 : (w5.alloc (.cells #[.int .i64 x, .int .i64 y, .int .i64 z] 43)).cell? ⟨w3.heap.size, 2, none⟩ = some (.int .i64 z) := by rw [bM5.cell]; rfl
    have g0 : (w5.alloc (.cells #[.int .i64 x, .int .i64 y, .int .i64 z] 43)).cell? ⟨w5.heap.size, 0, none⟩ = some (.int .i64 x) := by rw [bG5.cell]; rfl
    have g1 : (w5.alloc (.cells #[.int .i64 x, .int .i64 y, .int .i64 z] 43)).cell? ⟨w5.heap.size, 1, none⟩ = some (.int .i64 y) := by rw [bG5.cell]; rfl
    have g2 : (w5.alloc (.cells #[.int .i64 x, .int .i64 y, .int .i64 z] 43)).cell? ⟨w5.heap.size, 2, none⟩ = some (.int .i64 z) := by rw [bG5.cell]; rfl
    clear HX HY HZ bA4 bX4 hD4 hb4 bM4 bM5 bG5 hal bA5 bX5
    have heq := fun W => eqMeas_any x y z x y z W
    have hq : decide (x = x ∧ y = y ∧ z = z) = true := by simp
    unfold meas at heq
    rw [hq] at heq
    clear hq
    go_wp2_with fail
    generalize w5.alloc (.cells #[.int .i64 x, .int .i64 y, .int .i64 z] 43) = W5 at *
    refine (heq _).mono ?_
    rintro e w6 ⟨rfl, hb6⟩
    have kA6 := (hb6.cell (p := ⟨w.heap.size, 0, none⟩) hsA).trans kA5
    have kX6 := (hb6.cell (p := ⟨w4.heap.size, 0, none⟩) hsX).trans kX5
    have hE6 := hD5.below hb6
    have hsA := Nat.lt_of_lt_of_le hsA hb6.size
    have hsX := Nat.lt_of_lt_of_le hsX hb6.size
    have hb6 := below_then hb5 hb6
    have hL6 := hL.below hb6
    clear heq m0 m1 m2 g0 g1 g2 kA5 kX5 hD5 hb5 hL5
    go_wp2
    go_region_with (first
      | (go_at_call 17; refine (toRope_any A ls c _ hl (by exact hL6)).mono ?_; rintro e w7 ⟨v6, fp6, rfl, how6, hn6, hf6, hb7⟩; obtain ⟨A6, c6, rfl, _, _, hD6⟩ := Lay.chunks_rd (Lay.chunks.read how6); have kX7 : w7.cell? ⟨w4.heap.size, 0, none⟩ = some (.slice A4 ls.length c4) := (hb7.cell (p := ⟨w4.heap.size, 0, none⟩) hsX).trans kX6; have hD66 : Cs w7 A4 ls := Cs.below (w := w6) hE6 ⟨hb7.os, hb7.tape, hb7.output, hb7.size, hb7.block⟩; have hb7' : Below w.heap.size w w7 := below_then (b := w6.drew) hb6.drew hb7; clear how6 hn6 hf6 hb7)
      | (go_at_call 19; refine (eqRope_any A4 _ ls ls c4 _ _ hn9 (by assumption) (by assumption)).mono ?_; rintro e w8 ⟨rfl, hb8⟩; rw [decide_eq_true (rfl : ls = ls)]))
    all_goals
      go_wp2
      go_ret
      exact ⟨rfl, ⟨hb8.os.trans hb7'.os, hb8.tape.trans hb7'.tape, hb8.output.trans hb7'.output, Nat.le_trans hb7'.size hb8.size, fun k hk => (hb8.block k (Nat.lt_of_lt_of_le hk hb7'.size)).trans (hb7'.block k hk)⟩⟩

end Go.Proofs.YtpipkmnmdipeeaaDoor.fnExactRopeMeas
