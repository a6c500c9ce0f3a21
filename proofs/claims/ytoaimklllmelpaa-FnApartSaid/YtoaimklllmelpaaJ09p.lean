/-
  Chapter 6, the program's SpanMove: contract. Own work.
-/
import Derived.Test.YtoaimklllmelpaaJ09s
namespace Go.Proofs.Ytoaimklllmelpaa
open Go.RowKit P
set_option linter.unusedVariables false
set_option linter.unusedSimpArgs false
set_option maxRecDepth 100000

set_option maxHeartbeats 8000000 in
theorem implSpanMove_any (i j a m : Int) (A : Option Addr) (l : List UInt8) (c : Nat) (w : World) (hl9 : l.length ≤ 9223372036854775807) :
    Calls Try.prog 20 #[.int .i64 i, .int .i64 j, .agg #[.int .i64 a, .int .i64 m, .slice A l.length c]] w fun e w' => e = .returned (.tuple #[.int .i64 (spanI i j a m l), .int .i64 (spanJ i j a m l)]) ∧ Below w.heap.size w w' := by
  have hal := (Below.refl w.heap.size w).alloc (Nat.le_refl _) (.cells #[.int .i64 a, .int .i64 m, .slice A l.length c] 27)
  have bE := EBox.new w a m A l.length c
  obtain ⟨z1, h1⟩ : ∃ z, edSmall a m l = z := ⟨_, rfl⟩
  obtain ⟨z2, h2⟩ : ∃ z, isPlace i = z := ⟨_, rfl⟩
  obtain ⟨z3, h3⟩ : ∃ z, isPlace j = z := ⟨_, rfl⟩
  obtain ⟨R, hR⟩ : ∃ R, spanI i j a m l = R := ⟨_, rfl⟩
  obtain ⟨T, hT⟩ : ∃ R, spanJ i j a m l = R := ⟨_, rfl⟩
  have hok : spanOk i j a m l = (z1 && (z2 && (z3 && decide (i ≤ j)))) := by rw [← h1, ← h2, ← h3]; rfl
  have hno : (z1 && (z2 && (z3 && decide (i ≤ j)))) = false → R = -1 ∧ T = -1 := fun h => by
    rw [← hR, ← hT]; exact spanI_no (hok.trans h)
  have hyes : (z1 && (z2 && (z3 && decide (i ≤ j)))) = true → R = mvTo i a m l.length (a + l.length) ∧ T = max (mvTo i a m l.length (a + l.length)) (mvTo j a m l.length a) := fun h => by
    rw [← hR, ← hT]; exact spanI_yes (hok.trans h)
  rw [hR, hT]
  have H1 := Lib.hid h1
  have H2 := Lib.hid h2
  have H3 := Lib.hid h3
  have HN := Lib.hid hno
  have HY := Lib.hid hyes
  clear h1 h2 h3 hR hT hok hno hyes
  go_enter Try.func20, Try.ntmps20
  go_wp2_with fail
  generalize w.alloc (.cells #[.int .i64 a, .int .i64 m, .slice A l.length c] 27) = W1 at *
  have k0 := bE.c0
  have k1 := bE.c1
  have k2 := bE.c2
  refine (isSmall_any a m A l c _ hl9).mono ?_
  rintro e w2 ⟨rfl, hb2⟩
  rw [H1.out]
  have bE := bE.below hb2
  have hal := below_then hal hb2
  clear k0 k1 k2 hb2
  have k0 := bE.c0
  have k1 := bE.c1
  have k2 := bE.c2
  cases z1
  · obtain ⟨e1, e2⟩ := HN.out rfl
    subst e1; subst e2
    go_wp2
    go_ret2
    exact ⟨rfl, hal⟩
  go_wp2_with fail
  refine (isSmallPlace_e i z2 _ H2.out).mono ?_
  rintro e w3 ⟨rfl, rfl⟩
  cases z2
  · obtain ⟨e1, e2⟩ := HN.out rfl
    subst e1; subst e2
    go_wp2
    go_ret2
    exact ⟨rfl, hal⟩
  go_wp2_with fail
  refine (isSmallPlace_e j z3 _ H3.out).mono ?_
  rintro e w3 ⟨rfl, rfl⟩
  cases z3
  · obtain ⟨e1, e2⟩ := HN.out rfl
    subst e1; subst e2
    go_wp2
    go_ret2
    exact ⟨rfl, hal⟩
  have s := (edSmall_iff a m l).1 H1.out
  have q1 := (isPlace_iff i).1 H2.out
  have q2 := (isPlace_iff j).1 H3.out
  by_cases hij : j < i
  · obtain ⟨e1, e2⟩ := HN.out (by rw [decide_eq_false (show ¬ i ≤ j by omega)]; rfl)
    subst e1; subst e2
    go_wp2
    go_ret2
    exact ⟨rfl, hal⟩
  obtain ⟨e1, e2⟩ := HY.out (by rw [decide_eq_true (show i ≤ j by omega)]; rfl)
  obtain ⟨x, hx⟩ : ∃ x, mvTo i a m l.length (a + l.length) = x := ⟨_, rfl⟩
  obtain ⟨y, hy⟩ : ∃ y, mvTo j a m l.length a = y := ⟨_, rfl⟩
  rw [hx] at e1 e2
  rw [hy] at e2
  have HX := Lib.hid hx
  have HYY := Lib.hid hy
  have E2 := Lib.hid e2
  subst e1
  clear hx hy e2
  go_wp2_with fail
  refine (selMoved_tf i j a m A l c _ q1 q2 s).mono ?_
  rintro e w4 ⟨rfl, hb4⟩
  rw [HX.out, HYY.out]
  have hal := (below_then hal hb4).alloc (by have := hal.size; have := hb4.size; omega) (.cells #[.int .i64 R, .int .i64 y] 50)
  have bS := Blk.new w4 #[.int .i64 R, .int .i64 y] 50
  clear k0 k1 k2 hb4 bE
  have s0 := bS.cell 0
  have s1 := bS.cell 1
  by_cases h5 : R < y
  · have e5 : T = y := by rw [E2.out]; omega
    subst e5
    have HALL := Lib.hid hal
    clear E2 hal
    go_wp2_with fail
    generalize w4.alloc (.cells #[.int .i64 R, .int .i64 T] 50) = W4 at *
    go_region
    all_goals
      go_wp2
      go_ret2
      exact ⟨rfl, below_drewN HALL.out 1⟩
  · have e5 : T = R := by rw [E2.out]; omega
    subst e5
    have HALL := Lib.hid hal
    clear E2 hal
    go_wp2_with fail
    generalize w4.alloc (.cells #[.int .i64 T, .int .i64 y] 50) = W4 at *
    go_region
    all_goals
      go_wp2
      go_ret2
      exact ⟨rfl, below_drewN HALL.out 1⟩
end Go.Proofs.Ytoaimklllmelpaa
