/-
  Chapter 6, the program's SpanMove, hits, edits apart: contracts. Own work.
-/
import Derived.Test.YtdmmdbapkogdhaaJ09
import Derived.Deep.RegionHeld3
namespace Go.Proofs.Ytdmmdbapkogdhaa
open Go.RowKit P
set_option linter.unusedVariables false
set_option linter.unusedSimpArgs false
set_option maxRecDepth 100000

theorem hits_no {i j a m : Int} {l : List UInt8} (h : edSmall a m l = false ∨ isPlace i = false ∨ isPlace j = false ∨ j ≤ i) : hits a m l i j = false := by
  unfold hits
  rcases h with h | h | h | h
  · rw [h]; rfl
  · rw [h]; simp
  · rw [h]; simp
  · rw [decide_eq_false (show ¬ i < j by omega)]; simp
theorem hits_yes {i j a m : Int} {l : List UInt8} (h : edSmall a m l = true) (g : isPlace i = true) (k : isPlace j = true) (q : i < j) : hits a m l i j = (decide (a < j) && decide (i < a + m)) := by
  unfold hits
  rw [h, g, k, decide_eq_true q]; rfl

set_option maxHeartbeats 4000000 in
theorem specEditHits_any (a m : Int) (A : Option Addr) (l : List UInt8) (c : Nat) (i j : Int) (w : World) (hl9 : l.length ≤ 9223372036854775807) :
    Calls Try.prog 110 #[.agg #[.int .i64 a, .int .i64 m, .slice A l.length c], .int .i64 i, .int .i64 j] w fun e w' => e = .returned (.bool (hits a m l i j)) ∧ Below w.heap.size w w' := by
  have hal := (Below.refl w.heap.size w).alloc (Nat.le_refl _) (.cells #[.int .i64 a, .int .i64 m, .slice A l.length c] 30)
  have bE := EBox.new w a m A l.length c
  obtain ⟨z1, h1⟩ : ∃ z, edSmall a m l = z := ⟨_, rfl⟩
  obtain ⟨z2, h2⟩ : ∃ z, isPlace i = z := ⟨_, rfl⟩
  obtain ⟨z3, h3⟩ : ∃ z, isPlace j = z := ⟨_, rfl⟩
  obtain ⟨R, hR⟩ : ∃ R, hits a m l i j = R := ⟨_, rfl⟩
  have hno : (z1 = false ∨ z2 = false ∨ z3 = false ∨ j ≤ i) → R = false := by
    rw [← h1, ← h2, ← h3, ← hR]; exact hits_no
  have hyes : z1 = true → z2 = true → z3 = true → i < j → R = (decide (a < j) && decide (i < a + m)) := by
    rw [← h1, ← h2, ← h3, ← hR]; exact hits_yes
  rw [hR]
  have H1 := Lib.hid h1
  have H2 := Lib.hid h2
  have H3 := Lib.hid h3
  have HN := Lib.hid hno
  have HY := Lib.hid hyes
  clear h1 h2 h3 hR hno hyes
  go_enter Try.func110, Try.ntmps110
  go_wp2_with fail
  generalize w.alloc (.cells #[.int .i64 a, .int .i64 m, .slice A l.length c] 30) = W1 at *
  have k0 := bE.c0
  have k1 := bE.c1
  have k2 := bE.c2
  refine (l05Small_any a m A l c _ hl9).mono ?_
  rintro e w2 ⟨rfl, hb2⟩
  rw [H1.out]
  have bE := bE.below hb2
  have hal := below_then hal hb2
  clear k0 k1 k2 hb2
  have k0 := bE.c0
  have k1 := bE.c1
  have k2 := bE.c2
  cases z1
  · have e1 := HN.out (.inl rfl)
    go_wp2
    go_ret
    exact ⟨ret_bool e1.symm, hal⟩
  go_wp2_with fail
  refine (l06Place_e i z2 _ H2.out).mono ?_
  rintro e w3 ⟨rfl, rfl⟩
  cases z2
  · have e1 := HN.out (.inr (.inl rfl))
    go_wp2
    go_ret
    exact ⟨ret_bool e1.symm, hal⟩
  go_wp2_with fail
  refine (l06Place_e j z3 _ H3.out).mono ?_
  rintro e w3 ⟨rfl, rfl⟩
  cases z3
  · have e1 := HN.out (.inr (.inr (.inl rfl)))
    go_wp2
    go_ret
    exact ⟨ret_bool e1.symm, hal⟩
  have s := (edSmall_iff a m l).1 H1.out
  have hwr : IntKind.i64.wrap (a + m) = a + m := IntWalk.i64_in _ ⟨by omega, by omega⟩
  by_cases hij : j ≤ i
  · have e1 := HN.out (.inr (.inr (.inr hij)))
    go_wp2
    go_ret
    exact ⟨ret_bool e1.symm, hal⟩
  have e1 := HY.out (by trivial) (by trivial) (by trivial) (by omega)
  by_cases hm : m = 0
  · subst hm
    have h00 : ((0 : Int) == 0) = true := rfl
    have e2 : R = (decide (i < a) && decide (a < j)) := by rw [e1, Bool.and_comm, show a + 0 = a by omega]
    have E2 := Lib.hid e2
    clear e1 e2
    by_cases c1 : i < a
    · have e3 : R = decide (a < j) := by rw [E2.out, decide_eq_true c1]; rfl
      have E3 := Lib.hid e3
      clear e3 E2
      go_wp2
      go_ret
      exact ⟨ret_bool E3.out.symm, hal⟩
    · have e3 : R = false := by rw [E2.out, decide_eq_false c1]; rfl
      have E3 := Lib.hid e3
      clear e3 E2
      go_wp2
      go_ret
      exact ⟨ret_bool E3.out.symm, hal⟩
  have h00 : (m == 0) = false := by simpa using hm
  have E1 := Lib.hid e1
  clear e1 hm
  by_cases c1 : a < j
  · have e3 : R = decide (i < a + m) := by rw [E1.out, decide_eq_true c1]; rfl
    have E3 := Lib.hid e3
    clear e3 E1
    go_wp2
    go_ret
    exact ⟨ret_bool E3.out.symm, hal⟩
  · have e3 : R = false := by rw [E1.out, decide_eq_false c1]; rfl
    have E3 := Lib.hid e3
    clear e3 E1
    go_wp2
    go_ret
    exact ⟨ret_bool E3.out.symm, hal⟩

set_option maxHeartbeats 4000000 in
theorem implEditHits_any (a m : Int) (A : Option Addr) (l : List UInt8) (c : Nat) (i j : Int) (w : World) (hl9 : l.length ≤ 9223372036854775807) :
    Calls Try.prog 109 #[.agg #[.int .i64 a, .int .i64 m, .slice A l.length c], .int .i64 i, .int .i64 j] w fun e w' => e = .returned (.bool (hits a m l i j)) ∧ Below w.heap.size w w' := by
  have hal := (Below.refl w.heap.size w).alloc (Nat.le_refl _) (.cells #[.int .i64 a, .int .i64 m, .slice A l.length c] 30)
  have bE := EBox.new w a m A l.length c
  obtain ⟨z1, h1⟩ : ∃ z, edSmall a m l = z := ⟨_, rfl⟩
  obtain ⟨z2, h2⟩ : ∃ z, isPlace i = z := ⟨_, rfl⟩
  obtain ⟨z3, h3⟩ : ∃ z, isPlace j = z := ⟨_, rfl⟩
  obtain ⟨R, hR⟩ : ∃ R, hits a m l i j = R := ⟨_, rfl⟩
  have hno : (z1 = false ∨ z2 = false ∨ z3 = false ∨ j ≤ i) → R = false := by
    rw [← h1, ← h2, ← h3, ← hR]; exact hits_no
  have hyes : z1 = true → z2 = true → z3 = true → i < j → R = (decide (a < j) && decide (i < a + m)) := by
    rw [← h1, ← h2, ← h3, ← hR]; exact hits_yes
  rw [hR]
  have H1 := Lib.hid h1
  have H2 := Lib.hid h2
  have H3 := Lib.hid h3
  have HN := Lib.hid hno
  have HY := Lib.hid hyes
  clear h1 h2 h3 hR hno hyes
  go_enter Try.func109, Try.ntmps109
  go_wp2_with fail
  generalize w.alloc (.cells #[.int .i64 a, .int .i64 m, .slice A l.length c] 30) = W1 at *
  have k0 := bE.c0
  have k1 := bE.c1
  have k2 := bE.c2
  refine (isSmall_any a m A l c _ hl9).mono ?_
  rintro e w2 ⟨rfl, hb2⟩
  rw [H1.out]
  have bE := bE.below hb2
  have hal := below_then hal hb2
  clear k0 k1 k2 hb2
  have k0 := bE.c0
  have k1 := bE.c1
  have k2 := bE.c2
  cases z1
  · have e1 := HN.out (.inl rfl)
    go_wp2
    go_ret
    exact ⟨ret_bool e1.symm, hal⟩
  go_wp2_with fail
  refine (isSmallPlace_e i z2 _ H2.out).mono ?_
  rintro e w3 ⟨rfl, rfl⟩
  cases z2
  · have e1 := HN.out (.inr (.inl rfl))
    go_wp2
    go_ret
    exact ⟨ret_bool e1.symm, hal⟩
  go_wp2_with fail
  refine (isSmallPlace_e j z3 _ H3.out).mono ?_
  rintro e w3 ⟨rfl, rfl⟩
  cases z3
  · have e1 := HN.out (.inr (.inr (.inl rfl)))
    go_wp2
    go_ret
    exact ⟨ret_bool e1.symm, hal⟩
  have s := (edSmall_iff a m l).1 H1.out
  have hwr : IntKind.i64.wrap (a + m) = a + m := IntWalk.i64_in _ ⟨by omega, by omega⟩
  by_cases hij : j ≤ i
  · have e1 := HN.out (.inr (.inr (.inr hij)))
    go_wp2
    go_ret
    exact ⟨ret_bool e1.symm, hal⟩
  have e1 := HY.out (by trivial) (by trivial) (by trivial) (by omega)
  have E1 := Lib.hid e1
  have HWR := Lib.hid hwr
  clear e1
  by_cases c1 : a < j
  · have e3 : R = decide (i < a + m) := by rw [E1.out, decide_eq_true c1]; rfl
    have E3 := Lib.hid e3
    clear e3 E1
    go_wp2_with fail
    refine (edEnd_any a m (a + m) A l.length c _ HWR.out).mono ?_
    rintro e w4 ⟨rfl, hb4⟩
    have hal := below_then hal hb4
    go_wp2
    go_ret
    exact ⟨ret_bool E3.out.symm, hal⟩
  · have e3 : R = false := by rw [E1.out, decide_eq_false c1]; rfl
    have E3 := Lib.hid e3
    clear e3 E1
    go_wp2
    go_ret
    exact ⟨ret_bool E3.out.symm, hal⟩
end Go.Proofs.Ytdmmdbapkogdhaa
