/-
  Chapter 6, spans moved, hits, edits apart: contracts of the model and of the program. Own work.
-/
import Derived.Test.YtoaimklllmelpaaJ09
import Derived.Deep.RegionHeld3
namespace Go.Proofs.Ytoaimklllmelpaa
open Go.RowKit P
set_option linter.unusedVariables false
set_option linter.unusedSimpArgs false
set_option maxRecDepth 100000

theorem spanI_no {i j a m : Int} {l : List UInt8} (h : spanOk i j a m l = false) : spanI i j a m l = -1 ∧ spanJ i j a m l = -1 := by
  unfold spanI spanJ; rw [h]; exact ⟨rfl, rfl⟩
theorem spanI_yes {i j a m : Int} {l : List UInt8} (h : spanOk i j a m l = true) : spanI i j a m l = spI i a m l.length ∧ spanJ i j a m l = spJ i j a m l.length := by
  unfold spanI spanJ; rw [h]; exact ⟨rfl, rfl⟩

set_option maxHeartbeats 4000000 in
theorem specSpanMove_any (i j a m : Int) (A : Option Addr) (l : List UInt8) (c : Nat) (w : World) (hl9 : l.length ≤ 9223372036854775807) :
    Calls Try.prog 19 #[.int .i64 i, .int .i64 j, .agg #[.int .i64 a, .int .i64 m, .slice A l.length c]] w fun e w' => e = .returned (.tuple #[.int .i64 (spanI i j a m l), .int .i64 (spanJ i j a m l)]) ∧ Below w.heap.size w w' := by
  have hal := (Below.refl w.heap.size w).alloc (Nat.le_refl _) (.cells #[.int .i64 a, .int .i64 m, .slice A l.length c] 27)
  have bE := EBox.new w a m A l.length c
  obtain ⟨x, hx⟩ : ∃ x, posMove i true a m l = x := ⟨_, rfl⟩
  obtain ⟨y, hy⟩ : ∃ y, posMove j false a m l = y := ⟨_, rfl⟩
  obtain ⟨R, hR⟩ : ∃ R, spanI i j a m l = R := ⟨_, rfl⟩
  obtain ⟨T, hT⟩ : ∃ R, spanJ i j a m l = R := ⟨_, rfl⟩
  have hno : x < 0 ∨ y < 0 ∨ j < i → R = -1 ∧ T = -1 := by
    intro h
    rw [← hR, ← hT]
    apply spanI_no
    unfold spanOk
    rcases h with h | h | h
    · rw [← hx, posMove_neg] at h
      unfold posOk at h
      simp only [Bool.and_eq_false_iff] at h ⊢
      rcases h with h | h
      · exact .inl h
      · exact .inr (.inl h)
    · rw [← hy, posMove_neg] at h
      unfold posOk at h
      simp only [Bool.and_eq_false_iff] at h ⊢
      rcases h with h | h
      · exact .inl h
      · exact .inr (.inr (.inl h))
    · simp only [Bool.and_eq_false_iff]
      exact .inr (.inr (.inr (decide_eq_false (by omega))))
  have hyes : ¬ x < 0 → ¬ y < 0 → ¬ j < i → R = x ∧ T = max x y ∧ (i = j → max x y = x) := by
    intro h1 h2 h3
    rw [← hx, posMove_neg, Bool.not_eq_false] at h1
    rw [← hy, posMove_neg, Bool.not_eq_false] at h2
    have g1 := h1
    have g2 := h2
    unfold posOk at g1 g2
    rw [Bool.and_eq_true] at g1 g2
    have hs : spanOk i j a m l = true := by
      unfold spanOk
      rw [g1.1, g1.2, g2.2, decide_eq_true (show i ≤ j by omega)]; rfl
    have s := (edSmall_iff a m l).1 g1.1
    obtain ⟨e1, e2⟩ := spanI_yes hs
    have ex : x = mvTo i a m l.length (a + l.length) := by rw [← hx]; unfold posMove; rw [h1]; rfl
    have ey : y = mvTo j a m l.length a := by rw [← hy]; unfold posMove; rw [h2]; rfl
    rw [← hR, ← hT, e1, e2, ex, ey]
    refine ⟨rfl, rfl, fun h => ?_⟩
    subst h
    exact spJ_same (by omega) (by omega)
  rw [hR, hT]
  have HX := Lib.hid hx
  have HY := Lib.hid hy
  have HN := Lib.hid hno
  have HYS := Lib.hid hyes
  clear hx hy hR hT hno hyes
  go_enter Try.func19, Try.ntmps19
  go_wp2_with fail
  generalize w.alloc (.cells #[.int .i64 a, .int .i64 m, .slice A l.length c] 27) = W1 at *
  have k0 := bE.c0
  have k1 := bE.c1
  have k2 := bE.c2
  go_wp2_with fail
  refine (specPosMove_any i true a m A l c _ hl9).mono ?_
  rintro e w2 ⟨rfl, hb2⟩
  rw [HX.out]
  have bE := bE.below hb2
  have hal := below_then hal hb2
  clear k0 k1 k2 hb2
  have k0 := bE.c0
  have k1 := bE.c1
  have k2 := bE.c2
  go_wp2_with fail
  refine (specPosMove_any j false a m A l c _ hl9).mono ?_
  rintro e w3 ⟨rfl, hb3⟩
  rw [HY.out]
  have hal := below_then hal hb3
  clear k0 k1 k2 hb3 bE
  by_cases h1 : x < 0
  · obtain ⟨e1, e2⟩ := HN.out (.inl h1)
    subst e1; subst e2
    go_wp2
    go_ret2
    exact ⟨rfl, hal⟩
  by_cases h2 : y < 0
  · obtain ⟨e1, e2⟩ := HN.out (.inr (.inl h2))
    subst e1; subst e2
    go_wp2
    go_ret2
    exact ⟨rfl, hal⟩
  by_cases h3 : j < i
  · obtain ⟨e1, e2⟩ := HN.out (.inr (.inr h3))
    subst e1; subst e2
    go_wp2
    go_ret2
    exact ⟨rfl, hal⟩
  obtain ⟨e1, e2, e3⟩ := HYS.out (by omega) (by omega) (by omega)
  subst e1
  by_cases h4 : i = j
  · have e4 := (e2.trans (e3 h4))
    subst e4
    subst h4
    have hii : (i == i) = true := by simp
    clear e2 e3
    go_wp2
    go_ret2
    exact ⟨rfl, hal⟩
  have hij : (i == j) = false := by simpa using h4
  have E2 := Lib.hid e2
  clear e2 e3 h4
  by_cases h5 : R < y
  · have e5 : T = y := by rw [E2.out]; omega
    subst e5
    clear E2
    go_wp2
    go_ret2
    exact ⟨rfl, hal⟩
  · have e5 : T = R := by rw [E2.out]; omega
    subst e5
    clear E2
    go_wp2
    go_ret2
    exact ⟨rfl, hal⟩

set_option maxHeartbeats 1000000 in
theorem edBefore_any (p a m : Int) (A : Option Addr) (l : List UInt8) (c : Nat) (w : World) (hq : 0 ≤ p ∧ p ≤ 800) (hs : 0 ≤ a ∧ a ≤ 400 ∧ 0 ≤ m ∧ m ≤ 400 ∧ l.length ≤ 400) :
    Calls Try.prog 57 #[.agg #[.int .i64 a, .int .i64 m, .slice A l.length c], .int .i64 p] w fun e w' => e = .returned (.int .i64 (mvTo p a m l.length a)) ∧ Below w.heap.size w w' := by
  have hal := (Below.refl w.heap.size w).alloc (Nat.le_refl _) (.cells #[.int .i64 a, .int .i64 m, .slice A l.length c] 27)
  go_enter Try.func57, Try.ntmps57
  go_wp2_with fail
  refine (edMoved_any p a a m A l c _ hq hs).mono ?_
  rintro e w2 ⟨rfl, hb2⟩
  have hal := below_then hal hb2
  go_wp2
  go_ret
  exact ⟨rfl, hal⟩

set_option maxHeartbeats 1000000 in
theorem edBehind_any (p a m : Int) (A : Option Addr) (l : List UInt8) (c : Nat) (w : World) (hq : 0 ≤ p ∧ p ≤ 800) (hs : 0 ≤ a ∧ a ≤ 400 ∧ 0 ≤ m ∧ m ≤ 400 ∧ l.length ≤ 400) :
    Calls Try.prog 56 #[.agg #[.int .i64 a, .int .i64 m, .slice A l.length c], .int .i64 p] w fun e w' => e = .returned (.int .i64 (mvTo p a m l.length (a + l.length))) ∧ Below w.heap.size w w' := by
  have hal := (Below.refl w.heap.size w).alloc (Nat.le_refl _) (.cells #[.int .i64 a, .int .i64 m, .slice A l.length c] 27)
  have hwr : IntKind.i64.wrap (a + l.length) = a + l.length := IntWalk.i64_in _ ⟨by omega, by omega⟩
  go_enter Try.func56, Try.ntmps56
  go_wp2_with fail
  refine (edMoved_any p (a + l.length) a m A l c _ hq hs).mono ?_
  rintro e w2 ⟨rfl, hb2⟩
  have hal := below_then hal hb2
  go_wp2
  go_ret
  exact ⟨rfl, hal⟩

set_option maxHeartbeats 4000000 in
theorem implPosMove_any (p : Int) (r : Bool) (a m : Int) (A : Option Addr) (l : List UInt8) (c : Nat) (w : World) (hl9 : l.length ≤ 9223372036854775807) :
    Calls Try.prog 17 #[.int .i64 p, .bool r, .agg #[.int .i64 a, .int .i64 m, .slice A l.length c]] w fun e w' => e = .returned (.int .i64 (posMove p r a m l)) ∧ Below w.heap.size w w' := by
  have hal := (Below.refl w.heap.size w).alloc (Nat.le_refl _) (.cells #[.int .i64 a, .int .i64 m, .slice A l.length c] 27)
  have bE := EBox.new w a m A l.length c
  obtain ⟨z1, h1⟩ : ∃ z, isPlace p = z := ⟨_, rfl⟩
  obtain ⟨z2, h2⟩ : ∃ z, edSmall a m l = z := ⟨_, rfl⟩
  obtain ⟨R, hR⟩ : ∃ R, posMove p r a m l = R := ⟨_, rfl⟩
  rw [hR]
  have H1 := Lib.hid h1
  have H2 := Lib.hid h2
  have HR := Lib.hid hR
  clear h1 h2 hR
  go_enter Try.func17, Try.ntmps17
  go_wp2_with fail
  generalize w.alloc (.cells #[.int .i64 a, .int .i64 m, .slice A l.length c] 27) = W1 at *
  have k0 := bE.c0
  have k1 := bE.c1
  have k2 := bE.c2
  refine (isSmall_any a m A l c _ hl9).mono ?_
  rintro e w2 ⟨rfl, hb2⟩
  rw [H2.out]
  have bE := bE.below hb2
  have hal := below_then hal hb2
  clear k0 k1 k2 hb2
  have k0 := bE.c0
  have k1 := bE.c1
  have k2 := bE.c2
  cases z2
  · have e1 := posMove_no (z := r) (.inr H2.out) R HR.out
    go_wp2
    go_ret
    exact ⟨ret_int e1.symm, hal⟩
  go_wp2_with fail
  refine (isSmallPlace_e p z1 _ H1.out).mono ?_
  rintro e w3 ⟨rfl, rfl⟩
  cases z1
  · have e1 := posMove_no (z := r) (.inl H1.out) R HR.out
    go_wp2
    go_ret
    exact ⟨ret_int e1.symm, hal⟩
  have s := (edSmall_iff a m l).1 H2.out
  have q := (isPlace_iff p).1 H1.out
  have hR2 : mvTo p a m l.length (sideOf r a l.length) = R := (posMove_yes H1.out H2.out).symm.trans HR.out
  have HR2 := Lib.hid hR2
  clear hR2
  cases r
  · go_wp2_with fail
    refine (edBefore_any p a m A l c _ q s).mono ?_
    rintro e w4 ⟨rfl, hb4⟩
    have hal := below_then hal hb4
    go_wp2
    go_ret
    exact ⟨ret_int HR2.out, hal⟩
  · go_wp2_with fail
    refine (edBehind_any p a m A l c _ q s).mono ?_
    rintro e w4 ⟨rfl, hb4⟩
    have hal := below_then hal hb4
    go_wp2
    go_ret
    exact ⟨ret_int HR2.out, hal⟩

end Go.Proofs.Ytoaimklllmelpaa
