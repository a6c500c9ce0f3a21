/-
  Chapter 6, moved positions and spans: contracts of the model and of the program. Own work.
  Chapter 6, spans moved, hits, edits apart: contracts of the model and of the program. Own work.
  Chapter 6, a span or selection moved by two methods: contract. Own work.
  Chapter 6, the program's SpanMove: contract. Own work.
-/
import Derived.Test.YtkplfbhblbinaaaDoorJ07
import Derived.Test.YtkplfbhblbinaaaDoorP09
import Derived.Deep.RegionHeld3
import Derived.Test.YtkplfbhblbinaaaDoorC05
namespace Go.Proofs.YtkplfbhblbinaaaDoor
open Go.RowKit P
set_option linter.unusedVariables false
set_option linter.unusedSimpArgs false
set_option maxRecDepth 100000

set_option maxHeartbeats 400000 in
theorem l06Place_e (n : Int) (z : Bool) (w : World) (hz : isPlace n = z) : Calls Tryd.prog 107 #[.int .i64 n] w fun e w' => e = .returned (.bool z) ∧ w' = w := by
  subst hz
  by_cases h : 0 ≤ n
  · go_enter Tryd.func107, Tryd.ntmps107
    go_wp2
    go_ret
    exact ⟨ret_bool (by unfold isPlace; simp [h]), rfl⟩
  · have hd : decide (0 ≤ n) = false := by simpa using h
    have hf : isPlace n = false := by unfold isPlace; rw [hd]; rfl
    have HF := Lib.hid hf
    clear h hf
    go_enter Tryd.func107, Tryd.ntmps107
    go_wp2
    go_ret
    exact ⟨ret_bool HF.out.symm, rfl⟩

set_option maxHeartbeats 400000 in
theorem isSmallPlace_e (n : Int) (z : Bool) (w : World) (hz : isPlace n = z) : Calls Tryd.prog 93 #[.int .i64 n] w fun e w' => e = .returned (.bool z) ∧ w' = w := by
  subst hz
  by_cases h : 0 ≤ n
  · go_enter Tryd.func93, Tryd.ntmps93
    go_wp2
    go_ret
    exact ⟨ret_bool (by unfold isPlace; simp [h]), rfl⟩
  · have hd : decide (0 ≤ n) = false := by simpa using h
    have hf : isPlace n = false := by unfold isPlace; rw [hd]; rfl
    have HF := Lib.hid hf
    clear h hf
    go_enter Tryd.func93, Tryd.ntmps93
    go_wp2
    go_ret
    exact ⟨ret_bool HF.out.symm, rfl⟩

theorem posMove_no {p a m : Int} {l : List UInt8} {r z : Bool} (h : isPlace p = false ∨ edSmall a m l = false) (R : Int) (hR : posMove p r a m l = R) : R = -1 := by
  rw [← hR]; unfold posMove posOk
  rcases h with h | h <;> rw [h] <;> simp
theorem posMove_yes {p a m : Int} {l : List UInt8} {r : Bool} (h : isPlace p = true) (g : edSmall a m l = true) : posMove p r a m l = mvTo p a m l.length (sideOf r a l.length) := by
  unfold posMove posOk; rw [h, g]; rfl

set_option maxHeartbeats 4000000 in
theorem specPosMove_any (p : Int) (r : Bool) (a m : Int) (A : Option Addr) (l : List UInt8) (c : Nat) (w : World) (hl9 : l.length ≤ 9223372036854775807) :
    Calls Tryd.prog 97 #[.int .i64 p, .bool r, .agg #[.int .i64 a, .int .i64 m, .slice A l.length c]] w fun e w' => e = .returned (.int .i64 (posMove p r a m l)) ∧ Below w.heap.size w w' := by
  have hal := (Below.refl w.heap.size w).alloc (Nat.le_refl _) (.cells #[.int .i64 a, .int .i64 m, .slice A l.length c] 25)
  have bE := EBox.new w a m A l.length c
  obtain ⟨z1, h1⟩ : ∃ z, isPlace p = z := ⟨_, rfl⟩
  obtain ⟨z2, h2⟩ : ∃ z, edSmall a m l = z := ⟨_, rfl⟩
  obtain ⟨R, hR⟩ : ∃ R, posMove p r a m l = R := ⟨_, rfl⟩
  rw [hR]
  have H1 := Lib.hid h1
  have H2 := Lib.hid h2
  have HR := Lib.hid hR
  clear h1 h2 hR
  go_enter Tryd.func97, Tryd.ntmps97
  go_wp2_with fail
  generalize w.alloc (.cells #[.int .i64 a, .int .i64 m, .slice A l.length c] 25) = W1 at *
  refine (l06Place_e p z1 _ H1.out).mono ?_
  rintro e w1 ⟨rfl, rfl⟩
  have k0 := bE.c0
  have k1 := bE.c1
  have k2 := bE.c2
  cases z1
  · have e1 := posMove_no (z := r) (.inl H1.out) R HR.out
    go_wp2
    go_ret
    exact ⟨ret_int e1.symm, hal⟩
  go_wp2_with fail
  refine (l05Small_any a m A l c _ hl9).mono ?_
  rintro e w2 ⟨rfl, hb2⟩
  rw [H2.out]
  have bE := bE.below hb2
  have hal := below_then hal hb2
  clear k0 k1 k2 hb2
  have k0 := bE.c0
  have k1 := bE.c1
  have k2 := bE.c2
  cases z2
  · have e1 := posMove_no (z := r) (.inr H2.out) R HR.out
    go_wp2
    go_ret
    exact ⟨ret_int e1.symm, hal⟩
  have s := (edSmall_iff a m l).1 H2.out
  have q := (isPlace_iff p).1 H1.out
  have hR2 : mvTo p a m l.length (sideOf r a l.length) = R := (posMove_yes H1.out H2.out).symm.trans HR.out
  have hwr : IntKind.i64.wrap (a + m) = a + m := IntWalk.i64_in _ ⟨by omega, by omega⟩
  have hwr2 : IntKind.i64.wrap (a + l.length) = a + l.length := IntWalk.i64_in _ ⟨by omega, by omega⟩
  have hwr3 : IntKind.i64.wrap (p - m) = p - m := IntWalk.i64_in _ ⟨by omega, by omega⟩
  have hwr4 : IntKind.i64.wrap (p - m + l.length) = p - m + l.length := IntWalk.i64_in _ ⟨by omega, by omega⟩
  by_cases c1 : p < a
  · have e1 : R = p := by rw [← hR2]; unfold mvTo; rw [if_pos c1]
    have E1 := Lib.hid e1
    clear hR2 e1
    go_wp2
    go_ret
    exact ⟨ret_int E1.out.symm, hal⟩
  by_cases c2 : p = a
  · subst c2
    have hpp : (p == p) = true := by simp
    have e1 : R = sideOf r p l.length := by rw [← hR2]; unfold mvTo; rw [if_neg c1, if_pos (.inl rfl)]
    have E1 := Lib.hid e1
    clear hR2 e1
    cases r
    · go_wp2
      go_ret
      exact ⟨ret_int E1.out.symm, hal⟩
    · go_wp2
      go_ret
      exact ⟨ret_int E1.out.symm, hal⟩
  have hpp : (p == a) = false := by simpa using c2
  by_cases c3 : p < a + m
  · have e1 : R = sideOf r a l.length := by rw [← hR2]; unfold mvTo; rw [if_neg c1, if_pos (.inr c3)]
    have E1 := Lib.hid e1
    clear hR2 e1 c2
    cases r
    · go_wp2
      go_ret
      exact ⟨ret_int E1.out.symm, hal⟩
    · go_wp2
      go_ret
      exact ⟨ret_int E1.out.symm, hal⟩
  have e1 : R = p - m + l.length := by rw [← hR2]; unfold mvTo; rw [if_neg c1, if_neg (by omega)]
  have E1 := Lib.hid e1
  clear hR2 e1 c2
  go_wp2
  go_ret
  exact ⟨ret_int E1.out.symm, hal⟩

set_option maxHeartbeats 4000000 in
theorem edMoved_any (p x a m : Int) (A : Option Addr) (l : List UInt8) (c : Nat) (w : World) (hq : 0 ≤ p ∧ p ≤ 800) (hs : 0 ≤ a ∧ a ≤ 400 ∧ 0 ≤ m ∧ m ≤ 400 ∧ l.length ≤ 400) :
    Calls Tryd.prog 106 #[.agg #[.int .i64 a, .int .i64 m, .slice A l.length c], .int .i64 p, .int .i64 x] w fun e w' => e = .returned (.int .i64 (mvTo p a m l.length x)) ∧ Below w.heap.size w w' := by
  have hal := (Below.refl w.heap.size w).alloc (Nat.le_refl _) (.cells #[.int .i64 a, .int .i64 m, .slice A l.length c] 25)
  have bE := EBox.new w a m A l.length c
  obtain ⟨R, hR⟩ : ∃ R, mvTo p a m l.length x = R := ⟨_, rfl⟩
  rw [hR]
  have k0 := bE.c0
  have k1 := bE.c1
  have k2 := bE.c2
  have hwr : IntKind.i64.wrap (a + m) = a + m := IntWalk.i64_in _ ⟨by omega, by omega⟩
  have hwr3 : IntKind.i64.wrap (p - m) = p - m := IntWalk.i64_in _ ⟨by omega, by omega⟩
  have hwr4 : IntKind.i64.wrap (p - m + l.length) = p - m + l.length := IntWalk.i64_in _ ⟨by omega, by omega⟩
  by_cases c1 : p < a
  · have e1 : R = p := by rw [← hR]; unfold mvTo; rw [if_pos c1]
    have E1 := Lib.hid e1
    clear hR e1
    go_enter Tryd.func106, Tryd.ntmps106
    go_wp2
    go_ret
    exact ⟨ret_int E1.out.symm, hal⟩
  by_cases c2 : p = a
  · subst c2
    have hpp : (p == p) = true := by simp
    have e1 : R = x := by rw [← hR]; unfold mvTo; rw [if_neg c1, if_pos (.inl rfl)]
    have E1 := Lib.hid e1
    clear hR e1
    go_enter Tryd.func106, Tryd.ntmps106
    go_wp2
    go_ret
    exact ⟨ret_int E1.out.symm, hal⟩
  have hpp : (p == a) = false := by simpa using c2
  have hc : (p < a + m → R = x) ∧ (¬ p < a + m → R = p - m + l.length) := by
    rw [← hR]; unfold mvTo
    rw [if_neg c1]
    exact ⟨fun h => if_pos (.inr h), fun h => if_neg (by omega)⟩
  have HC := Lib.hid hc
  have HWR := Lib.hid hwr
  clear hR hc c2
  go_enter Tryd.func106, Tryd.ntmps106
  go_wp2_with fail
  generalize w.alloc (.cells #[.int .i64 a, .int .i64 m, .slice A l.length c] 25) = W1 at *
  refine (edEnd_any a m (a + m) A l.length c _ HWR.out).mono ?_
  rintro e w2 ⟨rfl, hb2⟩
  have bE := bE.below hb2
  have hal := below_then hal hb2
  clear k0 k1 k2 hb2
  have k1 := bE.c1
  have k2 := bE.c2
  by_cases c3 : p < a + m
  · have E1 := Lib.hid (HC.out.1 c3)
    go_wp2
    go_ret
    exact ⟨ret_int E1.out.symm, hal⟩
  · have E1 := Lib.hid (HC.out.2 (by omega))
    go_wp2
    go_ret
    exact ⟨ret_int E1.out.symm, hal⟩
end Go.Proofs.YtkplfbhblbinaaaDoor

namespace Go.Proofs.YtkplfbhblbinaaaDoor
open Go.RowKit P
set_option linter.unusedVariables false
set_option linter.unusedSimpArgs false
set_option maxRecDepth 100000

theorem spanI_no {i j a m : Int} {l : List UInt8} (h : spanOk i j a m l = false) : spanI i j a m l = -1 ∧ spanJ i j a m l = -1 := by
  unfold spanI spanJ; rw [h]; exact ⟨rfl, rfl⟩
theorem spanI_yes {i j a m : Int} {l : List UInt8} (h : spanOk i j a m l = true) : spanI i j a m l = spI i a m l.length ∧ spanJ i j a m l = spJ i j a m l.length := by
  unfold spanI spanJ; rw [h]; exact ⟨rfl, rfl⟩

set_option maxHeartbeats 4000000 in
theorem specSpanMove_any (i j a m : Int) (A : Option Addr) (l : List UInt8) (c : Nat) (w : World) (hl9 : l.length ≤ 9223372036854775807) :
    Calls Tryd.prog 76 #[.int .i64 i, .int .i64 j, .agg #[.int .i64 a, .int .i64 m, .slice A l.length c]] w fun e w' => e = .returned (.tuple #[.int .i64 (spanI i j a m l), .int .i64 (spanJ i j a m l)]) ∧ Below w.heap.size w w' := by
  have hal := (Below.refl w.heap.size w).alloc (Nat.le_refl _) (.cells #[.int .i64 a, .int .i64 m, .slice A l.length c] 25)
  have bE := EBox.new w a m A l.length c
  obtain ⟨x, hx⟩ : ∃ x, posMove i true a m l = x := ⟨_, rfl⟩
  obtain ⟨y, hy⟩ : ∃ y, posMove j false a m l = y := ⟨_, rfl⟩
  obtain ⟨R, hR⟩ : ∃ R, spanI i j a m l = R := ⟨_, rfl⟩
  obtain ⟨T, hT⟩ : ∃ R, spanJ i j a m l = R := ⟨_, rfl⟩
  have hno : x < 0 ∨ y < 0 ∨ j < i → R = -1 ∧ T = -1 := by
    intro h
    rw [← hR, ← hT]
    apply spanI_no
    unfold spanOk
    rcases h with h | h | h
    · rw [← hx, posMove_neg] at h
      unfold posOk at h
      simp only [Bool.and_eq_false_iff] at h ⊢
      rcases h with h | h
      · exact .inl h
      · exact .inr (.inl h)
    · rw [← hy, posMove_neg] at h
      unfold posOk at h
      simp only [Bool.and_eq_false_iff] at h ⊢
      rcases h with h | h
      · exact .inl h
      · exact .inr (.inr (.inl h))
    · simp only [Bool.and_eq_false_iff]
      exact .inr (.inr (.inr (decide_eq_false (by omega))))
  have hyes : ¬ x < 0 → ¬ y < 0 → ¬ j < i → R = x ∧ T = max x y ∧ (i = j → max x y = x) := by
    intro h1 h2 h3
    rw [← hx, posMove_neg, Bool.not_eq_false] at h1
    rw [← hy, posMove_neg, Bool.not_eq_false] at h2
    have g1 := h1
    have g2 := h2
    unfold posOk at g1 g2
    rw [Bool.and_eq_true] at g1 g2
    have hs : spanOk i j a m l = true := by
      unfold spanOk
      rw [g1.1, g1.2, g2.2, decide_eq_true (show i ≤ j by omega)]; rfl
    have s := (edSmall_iff a m l).1 g1.1
    obtain ⟨e1, e2⟩ := spanI_yes hs
    have ex : x = mvTo i a m l.length (a + l.length) := by rw [← hx]; unfold posMove; rw [h1]; rfl
    have ey : y = mvTo j a m l.length a := by rw [← hy]; unfold posMove; rw [h2]; rfl
    rw [← hR, ← hT, e1, e2, ex, ey]
    refine ⟨rfl, rfl, fun h => ?_⟩
    subst h
    exact spJ_same (by omega) (by omega)
  rw [hR, hT]
  have HX := Lib.hid hx
  have HY := Lib.hid hy
  have HN := Lib.hid hno
  have HYS := Lib.hid hyes
  clear hx hy hR hT hno hyes
  go_enter Tryd.func76, Tryd.ntmps76
  go_wp2_with fail
  generalize w.alloc (.cells #[.int .i64 a, .int .i64 m, .slice A l.length c] 25) = W1 at *
  have k0 := bE.c0
  have k1 := bE.c1
  have k2 := bE.c2
  go_wp2_with fail
  refine (specPosMove_any i true a m A l c _ hl9).mono ?_
  rintro e w2 ⟨rfl, hb2⟩
  rw [HX.out]
  have bE := bE.below hb2
  have hal := below_then hal hb2
  clear k0 k1 k2 hb2
  have k0 := bE.c0
  have k1 := bE.c1
  have k2 := bE.c2
  go_wp2_with fail
  refine (specPosMove_any j false a m A l c _ hl9).mono ?_
  rintro e w3 ⟨rfl, hb3⟩
  rw [HY.out]
  have hal := below_then hal hb3
  clear k0 k1 k2 hb3 bE
  by_cases h1 : x < 0
  · obtain ⟨e1, e2⟩ := HN.out (.inl h1)
    subst e1; subst e2
    go_wp2
    go_ret2
    exact ⟨rfl, hal⟩
  by_cases h2 : y < 0
  · obtain ⟨e1, e2⟩ := HN.out (.inr (.inl h2))
    subst e1; subst e2
    go_wp2
    go_ret2
    exact ⟨rfl, hal⟩
  by_cases h3 : j < i
  · obtain ⟨e1, e2⟩ := HN.out (.inr (.inr h3))
    subst e1; subst e2
    go_wp2
    go_ret2
    exact ⟨rfl, hal⟩
  obtain ⟨e1, e2, e3⟩ := HYS.out (by omega) (by omega) (by omega)
  subst e1
  by_cases h4 : i = j
  · have e4 := (e2.trans (e3 h4))
    subst e4
    subst h4
    have hii : (i == i) = true := by simp
    clear e2 e3
    go_wp2
    go_ret2
    exact ⟨rfl, hal⟩
  have hij : (i == j) = false := by simpa using h4
  have E2 := Lib.hid e2
  clear e2 e3 h4
  by_cases h5 : R < y
  · have e5 : T = y := by rw [E2.out]; omega
    subst e5
    clear E2
    go_wp2
    go_ret2
    exact ⟨rfl, hal⟩
  · have e5 : T = R := by rw [E2.out]; omega
    subst e5
    clear E2
    go_wp2
    go_ret2
    exact ⟨rfl, hal⟩

set_option maxHeartbeats 1000000 in
theorem edBefore_any (p a m : Int) (A : Option Addr) (l : List UInt8) (c : Nat) (w : World) (hq : 0 ≤ p ∧ p ≤ 800) (hs : 0 ≤ a ∧ a ≤ 400 ∧ 0 ≤ m ∧ m ≤ 400 ∧ l.length ≤ 400) :
    Calls Tryd.prog 96 #[.agg #[.int .i64 a, .int .i64 m, .slice A l.length c], .int .i64 p] w fun e w' => e = .returned (.int .i64 (mvTo p a m l.length a)) ∧ Below w.heap.size w w' := by
  have hal := (Below.refl w.heap.size w).alloc (Nat.le_refl _) (.cells #[.int .i64 a, .int .i64 m, .slice A l.length c] 25)
  go_enter Tryd.func96, Tryd.ntmps96
  go_wp2_with fail
  refine (edMoved_any p a a m A l c _ hq hs).mono ?_
  rintro e w2 ⟨rfl, hb2⟩
  have hal := below_then hal hb2
  go_wp2
  go_ret
  exact ⟨rfl, hal⟩

set_option maxHeartbeats 1000000 in
theorem edBehind_any (p a m : Int) (A : Option Addr) (l : List UInt8) (c : Nat) (w : World) (hq : 0 ≤ p ∧ p ≤ 800) (hs : 0 ≤ a ∧ a ≤ 400 ∧ 0 ≤ m ∧ m ≤ 400 ∧ l.length ≤ 400) :
    Calls Tryd.prog 95 #[.agg #[.int .i64 a, .int .i64 m, .slice A l.length c], .int .i64 p] w fun e w' => e = .returned (.int .i64 (mvTo p a m l.length (a + l.length))) ∧ Below w.heap.size w w' := by
  have hal := (Below.refl w.heap.size w).alloc (Nat.le_refl _) (.cells #[.int .i64 a, .int .i64 m, .slice A l.length c] 25)
  have hwr : IntKind.i64.wrap (a + l.length) = a + l.length := IntWalk.i64_in _ ⟨by omega, by omega⟩
  go_enter Tryd.func95, Tryd.ntmps95
  go_wp2_with fail
  refine (edMoved_any p (a + l.length) a m A l c _ hq hs).mono ?_
  rintro e w2 ⟨rfl, hb2⟩
  have hal := below_then hal hb2
  go_wp2
  go_ret
  exact ⟨rfl, hal⟩

end Go.Proofs.YtkplfbhblbinaaaDoor

namespace Go.Proofs.YtkplfbhblbinaaaDoor
open Go.RowKit P
set_option linter.unusedVariables false
set_option linter.unusedSimpArgs false
set_option maxRecDepth 100000

set_option maxHeartbeats 8000000 in
theorem selMoved_ff (f t a m : Int) (A : Option Addr) (l : List UInt8) (c : Nat) (w : World) (hf : 0 ≤ f ∧ f ≤ 800) (ht : 0 ≤ t ∧ t ≤ 800) (hs : 0 ≤ a ∧ a ≤ 400 ∧ 0 ≤ m ∧ m ≤ 400 ∧ l.length ≤ 400) :
    Calls Tryd.prog 94 #[.agg #[.int .i64 f, .int .i64 t], .agg #[.int .i64 a, .int .i64 m, .slice A l.length c], .func (.func 96) #[] #[], .func (.func 96) #[] #[]] w fun e w' => e = .returned (.agg #[.int .i64 (mvTo f a m l.length a), .int .i64 (mvTo t a m l.length a)]) ∧ Below w.heap.size w w' := by
  have hal := (((Below.refl w.heap.size w).alloc (Nat.le_refl _) (.cells #[.int .i64 f, .int .i64 t] 90)).alloc (by simp) (.cells #[.int .i64 a, .int .i64 m, .slice A l.length c] 25)).alloc (by simp; omega) (.cells #[.int .i64 0, .int .i64 0] 90)
  have bS := ((Blk.new w #[.int .i64 f, .int .i64 t] 90).below ((Below.refl _ _).alloc (Nat.le_refl _) (.cells #[.int .i64 a, .int .i64 m, .slice A l.length c] 25))).below ((Below.refl _ _).alloc (Nat.le_refl _) (.cells #[.int .i64 0, .int .i64 0] 90))
  have bE := (EBox.new (w.alloc (.cells #[.int .i64 f, .int .i64 t] 90)) a m A l.length c).below ((Below.refl _ _).alloc (Nat.le_refl _) (.cells #[.int .i64 0, .int .i64 0] 90))
  have bR := Blk.new ((w.alloc (.cells #[.int .i64 f, .int .i64 t] 90)).alloc (.cells #[.int .i64 a, .int .i64 m, .slice A l.length c] 25)) #[.int .i64 0, .int .i64 0] 90
  simp only [World.size_alloc] at bE bR
  obtain ⟨x, hx⟩ : ∃ x, mvTo f a m l.length a = x := ⟨_, rfl⟩
  obtain ⟨y, hy⟩ : ∃ y, mvTo t a m l.length a = y := ⟨_, rfl⟩
  have HX := Lib.hid hx
  have HY := Lib.hid hy
  rw [hx, hy]
  clear hx hy
  go_enter Tryd.func94, Tryd.ntmps94
  go_wp2_with fail
  generalize ((w.alloc (.cells #[.int .i64 f, .int .i64 t] 90)).alloc (.cells #[.int .i64 a, .int .i64 m, .slice A l.length c] 25)).alloc (.cells #[.int .i64 0, .int .i64 0] 90) = W1 at *
  have s0 := bS.cell 0
  have s1 := bS.cell 1
  have k0 := bE.c0
  have k1 := bE.c1
  have k2 := bE.c2
  have HS := Lib.hid bS
  have HE := Lib.hid bE.blk
  have HR := Lib.hid bR
  have HAL := Lib.hid hal
  clear bS bE bR hal
  refine wp_region_held_drew (S := (fun V => (V).cell? ⟨w.heap.size, 0, none⟩ = some (.int .i64 f) ∧ (V).cell? ⟨w.heap.size, 1, none⟩ = some (.int .i64 t) ∧ (V).cell? ⟨w.heap.size + 1, 0, none⟩ = some (.int .i64 a) ∧ (V).cell? ⟨w.heap.size + 1, 1, none⟩ = some (.int .i64 m) ∧ (V).cell? ⟨w.heap.size + 1, 2, none⟩ = some (.slice A l.length c))) (by kernel_rfl) (by exact ⟨s0, s1, k0, k1, k2⟩) (fun hHeld => ?_)
  clear s0 s1 k0 k1 k2
  refine wpAnyH_take (i := 0) (oi := ?_) (v := ?_) ?_ ?_ ?_ ?_ ?_ ?_ (by exact hHeld) ?_
  rotate_left 2
  · (simp only [List.getElem?_toArray, List.getElem?_cons_zero]; try rfl)
  · kernel_rfl
  · kernel_rfl
  · kernel_rfl
  · exact fun _ _ _ h => h
  · refine Or.inl ⟨by rfl, ?_⟩
    (intro V hSV; (try dsimp only at hSV); obtain ⟨q0, q1, q2, q3, q4⟩ := hSV; go_simp; try with_reducible rfl)
  (try simp only [Act.put, List.setIfInBounds_toArray, List.set_cons_zero, List.set_cons_succ])
  refine wpAnyH_take (i := 1) (oi := ?_) (v := ?_) ?_ ?_ ?_ ?_ ?_ ?_ (by exact hHeld) ?_
  rotate_left 2
  · (simp only [List.getElem?_toArray, List.getElem?_cons_zero, List.getElem?_cons_succ]; try rfl)
  · kernel_rfl
  · kernel_rfl
  · kernel_rfl
  · exact fun _ _ _ h => h
  · refine Or.inl ⟨by rfl, ?_⟩
    (intro V hSV; (try dsimp only at hSV); obtain ⟨q0, q1, q2, q3, q4⟩ := hSV; go_simp; try with_reducible rfl)
  (try simp only [Act.put, List.setIfInBounds_toArray, List.set_cons_zero, List.set_cons_succ])
  refine wpAnyH_take (i := 2) (oi := ?_) (v := ?_) ?_ ?_ ?_ ?_ ?_ ?_ (by exact hHeld) ?_
  rotate_left 2
  · (simp only [List.getElem?_toArray, List.getElem?_cons_zero, List.getElem?_cons_succ]; try rfl)
  · kernel_rfl
  · kernel_rfl
  · kernel_rfl
  · exact fun _ _ _ h => h
  · refine Or.inl ⟨by rfl, ?_⟩
    (intro V hSV; (try dsimp only at hSV); obtain ⟨q0, q1, q2, q3, q4⟩ := hSV; go_simp; try with_reducible rfl)
  (try simp only [Act.put, List.setIfInBounds_toArray, List.set_cons_zero, List.set_cons_succ])
  refine wpAnyH_take (i := 3) (oi := ?_) (v := ?_) ?_ ?_ ?_ ?_ ?_ ?_ (by exact hHeld) ?_
  rotate_left 2
  · (simp only [List.getElem?_toArray, List.getElem?_cons_zero, List.getElem?_cons_succ]; try rfl)
  · kernel_rfl
  · kernel_rfl
  · kernel_rfl
  · exact fun _ _ _ h => h
  · refine Or.inl ⟨by rfl, ?_⟩
    (intro V hSV; (try dsimp only at hSV); obtain ⟨q0, q1, q2, q3, q4⟩ := hSV; go_simp; try with_reducible rfl)
  (try simp only [Act.put, List.setIfInBounds_toArray, List.set_cons_zero, List.set_cons_succ])
  refine wpAnyH_take (i := 5) (oi := ?_) (v := ?_) ?_ ?_ ?_ ?_ ?_ ?_ (by exact hHeld) ?_
  rotate_left 2
  · (simp only [List.getElem?_toArray, List.getElem?_cons_zero, List.getElem?_cons_succ]; try rfl)
  · kernel_rfl
  · kernel_rfl
  · kernel_rfl
  · exact fun _ _ _ h => h
  · refine Or.inl ⟨by rfl, ?_⟩
    (intro V hSV; (try dsimp only at hSV); obtain ⟨q0, q1, q2, q3, q4⟩ := hSV; go_simp; try with_reducible rfl)
  (try simp only [Act.put, List.setIfInBounds_toArray, List.set_cons_zero, List.set_cons_succ])
  refine wpAnyH_take (i := 6) (oi := ?_) (v := ?_) ?_ ?_ ?_ ?_ ?_ ?_ (by exact hHeld) ?_
  rotate_left 2
  · (simp only [List.getElem?_toArray, List.getElem?_cons_zero, List.getElem?_cons_succ]; try rfl)
  · kernel_rfl
  · kernel_rfl
  · kernel_rfl
  · exact fun _ _ _ h => h
  · refine Or.inl ⟨by rfl, ?_⟩
    (intro V hSV; (try dsimp only at hSV); obtain ⟨q0, q1, q2, q3, q4⟩ := hSV; go_simp; try with_reducible rfl)
  (try simp only [Act.put, List.setIfInBounds_toArray, List.set_cons_zero, List.set_cons_succ])
  refine wpAnyH_take (i := 7) (oi := ?_) (v := ?_) ?_ ?_ ?_ ?_ ?_ ?_ (by exact hHeld) ?_
  rotate_left 2
  · (simp only [List.getElem?_toArray, List.getElem?_cons_zero, List.getElem?_cons_succ]; try rfl)
  · kernel_rfl
  · kernel_rfl
  · kernel_rfl
  · exact fun _ _ _ h => h
  · refine Or.inl ⟨by rfl, ?_⟩
    (intro V hSV; (try dsimp only at hSV); obtain ⟨q0, q1, q2, q3, q4⟩ := hSV; go_simp; try with_reducible rfl)
  (try simp only [Act.put, List.setIfInBounds_toArray, List.set_cons_zero, List.set_cons_succ])
  refine wpAnyH_take (i := 8) (oi := ?_) (v := ?_) ?_ ?_ ?_ ?_ ?_ ?_ (by exact hHeld) ?_
  rotate_left 2
  · (simp only [List.getElem?_toArray, List.getElem?_cons_zero, List.getElem?_cons_succ]; try rfl)
  · kernel_rfl
  · kernel_rfl
  · kernel_rfl
  · exact fun _ _ _ h => h
  · refine Or.inl ⟨by rfl, ?_⟩
    (intro V hSV; (try dsimp only at hSV); obtain ⟨q0, q1, q2, q3, q4⟩ := hSV; go_simp; try with_reducible rfl)
  (try simp only [Act.put, List.setIfInBounds_toArray, List.set_cons_zero, List.set_cons_succ])
  refine wpAnyH_ready (rs := [4]) (by kernel_rfl) (by simp) ?_
  refine AllReadyH.cons rfl (fun K hK => ?_) AllReadyH.nil
  go_simp
  refine (edBefore_any f a m A l c _ hf hs).mono ?_
  rintro e w3 ⟨rfl, hb⟩
  rw [HX.out]
  have hb : Below W1.heap.size W1 w3 := ⟨hb.os, hb.tape, hb.output, hb.size, hb.block⟩
  have HB3 := Lib.hid hb
  clear hb
  go_wp2_with fail
  refine hK.out _ _ (by exact ⟨(HS.out.below HB3.out).cell 0, (HS.out.below HB3.out).cell 1, (HE.out.below HB3.out).cell 0, (HE.out.below HB3.out).cell 1, (HE.out.below HB3.out).cell 2⟩) (fun hHeld => ?_)
  clear hK K
  (try simp only [Act.put, List.setIfInBounds_toArray, List.set_cons_zero, List.set_cons_succ])
  refine wpAnyH_ready (rs := [9]) (by kernel_rfl) (by simp) ?_
  refine AllReadyH.cons rfl (fun K hK => ?_) AllReadyH.nil
  go_simp
  refine (edBefore_any t a m A l c _ ht hs).mono ?_
  rintro e w4 ⟨rfl, hb⟩
  rw [HY.out]
  have hb : Below w3.heap.size w3 w4 := ⟨hb.os, hb.tape, hb.output, hb.size, hb.block⟩
  have HB4 := Lib.hid (below_then HB3.out hb)
  clear hb
  go_wp2_with fail
  refine hK.out _ _ (by exact ⟨(HS.out.below HB4.out).cell 0, (HS.out.below HB4.out).cell 1, (HE.out.below HB4.out).cell 0, (HE.out.below HB4.out).cell 1, (HE.out.below HB4.out).cell 2⟩) (fun hHeld => ?_)
  clear hK K
  (try simp only [Act.put, List.setIfInBounds_toArray, List.set_cons_zero, List.set_cons_succ])
  refine wpAnyH_take (i := 10) (oi := ?_) (v := ?_) ?_ ?_ ?_ ?_ ?_ ?_ (by exact hHeld) ?_
  rotate_left 2
  · (simp only [List.getElem?_toArray, List.getElem?_cons_zero, List.getElem?_cons_succ]; try rfl)
  · kernel_rfl
  · kernel_rfl
  · kernel_rfl
  · exact fun _ _ _ h => h
  · refine Or.inl ⟨by rfl, ?_⟩
    (intro V hSV; (try dsimp only at hSV); obtain ⟨q0, q1, q2, q3, q4⟩ := hSV; go_simp; try with_reducible rfl)
  (try simp only [Act.put, List.setIfInBounds_toArray, List.set_cons_zero, List.set_cons_succ])
  have HS4 := Lib.hid (HS.out.below HB4.out)
  have HE4 := Lib.hid (HE.out.below HB4.out)
  have HR4 := Lib.hid (HR.out.below HB4.out)
  have r0 := HR4.out.cell 0
  have r1 := HR4.out.cell 1
  have f0 := HR4.out.frozen 0
  have f1 := HR4.out.frozen 1
  refine wpAnyH_ready (rs := [11]) (by kernel_rfl) (by simp) ?_
  refine AllReadyH.cons (o := ?_) ?_ (fun K hK => ?_) AllReadyH.nil
  rotate_left 1
  · (simp only [List.getElem?_toArray, List.getElem?_cons_zero, List.getElem?_cons_succ]; try rfl)
  go_simp
  refine hK.out _ _ (by exact ⟨((HS4.out.setFar9 (by omega) 0 (.int .i64 x)).setFar9 (by omega) 1 (.int .i64 y)).cell 0, ((HS4.out.setFar9 (by omega) 0 (.int .i64 x)).setFar9 (by omega) 1 (.int .i64 y)).cell 1, ((HE4.out.setFar9 (by omega) 0 (.int .i64 x)).setFar9 (by omega) 1 (.int .i64 y)).cell 0, ((HE4.out.setFar9 (by omega) 0 (.int .i64 x)).setFar9 (by omega) 1 (.int .i64 y)).cell 1, ((HE4.out.setFar9 (by omega) 0 (.int .i64 x)).setFar9 (by omega) 1 (.int .i64 y)).cell 2⟩) (fun hHeld => ?_)
  clear hK K
  (try simp only [Act.put, List.setIfInBounds_toArray, List.set_cons_zero, List.set_cons_succ])
  refine wpAnyH_done (by kernel_rfl) ?_ _
  have hlt := HR4.out.lt
  have hB := below_then HAL.out HB4.out
  go_wp2
  refine bodyPost_ret (v := .agg #[.int .i64 x, .int .i64 y]) (by simp [results, Tryd.results94, go_sem, r0, r1]) rfl ⟨rfl, ?_⟩
  (repeat (first | exact Below.refl _ _ | assumption | refine Below.setCell ?_ (by first | (simp; done) | (simp; omega) | omega) _ | refine Below.drew ?_ | refine below_drewN ?_ _ | refine Below.alloc ?_ (by first | (simp; done) | (simp; omega) | omega) _))

set_option maxHeartbeats 8000000 in
theorem selMoved_ft (f t a m : Int) (A : Option Addr) (l : List UInt8) (c : Nat) (w : World) (hf : 0 ≤ f ∧ f ≤ 800) (ht : 0 ≤ t ∧ t ≤ 800) (hs : 0 ≤ a ∧ a ≤ 400 ∧ 0 ≤ m ∧ m ≤ 400 ∧ l.length ≤ 400) :
    Calls Tryd.prog 94 #[.agg #[.int .i64 f, .int .i64 t], .agg #[.int .i64 a, .int .i64 m, .slice A l.length c], .func (.func 96) #[] #[], .func (.func 95) #[] #[]] w fun e w' => e = .returned (.agg #[.int .i64 (mvTo f a m l.length a), .int .i64 (mvTo t a m l.length (a + l.length))]) ∧ Below w.heap.size w w' := by
  have hal := (((Below.refl w.heap.size w).alloc (Nat.le_refl _) (.cells #[.int .i64 f, .int .i64 t] 90)).alloc (by simp) (.cells #[.int .i64 a, .int .i64 m, .slice A l.length c] 25)).alloc (by simp; omega) (.cells #[.int .i64 0, .int .i64 0] 90)
  have bS := ((Blk.new w #[.int .i64 f, .int .i64 t] 90).below ((Below.refl _ _).alloc (Nat.le_refl _) (.cells #[.int .i64 a, .int .i64 m, .slice A l.length c] 25))).below ((Below.refl _ _).alloc (Nat.le_refl _) (.cells #[.int .i64 0, .int .i64 0] 90))
  have bE := (EBox.new (w.alloc (.cells #[.int .i64 f, .int .i64 t] 90)) a m A l.length c).below ((Below.refl _ _).alloc (Nat.le_refl _) (.cells #[.int .i64 0, .int .i64 0] 90))
  have bR := Blk.new ((w.alloc (.cells #[.int .i64 f, .int .i64 t] 90)).alloc (.cells #[.int .i64 a, .int .i64 m, .slice A l.length c] 25)) #[.int .i64 0, .int .i64 0] 90
  simp only [World.size_alloc] at bE bR
  obtain ⟨x, hx⟩ : ∃ x, mvTo f a m l.length a = x := ⟨_, rfl⟩
  obtain ⟨y, hy⟩ : ∃ y, mvTo t a m l.length (a + l.length) = y := ⟨_, rfl⟩
  have HX := Lib.hid hx
  have HY := Lib.hid hy
  rw [hx, hy]
  clear hx hy
  go_enter Tryd.func94, Tryd.ntmps94
  go_wp2_with fail
  generalize ((w.alloc (.cells #[.int .i64 f, .int .i64 t] 90)).alloc (.cells #[.int .i64 a, .int .i64 m, .slice A l.length c] 25)).alloc (.cells #[.int .i64 0, .int .i64 0] 90) = W1 at *
  have s0 := bS.cell 0
  have s1 := bS.cell 1
  have k0 := bE.c0
  have k1 := bE.c1
  have k2 := bE.c2
  have HS := Lib.hid bS
  have HE := Lib.hid bE.blk
  have HR := Lib.hid bR
  have HAL := Lib.hid hal
  clear bS bE bR hal
  refine wp_region_held_drew (S := (fun V => (V).cell? ⟨w.heap.size, 0, none⟩ = some (.int .i64 f) ∧ (V).cell? ⟨w.heap.size, 1, none⟩ = some (.int .i64 t) ∧ (V).cell? ⟨w.heap.size + 1, 0, none⟩ = some (.int .i64 a) ∧ (V).cell? ⟨w.heap.size + 1, 1, none⟩ = some (.int .i64 m) ∧ (V).cell? ⟨w.heap.size + 1, 2, none⟩ = some (.slice A l.length c))) (by kernel_rfl) (by exact ⟨s0, s1, k0, k1, k2⟩) (fun hHeld => ?_)
  clear s0 s1 k0 k1 k2
  refine wpAnyH_take (i := 0) (oi := ?_) (v := ?_) ?_ ?_ ?_ ?_ ?_ ?_ (by exact hHeld) ?_
  rotate_left 2
  · (simp only [List.getElem?_toArray, List.getElem?_cons_zero]; try rfl)
  · kernel_rfl
  · kernel_rfl
  · kernel_rfl
  · exact fun _ _ _ h => h
  · refine Or.inl ⟨by rfl, ?_⟩
    (intro V hSV; (try dsimp only at hSV); obtain ⟨q0, q1, q2, q3, q4⟩ := hSV; go_simp; try with_reducible rfl)
  (try simp only [Act.put, List.setIfInBounds_toArray, List.set_cons_zero, List.set_cons_succ])
  refine wpAnyH_take (i := 1) (oi := ?_) (v := ?_) ?_ ?_ ?_ ?_ ?_ ?_ (by exact hHeld) ?_
  rotate_left 2
  · (simp only [List.getElem?_toArray, List.getElem?_cons_zero, List.getElem?_cons_succ]; try rfl)
  · kernel_rfl
  · kernel_rfl
  · kernel_rfl
  · exact fun _ _ _ h => h
  · refine Or.inl ⟨by rfl, ?_⟩
    (intro V hSV; (try dsimp only at hSV); obtain ⟨q0, q1, q2, q3, q4⟩ := hSV; go_simp; try with_reducible rfl)
  (try simp only [Act.put, List.setIfInBounds_toArray, List.set_cons_zero, List.set_cons_succ])
  refine wpAnyH_take (i := 2) (oi := ?_) (v := ?_) ?_ ?_ ?_ ?_ ?_ ?_ (by exact hHeld) ?_
  rotate_left 2
  · (simp only [List.getElem?_toArray, List.getElem?_cons_zero, List.getElem?_cons_succ]; try rfl)
  · kernel_rfl
  · kernel_rfl
  · kernel_rfl
  · exact fun _ _ _ h => h
  · refine Or.inl ⟨by rfl, ?_⟩
    (intro V hSV; (try dsimp only at hSV); obtain ⟨q0, q1, q2, q3, q4⟩ := hSV; go_simp; try with_reducible rfl)
  (try simp only [Act.put, List.setIfInBounds_toArray, List.set_cons_zero, List.set_cons_succ])
  refine wpAnyH_take (i := 3) (oi := ?_) (v := ?_) ?_ ?_ ?_ ?_ ?_ ?_ (by exact hHeld) ?_
  rotate_left 2
  · (simp only [List.getElem?_toArray, List.getElem?_cons_zero, List.getElem?_cons_succ]; try rfl)
  · kernel_rfl
  · kernel_rfl
  · kernel_rfl
  · exact fun _ _ _ h => h
  · refine Or.inl ⟨by rfl, ?_⟩
    (intro V hSV; (try dsimp only at hSV); obtain ⟨q0, q1, q2, q3, q4⟩ := hSV; go_simp; try with_reducible rfl)
  (try simp only [Act.put, List.setIfInBounds_toArray, List.set_cons_zero, List.set_cons_succ])
  refine wpAnyH_take (i := 5) (oi := ?_) (v := ?_) ?_ ?_ ?_ ?_ ?_ ?_ (by exact hHeld) ?_
  rotate_left 2
  · (simp only [List.getElem?_toArray, List.getElem?_cons_zero, List.getElem?_cons_succ]; try rfl)
  · kernel_rfl
  · kernel_rfl
  · kernel_rfl
  · exact fun _ _ _ h => h
  · refine Or.inl ⟨by rfl, ?_⟩
    (intro V hSV; (try dsimp only at hSV); obtain ⟨q0, q1, q2, q3, q4⟩ := hSV; go_simp; try with_reducible rfl)
  (try simp only [Act.put, List.setIfInBounds_toArray, List.set_cons_zero, List.set_cons_succ])
  refine wpAnyH_take (i := 6) (oi := ?_) (v := ?_) ?_ ?_ ?_ ?_ ?_ ?_ (by exact hHeld) ?_
  rotate_left 2
  · (simp only [List.getElem?_toArray, List.getElem?_cons_zero, List.getElem?_cons_succ]; try rfl)
  · kernel_rfl
  · kernel_rfl
  · kernel_rfl
  · exact fun _ _ _ h => h
  · refine Or.inl ⟨by rfl, ?_⟩
    (intro V hSV; (try dsimp only at hSV); obtain ⟨q0, q1, q2, q3, q4⟩ := hSV; go_simp; try with_reducible rfl)
  (try simp only [Act.put, List.setIfInBounds_toArray, List.set_cons_zero, List.set_cons_succ])
  refine wpAnyH_take (i := 7) (oi := ?_) (v := ?_) ?_ ?_ ?_ ?_ ?_ ?_ (by exact hHeld) ?_
  rotate_left 2
  · (simp only [List.getElem?_toArray, List.getElem?_cons_zero, List.getElem?_cons_succ]; try rfl)
  · kernel_rfl
  · kernel_rfl
  · kernel_rfl
  · exact fun _ _ _ h => h
  · refine Or.inl ⟨by rfl, ?_⟩
    (intro V hSV; (try dsimp only at hSV); obtain ⟨q0, q1, q2, q3, q4⟩ := hSV; go_simp; try with_reducible rfl)
  (try simp only [Act.put, List.setIfInBounds_toArray, List.set_cons_zero, List.set_cons_succ])
  refine wpAnyH_take (i := 8) (oi := ?_) (v := ?_) ?_ ?_ ?_ ?_ ?_ ?_ (by exact hHeld) ?_
  rotate_left 2
  · (simp only [List.getElem?_toArray, List.getElem?_cons_zero, List.getElem?_cons_succ]; try rfl)
  · kernel_rfl
  · kernel_rfl
  · kernel_rfl
  · exact fun _ _ _ h => h
  · refine Or.inl ⟨by rfl, ?_⟩
    (intro V hSV; (try dsimp only at hSV); obtain ⟨q0, q1, q2, q3, q4⟩ := hSV; go_simp; try with_reducible rfl)
  (try simp only [Act.put, List.setIfInBounds_toArray, List.set_cons_zero, List.set_cons_succ])
  refine wpAnyH_ready (rs := [4]) (by kernel_rfl) (by simp) ?_
  refine AllReadyH.cons rfl (fun K hK => ?_) AllReadyH.nil
  go_simp
  refine (edBefore_any f a m A l c _ hf hs).mono ?_
  rintro e w3 ⟨rfl, hb⟩
  rw [HX.out]
  have hb : Below W1.heap.size W1 w3 := ⟨hb.os, hb.tape, hb.output, hb.size, hb.block⟩
  have HB3 := Lib.hid hb
  clear hb
  go_wp2_with fail
  refine hK.out _ _ (by exact ⟨(HS.out.below HB3.out).cell 0, (HS.out.below HB3.out).cell 1, (HE.out.below HB3.out).cell 0, (HE.out.below HB3.out).cell 1, (HE.out.below HB3.out).cell 2⟩) (fun hHeld => ?_)
  clear hK K
  (try simp only [Act.put, List.setIfInBounds_toArray, List.set_cons_zero, List.set_cons_succ])
  refine wpAnyH_ready (rs := [9]) (by kernel_rfl) (by simp) ?_
  refine AllReadyH.cons rfl (fun K hK => ?_) AllReadyH.nil
  go_simp
  refine (edBehind_any t a m A l c _ ht hs).mono ?_
  rintro e w4 ⟨rfl, hb⟩
  rw [HY.out]
  have hb : Below w3.heap.size w3 w4 := ⟨hb.os, hb.tape, hb.output, hb.size, hb.block⟩
  have HB4 := Lib.hid (below_then HB3.out hb)
  clear hb
  go_wp2_with fail
  refine hK.out _ _ (by exact ⟨(HS.out.below HB4.out).cell 0, (HS.out.below HB4.out).cell 1, (HE.out.below HB4.out).cell 0, (HE.out.below HB4.out).cell 1, (HE.out.below HB4.out).cell 2⟩) (fun hHeld => ?_)
  clear hK K
  (try simp only [Act.put, List.setIfInBounds_toArray, List.set_cons_zero, List.set_cons_succ])
  refine wpAnyH_take (i := 10) (oi := ?_) (v := ?_) ?_ ?_ ?_ ?_ ?_ ?_ (by exact hHeld) ?_
  rotate_left 2
  · (simp only [List.getElem?_toArray, List.getElem?_cons_zero, List.getElem?_cons_succ]; try rfl)
  · kernel_rfl
  · kernel_rfl
  · kernel_rfl
  · exact fun _ _ _ h => h
  · refine Or.inl ⟨by rfl, ?_⟩
    (intro V hSV; (try dsimp only at hSV); obtain ⟨q0, q1, q2, q3, q4⟩ := hSV; go_simp; try with_reducible rfl)
  (try simp only [Act.put, List.setIfInBounds_toArray, List.set_cons_zero, List.set_cons_succ])
  have HS4 := Lib.hid (HS.out.below HB4.out)
  have HE4 := Lib.hid (HE.out.below HB4.out)
  have HR4 := Lib.hid (HR.out.below HB4.out)
  have r0 := HR4.out.cell 0
  have r1 := HR4.out.cell 1
  have f0 := HR4.out.frozen 0
  have f1 := HR4.out.frozen 1
  refine wpAnyH_ready (rs := [11]) (by kernel_rfl) (by simp) ?_
  refine AllReadyH.cons (o := ?_) ?_ (fun K hK => ?_) AllReadyH.nil
  rotate_left 1
  · (simp only [List.getElem?_toArray, List.getElem?_cons_zero, List.getElem?_cons_succ]; try rfl)
  go_simp
  refine hK.out _ _ (by exact ⟨((HS4.out.setFar9 (by omega) 0 (.int .i64 x)).setFar9 (by omega) 1 (.int .i64 y)).cell 0, ((HS4.out.setFar9 (by omega) 0 (.int .i64 x)).setFar9 (by omega) 1 (.int .i64 y)).cell 1, ((HE4.out.setFar9 (by omega) 0 (.int .i64 x)).setFar9 (by omega) 1 (.int .i64 y)).cell 0, ((HE4.out.setFar9 (by omega) 0 (.int .i64 x)).setFar9 (by omega) 1 (.int .i64 y)).cell 1, ((HE4.out.setFar9 (by omega) 0 (.int .i64 x)).setFar9 (by omega) 1 (.int .i64 y)).cell 2⟩) (fun hHeld => ?_)
  clear hK K
  (try simp only [Act.put, List.setIfInBounds_toArray, List.set_cons_zero, List.set_cons_succ])
  refine wpAnyH_done (by kernel_rfl) ?_ _
  have hlt := HR4.out.lt
  have hB := below_then HAL.out HB4.out
  go_wp2
  refine bodyPost_ret (v := .agg #[.int .i64 x, .int .i64 y]) (by simp [results, Tryd.results94, go_sem, r0, r1]) rfl ⟨rfl, ?_⟩
  (repeat (first | exact Below.refl _ _ | assumption | refine Below.setCell ?_ (by first | (simp; done) | (simp; omega) | omega) _ | refine Below.drew ?_ | refine below_drewN ?_ _ | refine Below.alloc ?_ (by first | (simp; done) | (simp; omega) | omega) _))

set_option maxHeartbeats 8000000 in
theorem selMoved_tf (f t a m : Int) (A : Option Addr) (l : List UInt8) (c : Nat) (w : World) (hf : 0 ≤ f ∧ f ≤ 800) (ht : 0 ≤ t ∧ t ≤ 800) (hs : 0 ≤ a ∧ a ≤ 400 ∧ 0 ≤ m ∧ m ≤ 400 ∧ l.length ≤ 400) :
    Calls Tryd.prog 94 #[.agg #[.int .i64 f, .int .i64 t], .agg #[.int .i64 a, .int .i64 m, .slice A l.length c], .func (.func 95) #[] #[], .func (.func 96) #[] #[]] w fun e w' => e = .returned (.agg #[.int .i64 (mvTo f a m l.length (a + l.length)), .int .i64 (mvTo t a m l.length a)]) ∧ Below w.heap.size w w' := by
  have hal := (((Below.refl w.heap.size w).alloc (Nat.le_refl _) (.cells #[.int .i64 f, .int .i64 t] 90)).alloc (by simp) (.cells #[.int .i64 a, .int .i64 m, .slice A l.length c] 25)).alloc (by simp; omega) (.cells #[.int .i64 0, .int .i64 0] 90)
  have bS := ((Blk.new w #[.int .i64 f, .int .i64 t] 90).below ((Below.refl _ _).alloc (Nat.le_refl _) (.cells #[.int .i64 a, .int .i64 m, .slice A l.length c] 25))).below ((Below.refl _ _).alloc (Nat.le_refl _) (.cells #[.int .i64 0, .int .i64 0] 90))
  have bE := (EBox.new (w.alloc (.cells #[.int .i64 f, .int .i64 t] 90)) a m A l.length c).below ((Below.refl _ _).alloc (Nat.le_refl _) (.cells #[.int .i64 0, .int .i64 0] 90))
  have bR := Blk.new ((w.alloc (.cells #[.int .i64 f, .int .i64 t] 90)).alloc (.cells #[.int .i64 a, .int .i64 m, .slice A l.length c] 25)) #[.int .i64 0, .int .i64 0] 90
  simp only [World.size_alloc] at bE bR
  obtain ⟨x, hx⟩ : ∃ x, mvTo f a m l.length (a + l.length) = x := ⟨_, rfl⟩
  obtain ⟨y, hy⟩ : ∃ y, mvTo t a m l.length a = y := ⟨_, rfl⟩
  have HX := Lib.hid hx
  have HY := Lib.hid hy
  rw [hx, hy]
  clear hx hy
  go_enter Tryd.func94, Tryd.ntmps94
  go_wp2_with fail
  generalize ((w.alloc (.cells #[.int .i64 f, .int .i64 t] 90)).alloc (.cells #[.int .i64 a, .int .i64 m, .slice A l.length c] 25)).alloc (.cells #[.int .i64 0, .int .i64 0] 90) = W1 at *
  have s0 := bS.cell 0
  have s1 := bS.cell 1
  have k0 := bE.c0
  have k1 := bE.c1
  have k2 := bE.c2
  have HS := Lib.hid bS
  have HE := Lib.hid bE.blk
  have HR := Lib.hid bR
  have HAL := Lib.hid hal
  clear bS bE bR hal
  refine wp_region_held_drew (S := (fun V => (V).cell? ⟨w.heap.size, 0, none⟩ = some (.int .i64 f) ∧ (V).cell? ⟨w.heap.size, 1, none⟩ = some (.int .i64 t) ∧ (V).cell? ⟨w.heap.size + 1, 0, none⟩ = some (.int .i64 a) ∧ (V).cell? ⟨w.heap.size + 1, 1, none⟩ = some (.int .i64 m) ∧ (V).cell? ⟨w.heap.size + 1, 2, none⟩ = some (.slice A l.length c))) (by kernel_rfl) (by exact ⟨s0, s1, k0, k1, k2⟩) (fun hHeld => ?_)
  clear s0 s1 k0 k1 k2
  refine wpAnyH_take (i := 0) (oi := ?_) (v := ?_) ?_ ?_ ?_ ?_ ?_ ?_ (by exact hHeld) ?_
  rotate_left 2
  · (simp only [List.getElem?_toArray, List.getElem?_cons_zero]; try rfl)
  · kernel_rfl
  · kernel_rfl
  · kernel_rfl
  · exact fun _ _ _ h => h
  · refine Or.inl ⟨by rfl, ?_⟩
    (intro V hSV; (try dsimp only at hSV); obtain ⟨q0, q1, q2, q3, q4⟩ := hSV; go_simp; try with_reducible rfl)
  (try simp only [Act.put, List.setIfInBounds_toArray, List.set_cons_zero, List.set_cons_succ])
  refine wpAnyH_take (i := 1) (oi := ?_) (v := ?_) ?_ ?_ ?_ ?_ ?_ ?_ (by exact hHeld) ?_
  rotate_left 2
  · (simp only [List.getElem?_toArray, List.getElem?_cons_zero, List.getElem?_cons_succ]; try rfl)
  · kernel_rfl
  · kernel_rfl
  · kernel_rfl
  · exact fun _ _ _ h => h
  · refine Or.inl ⟨by rfl, ?_⟩
    (intro V hSV; (try dsimp only at hSV); obtain ⟨q0, q1, q2, q3, q4⟩ := hSV; go_simp; try with_reducible rfl)
  (try simp only [Act.put, List.setIfInBounds_toArray, List.set_cons_zero, List.set_cons_succ])
  refine wpAnyH_take (i := 2) (oi := ?_) (v := ?_) ?_ ?_ ?_ ?_ ?_ ?_ (by exact hHeld) ?_
  rotate_left 2
  · (simp only [List.getElem?_toArray, List.getElem?_cons_zero, List.getElem?_cons_succ]; try rfl)
  · kernel_rfl
  · kernel_rfl
  · kernel_rfl
  · exact fun _ _ _ h => h
  · refine Or.inl ⟨by rfl, ?_⟩
    (intro V hSV; (try dsimp only at hSV); obtain ⟨q0, q1, q2, q3, q4⟩ := hSV; go_simp; try with_reducible rfl)
  (try simp only [Act.put, List.setIfInBounds_toArray, List.set_cons_zero, List.set_cons_succ])
  refine wpAnyH_take (i := 3) (oi := ?_) (v := ?_) ?_ ?_ ?_ ?_ ?_ ?_ (by exact hHeld) ?_
  rotate_left 2
  · (simp only [List.getElem?_toArray, List.getElem?_cons_zero, List.getElem?_cons_succ]; try rfl)
  · kernel_rfl
  · kernel_rfl
  · kernel_rfl
  · exact fun _ _ _ h => h
  · refine Or.inl ⟨by rfl, ?_⟩
    (intro V hSV; (try dsimp only at hSV); obtain ⟨q0, q1, q2, q3, q4⟩ := hSV; go_simp; try with_reducible rfl)
  (try simp only [Act.put, List.setIfInBounds_toArray, List.set_cons_zero, List.set_cons_succ])
  refine wpAnyH_take (i := 5) (oi := ?_) (v := ?_) ?_ ?_ ?_ ?_ ?_ ?_ (by exact hHeld) ?_
  rotate_left 2
  · (simp only [List.getElem?_toArray, List.getElem?_cons_zero, List.getElem?_cons_succ]; try rfl)
  · kernel_rfl
  · kernel_rfl
  · kernel_rfl
  · exact fun _ _ _ h => h
  · refine Or.inl ⟨by rfl, ?_⟩
    (intro V hSV; (try dsimp only at hSV); obtain ⟨q0, q1, q2, q3, q4⟩ := hSV; go_simp; try with_reducible rfl)
  (try simp only [Act.put, List.setIfInBounds_toArray, List.set_cons_zero, List.set_cons_succ])
  refine wpAnyH_take (i := 6) (oi := ?_) (v := ?_) ?_ ?_ ?_ ?_ ?_ ?_ (by exact hHeld) ?_
  rotate_left 2
  · (simp only [List.getElem?_toArray, List.getElem?_cons_zero, List.getElem?_cons_succ]; try rfl)
  · kernel_rfl
  · kernel_rfl
  · kernel_rfl
  · exact fun _ _ _ h => h
  · refine Or.inl ⟨by rfl, ?_⟩
    (intro V hSV; (try dsimp only at hSV); obtain ⟨q0, q1, q2, q3, q4⟩ := hSV; go_simp; try with_reducible rfl)
  (try simp only [Act.put, List.setIfInBounds_toArray, List.set_cons_zero, List.set_cons_succ])
  refine wpAnyH_take (i := 7) (oi := ?_) (v := ?_) ?_ ?_ ?_ ?_ ?_ ?_ (by exact hHeld) ?_
  rotate_left 2
  · (simp only [List.getElem?_toArray, List.getElem?_cons_zero, List.getElem?_cons_succ]; try rfl)
  · kernel_rfl
  · kernel_rfl
  · kernel_rfl
  · exact fun _ _ _ h => h
  · refine Or.inl ⟨by rfl, ?_⟩
    (intro V hSV; (try dsimp only at hSV); obtain ⟨q0, q1, q2, q3, q4⟩ := hSV; go_simp; try with_reducible rfl)
  (try simp only [Act.put, List.setIfInBounds_toArray, List.set_cons_zero, List.set_cons_succ])
  refine wpAnyH_take (i := 8) (oi := ?_) (v := ?_) ?_ ?_ ?_ ?_ ?_ ?_ (by exact hHeld) ?_
  rotate_left 2
  · (simp only [List.getElem?_toArray, List.getElem?_cons_zero, List.getElem?_cons_succ]; try rfl)
  · kernel_rfl
  · kernel_rfl
  · kernel_rfl
  · exact fun _ _ _ h => h
  · refine Or.inl ⟨by rfl, ?_⟩
    (intro V hSV; (try dsimp only at hSV); obtain ⟨q0, q1, q2, q3, q4⟩ := hSV; go_simp; try with_reducible rfl)
  (try simp only [Act.put, List.setIfInBounds_toArray, List.set_cons_zero, List.set_cons_succ])
  refine wpAnyH_ready (rs := [4]) (by kernel_rfl) (by simp) ?_
  refine AllReadyH.cons rfl (fun K hK => ?_) AllReadyH.nil
  go_simp
  refine (edBehind_any f a m A l c _ hf hs).mono ?_
  rintro e w3 ⟨rfl, hb⟩
  rw [HX.out]
  have hb : Below W1.heap.size W1 w3 := ⟨hb.os, hb.tape, hb.output, hb.size, hb.block⟩
  have HB3 := Lib.hid hb
  clear hb
  go_wp2_with fail
  refine hK.out _ _ (by exact ⟨(HS.out.below HB3.out).cell 0, (HS.out.below HB3.out).cell 1, (HE.out.below HB3.out).cell 0, (HE.out.below HB3.out).cell 1, (HE.out.below HB3.out).cell 2⟩) (fun hHeld => ?_)
  clear hK K
  (try simp only [Act.put, List.setIfInBounds_toArray, List.set_cons_zero, List.set_cons_succ])
  refine wpAnyH_ready (rs := [9]) (by kernel_rfl) (by simp) ?_
  refine AllReadyH.cons rfl (fun K hK => ?_) AllReadyH.nil
  go_simp
  refine (edBefore_any t a m A l c _ ht hs).mono ?_
  rintro e w4 ⟨rfl, hb⟩
  rw [HY.out]
  have hb : Below w3.heap.size w3 w4 := ⟨hb.os, hb.tape, hb.output, hb.size, hb.block⟩
  have HB4 := Lib.hid (below_then HB3.out hb)
  clear hb
  go_wp2_with fail
  refine hK.out _ _ (by exact ⟨(HS.out.below HB4.out).cell 0, (HS.out.below HB4.out).cell 1, (HE.out.below HB4.out).cell 0, (HE.out.below HB4.out).cell 1, (HE.out.below HB4.out).cell 2⟩) (fun hHeld => ?_)
  clear hK K
  (try simp only [Act.put, List.setIfInBounds_toArray, List.set_cons_zero, List.set_cons_succ])
  refine wpAnyH_take (i := 10) (oi := ?_) (v := ?_) ?_ ?_ ?_ ?_ ?_ ?_ (by exact hHeld) ?_
  rotate_left 2
  · (simp only [List.getElem?_toArray, List.getElem?_cons_zero, List.getElem?_cons_succ]; try rfl)
  · kernel_rfl
  · kernel_rfl
  · kernel_rfl
  · exact fun _ _ _ h => h
  · refine Or.inl ⟨by rfl, ?_⟩
    (intro V hSV; (try dsimp only at hSV); obtain ⟨q0, q1, q2, q3, q4⟩ := hSV; go_simp; try with_reducible rfl)
  (try simp only [Act.put, List.setIfInBounds_toArray, List.set_cons_zero, List.set_cons_succ])
  have HS4 := Lib.hid (HS.out.below HB4.out)
  have HE4 := Lib.hid (HE.out.below HB4.out)
  have HR4 := Lib.hid (HR.out.below HB4.out)
  have r0 := HR4.out.cell 0
  have r1 := HR4.out.cell 1
  have f0 := HR4.out.frozen 0
  have f1 := HR4.out.frozen 1
  refine wpAnyH_ready (rs := [11]) (by kernel_rfl) (by simp) ?_
  refine AllReadyH.cons (o := ?_) ?_ (fun K hK => ?_) AllReadyH.nil
  rotate_left 1
  · (simp only [List.getElem?_toArray, List.getElem?_cons_zero, List.getElem?_cons_succ]; try rfl)
  go_simp
  refine hK.out _ _ (by exact ⟨((HS4.out.setFar9 (by omega) 0 (.int .i64 x)).setFar9 (by omega) 1 (.int .i64 y)).cell 0, ((HS4.out.setFar9 (by omega) 0 (.int .i64 x)).setFar9 (by omega) 1 (.int .i64 y)).cell 1, ((HE4.out.setFar9 (by omega) 0 (.int .i64 x)).setFar9 (by omega) 1 (.int .i64 y)).cell 0, ((HE4.out.setFar9 (by omega) 0 (.int .i64 x)).setFar9 (by omega) 1 (.int .i64 y)).cell 1, ((HE4.out.setFar9 (by omega) 0 (.int .i64 x)).setFar9 (by omega) 1 (.int .i64 y)).cell 2⟩) (fun hHeld => ?_)
  clear hK K
  (try simp only [Act.put, List.setIfInBounds_toArray, List.set_cons_zero, List.set_cons_succ])
  refine wpAnyH_done (by kernel_rfl) ?_ _
  have hlt := HR4.out.lt
  have hB := below_then HAL.out HB4.out
  go_wp2
  refine bodyPost_ret (v := .agg #[.int .i64 x, .int .i64 y]) (by simp [results, Tryd.results94, go_sem, r0, r1]) rfl ⟨rfl, ?_⟩
  (repeat (first | exact Below.refl _ _ | assumption | refine Below.setCell ?_ (by first | (simp; done) | (simp; omega) | omega) _ | refine Below.drew ?_ | refine below_drewN ?_ _ | refine Below.alloc ?_ (by first | (simp; done) | (simp; omega) | omega) _))

set_option maxHeartbeats 8000000 in
theorem selMoved_tt (f t a m : Int) (A : Option Addr) (l : List UInt8) (c : Nat) (w : World) (hf : 0 ≤ f ∧ f ≤ 800) (ht : 0 ≤ t ∧ t ≤ 800) (hs : 0 ≤ a ∧ a ≤ 400 ∧ 0 ≤ m ∧ m ≤ 400 ∧ l.length ≤ 400) :
    Calls Tryd.prog 94 #[.agg #[.int .i64 f, .int .i64 t], .agg #[.int .i64 a, .int .i64 m, .slice A l.length c], .func (.func 95) #[] #[], .func (.func 95) #[] #[]] w fun e w' => e = .returned (.agg #[.int .i64 (mvTo f a m l.length (a + l.length)), .int .i64 (mvTo t a m l.length (a + l.length))]) ∧ Below w.heap.size w w' := by
  have hal := (((Below.refl w.heap.size w).alloc (Nat.le_refl _) (.cells #[.int .i64 f, .int .i64 t] 90)).alloc (by simp) (.cells #[.int .i64 a, .int .i64 m, .slice A l.length c] 25)).alloc (by simp; omega) (.cells #[.int .i64 0, .int .i64 0] 90)
  have bS := ((Blk.new w #[.int .i64 f, .int .i64 t] 90).below ((Below.refl _ _).alloc (Nat.le_refl _) (.cells #[.int .i64 a, .int .i64 m, .slice A l.length c] 25))).below ((Below.refl _ _).alloc (Nat.le_refl _) (.cells #[.int .i64 0, .int .i64 0] 90))
  have bE := (EBox.new (w.alloc (.cells #[.int .i64 f, .int .i64 t] 90)) a m A l.length c).below ((Below.refl _ _).alloc (Nat.le_refl _) (.cells #[.int .i64 0, .int .i64 0] 90))
  have bR := Blk.new ((w.alloc (.cells #[.int .i64 f, .int .i64 t] 90)).alloc (.cells #[.int .i64 a, .int .i64 m, .slice A l.length c] 25)) #[.int .i64 0, .int .i64 0] 90
  simp only [World.size_alloc] at bE bR
  obtain ⟨x, hx⟩ : ∃ x, mvTo f a m l.length (a + l.length) = x := ⟨_, rfl⟩
  obtain ⟨y, hy⟩ : ∃ y, mvTo t a m l.length (a + l.length) = y := ⟨_, rfl⟩
  have HX := Lib.hid hx
  have HY := Lib.hid hy
  rw [hx, hy]
  clear hx hy
  go_enter Tryd.func94, Tryd.ntmps94
  go_wp2_with fail
  generalize ((w.alloc (.cells #[.int .i64 f, .int .i64 t] 90)).alloc (.cells #[.int .i64 a, .int .i64 m, .slice A l.length c] 25)).alloc (.cells #[.int .i64 0, .int .i64 0] 90) = W1 at *
  have s0 := bS.cell 0
  have s1 := bS.cell 1
  have k0 := bE.c0
  have k1 := bE.c1
  have k2 := bE.c2
  have HS := Lib.hid bS
  have HE := Lib.hid bE.blk
  have HR := Lib.hid bR
  have HAL := Lib.hid hal
  clear bS bE bR hal
  refine wp_region_held_drew (S := (fun V => (V).cell? ⟨w.heap.size, 0, none⟩ = some (.int .i64 f) ∧ (V).cell? ⟨w.heap.size, 1, none⟩ = some (.int .i64 t) ∧ (V).cell? ⟨w.heap.size + 1, 0, none⟩ = some (.int .i64 a) ∧ (V).cell? ⟨w.heap.size + 1, 1, none⟩ = some (.int .i64 m) ∧ (V).cell? ⟨w.heap.size + 1, 2, none⟩ = some (.slice A l.length c))) (by kernel_rfl) (by exact ⟨s0, s1, k0, k1, k2⟩) (fun hHeld => ?_)
  clear s0 s1 k0 k1 k2
  refine wpAnyH_take (i := 0) (oi := ?_) (v := ?_) ?_ ?_ ?_ ?_ ?_ ?_ (by exact hHeld) ?_
  rotate_left 2
  · (simp only [List.getElem?_toArray, List.getElem?_cons_zero]; try rfl)
  · kernel_rfl
  · kernel_rfl
  · kernel_rfl
  · exact fun _ _ _ h => h
  · refine Or.inl ⟨by rfl, ?_⟩
    (intro V hSV; (try dsimp only at hSV); obtain ⟨q0, q1, q2, q3, q4⟩ := hSV; go_simp; try with_reducible rfl)
  (try simp only [Act.put, List.setIfInBounds_toArray, List.set_cons_zero, List.set_cons_succ])
  refine wpAnyH_take (i := 1) (oi := ?_) (v := ?_) ?_ ?_ ?_ ?_ ?_ ?_ (by exact hHeld) ?_
  rotate_left 2
  · (simp only [List.getElem?_toArray, List.getElem?_cons_zero, List.getElem?_cons_succ]; try rfl)
  · kernel_rfl
  · kernel_rfl
  · kernel_rfl
  · exact fun _ _ _ h => h
  · refine Or.inl ⟨by rfl, ?_⟩
    (intro V hSV; (try dsimp only at hSV); obtain ⟨q0, q1, q2, q3, q4⟩ := hSV; go_simp; try with_reducible rfl)
  (try simp only [Act.put, List.setIfInBounds_toArray, List.set_cons_zero, List.set_cons_succ])
  refine wpAnyH_take (i := 2) (oi := ?_) (v := ?_) ?_ ?_ ?_ ?_ ?_ ?_ (by exact hHeld) ?_
  rotate_left 2
  · (simp only [List.getElem?_toArray, List.getElem?_cons_zero, List.getElem?_cons_succ]; try rfl)
  · kernel_rfl
  · kernel_rfl
  · kernel_rfl
  · exact fun _ _ _ h => h
  · refine Or.inl ⟨by rfl, ?_⟩
    (intro V hSV; (try dsimp only at hSV); obtain ⟨q0, q1, q2, q3, q4⟩ := hSV; go_simp; try with_reducible rfl)
  (try simp only [Act.put, List.setIfInBounds_toArray, List.set_cons_zero, List.set_cons_succ])
  refine wpAnyH_take (i := 3) (oi := ?_) (v := ?_) ?_ ?_ ?_ ?_ ?_ ?_ (by exact hHeld) ?_
  rotate_left 2
  · (simp only [List.getElem?_toArray, List.getElem?_cons_zero, List.getElem?_cons_succ]; try rfl)
  · kernel_rfl
  · kernel_rfl
  · kernel_rfl
  · exact fun _ _ _ h => h
  · refine Or.inl ⟨by rfl, ?_⟩
    (intro V hSV; (try dsimp only at hSV); obtain ⟨q0, q1, q2, q3, q4⟩ := hSV; go_simp; try with_reducible rfl)
  (try simp only [Act.put, List.setIfInBounds_toArray, List.set_cons_zero, List.set_cons_succ])
  refine wpAnyH_take (i := 5) (oi := ?_) (v := ?_) ?_ ?_ ?_ ?_ ?_ ?_ (by exact hHeld) ?_
  rotate_left 2
  · (simp only [List.getElem?_toArray, List.getElem?_cons_zero, List.getElem?_cons_succ]; try rfl)
  · kernel_rfl
  · kernel_rfl
  · kernel_rfl
  · exact fun _ _ _ h => h
  · refine Or.inl ⟨by rfl, ?_⟩
    (intro V hSV; (try dsimp only at hSV); obtain ⟨q0, q1, q2, q3, q4⟩ := hSV; go_simp; try with_reducible rfl)
  (try simp only [Act.put, List.setIfInBounds_toArray, List.set_cons_zero, List.set_cons_succ])
  refine wpAnyH_take (i := 6) (oi := ?_) (v := ?_) ?_ ?_ ?_ ?_ ?_ ?_ (by exact hHeld) ?_
  rotate_left 2
  · (simp only [List.getElem?_toArray, List.getElem?_cons_zero, List.getElem?_cons_succ]; try rfl)
  · kernel_rfl
  · kernel_rfl
  · kernel_rfl
  · exact fun _ _ _ h => h
  · refine Or.inl ⟨by rfl, ?_⟩
    (intro V hSV; (try dsimp only at hSV); obtain ⟨q0, q1, q2, q3, q4⟩ := hSV; go_simp; try with_reducible rfl)
  (try simp only [Act.put, List.setIfInBounds_toArray, List.set_cons_zero, List.set_cons_succ])
  refine wpAnyH_take (i := 7) (oi := ?_) (v := ?_) ?_ ?_ ?_ ?_ ?_ ?_ (by exact hHeld) ?_
  rotate_left 2
  · (simp only [List.getElem?_toArray, List.getElem?_cons_zero, List.getElem?_cons_succ]; try rfl)
  · kernel_rfl
  · kernel_rfl
  · kernel_rfl
  · exact fun _ _ _ h => h
  · refine Or.inl ⟨by rfl, ?_⟩
    (intro V hSV; (try dsimp only at hSV); obtain ⟨q0, q1, q2, q3, q4⟩ := hSV; go_simp; try with_reducible rfl)
  (try simp only [Act.put, List.setIfInBounds_toArray, List.set_cons_zero, List.set_cons_succ])
  refine wpAnyH_take (i := 8) (oi := ?_) (v := ?_) ?_ ?_ ?_ ?_ ?_ ?_ (by exact hHeld) ?_
  rotate_left 2
  · (simp only [List.getElem?_toArray, List.getElem?_cons_zero, List.getElem?_cons_succ]; try rfl)
  · kernel_rfl
  · kernel_rfl
  · kernel_rfl
  · exact fun _ _ _ h => h
  · refine Or.inl ⟨by rfl, ?_⟩
    (intro V hSV; (try dsimp only at hSV); obtain ⟨q0, q1, q2, q3, q4⟩ := hSV; go_simp; try with_reducible rfl)
  (try simp only [Act.put, List.setIfInBounds_toArray, List.set_cons_zero, List.set_cons_succ])
  refine wpAnyH_ready (rs := [4]) (by kernel_rfl) (by simp) ?_
  refine AllReadyH.cons rfl (fun K hK => ?_) AllReadyH.nil
  go_simp
  refine (edBehind_any f a m A l c _ hf hs).mono ?_
  rintro e w3 ⟨rfl, hb⟩
  rw [HX.out]
  have hb : Below W1.heap.size W1 w3 := ⟨hb.os, hb.tape, hb.output, hb.size, hb.block⟩
  have HB3 := Lib.hid hb
  clear hb
  go_wp2_with fail
  refine hK.out _ _ (by exact ⟨(HS.out.below HB3.out).cell 0, (HS.out.below HB3.out).cell 1, (HE.out.below HB3.out).cell 0, (HE.out.below HB3.out).cell 1, (HE.out.below HB3.out).cell 2⟩) (fun hHeld => ?_)
  clear hK K
  (try simp only [Act.put, List.setIfInBounds_toArray, List.set_cons_zero, List.set_cons_succ])
  refine wpAnyH_ready (rs := [9]) (by kernel_rfl) (by simp) ?_
  refine AllReadyH.cons rfl (fun K hK => ?_) AllReadyH.nil
  go_simp
  refine (edBehind_any t a m A l c _ ht hs).mono ?_
  rintro e w4 ⟨rfl, hb⟩
  rw [HY.out]
  have hb : Below w3.heap.size w3 w4 := ⟨hb.os, hb.tape, hb.output, hb.size, hb.block⟩
  have HB4 := Lib.hid (below_then HB3.out hb)
  clear hb
  go_wp2_with fail
  refine hK.out _ _ (by exact ⟨(HS.out.below HB4.out).cell 0, (HS.out.below HB4.out).cell 1, (HE.out.below HB4.out).cell 0, (HE.out.below HB4.out).cell 1, (HE.out.below HB4.out).cell 2⟩) (fun hHeld => ?_)
  clear hK K
  (try simp only [Act.put, List.setIfInBounds_toArray, List.set_cons_zero, List.set_cons_succ])
  refine wpAnyH_take (i := 10) (oi := ?_) (v := ?_) ?_ ?_ ?_ ?_ ?_ ?_ (by exact hHeld) ?_
  rotate_left 2
  · (simp only [List.getElem?_toArray, List.getElem?_cons_zero, List.getElem?_cons_succ]; try rfl)
  · kernel_rfl
  · kernel_rfl
  · kernel_rfl
  · exact fun _ _ _ h => h
  · refine Or.inl ⟨by rfl, ?_⟩
    (intro V hSV; (try dsimp only at hSV); obtain ⟨q0, q1, q2, q3, q4⟩ := hSV; go_simp; try with_reducible rfl)
  (try simp only [Act.put, List.setIfInBounds_toArray, List.set_cons_zero, List.set_cons_succ])
  have HS4 := Lib.hid (HS.out.below HB4.out)
  have HE4 := Lib.hid (HE.out.below HB4.out)
  have HR4 := Lib.hid (HR.out.below HB4.out)
  have r0 := HR4.out.cell 0
  have r1 := HR4.out.cell 1
  have f0 := HR4.out.frozen 0
  have f1 := HR4.out.frozen 1
  refine wpAnyH_ready (rs := [11]) (by kernel_rfl) (by simp) ?_
  refine AllReadyH.cons (o := ?_) ?_ (fun K hK => ?_) AllReadyH.nil
  rotate_left 1
  · (simp only [List.getElem?_toArray, List.getElem?_cons_zero, List.getElem?_cons_succ]; try rfl)
  go_simp
  refine hK.out _ _ (by exact ⟨((HS4.out.setFar9 (by omega) 0 (.int .i64 x)).setFar9 (by omega) 1 (.int .i64 y)).cell 0, ((HS4.out.setFar9 (by omega) 0 (.int .i64 x)).setFar9 (by omega) 1 (.int .i64 y)).cell 1, ((HE4.out.setFar9 (by omega) 0 (.int .i64 x)).setFar9 (by omega) 1 (.int .i64 y)).cell 0, ((HE4.out.setFar9 (by omega) 0 (.int .i64 x)).setFar9 (by omega) 1 (.int .i64 y)).cell 1, ((HE4.out.setFar9 (by omega) 0 (.int .i64 x)).setFar9 (by omega) 1 (.int .i64 y)).cell 2⟩) (fun hHeld => ?_)
  clear hK K
  (try simp only [Act.put, List.setIfInBounds_toArray, List.set_cons_zero, List.set_cons_succ])
  refine wpAnyH_done (by kernel_rfl) ?_ _
  have hlt := HR4.out.lt
  have hB := below_then HAL.out HB4.out
  go_wp2
  refine bodyPost_ret (v := .agg #[.int .i64 x, .int .i64 y]) (by simp [results, Tryd.results94, go_sem, r0, r1]) rfl ⟨rfl, ?_⟩
  (repeat (first | exact Below.refl _ _ | assumption | refine Below.setCell ?_ (by first | (simp; done) | (simp; omega) | omega) _ | refine Below.drew ?_ | refine below_drewN ?_ _ | refine Below.alloc ?_ (by first | (simp; done) | (simp; omega) | omega) _))
end Go.Proofs.YtkplfbhblbinaaaDoor

namespace Go.Proofs.YtkplfbhblbinaaaDoor
open Go.RowKit P
set_option linter.unusedVariables false
set_option linter.unusedSimpArgs false
set_option maxRecDepth 100000

set_option maxHeartbeats 8000000 in
theorem implSpanMove_any (i j a m : Int) (A : Option Addr) (l : List UInt8) (c : Nat) (w : World) (hl9 : l.length ≤ 9223372036854775807) :
    Calls Tryd.prog 75 #[.int .i64 i, .int .i64 j, .agg #[.int .i64 a, .int .i64 m, .slice A l.length c]] w fun e w' => e = .returned (.tuple #[.int .i64 (spanI i j a m l), .int .i64 (spanJ i j a m l)]) ∧ Below w.heap.size w w' := by
  have hal := (Below.refl w.heap.size w).alloc (Nat.le_refl _) (.cells #[.int .i64 a, .int .i64 m, .slice A l.length c] 25)
  have bE := EBox.new w a m A l.length c
  obtain ⟨z1, h1⟩ : ∃ z, edSmall a m l = z := ⟨_, rfl⟩
  obtain ⟨z2, h2⟩ : ∃ z, isPlace i = z := ⟨_, rfl⟩
  obtain ⟨z3, h3⟩ : ∃ z, isPlace j = z := ⟨_, rfl⟩
  obtain ⟨R, hR⟩ : ∃ R, spanI i j a m l = R := ⟨_, rfl⟩
  obtain ⟨T, hT⟩ : ∃ R, spanJ i j a m l = R := ⟨_, rfl⟩
  have hok : spanOk i j a m l = (z1 && (z2 && (z3 && decide (i ≤ j)))) := by rw [← h1, ← h2, ← h3]; rfl
  have hno : (z1 && (z2 && (z3 && decide (i ≤ j)))) = false → R = -1 ∧ T = -1 := fun h => by
    rw [← hR, ← hT]; exact spanI_no (hok.trans h)
  have hyes : (z1 && (z2 && (z3 && decide (i ≤ j)))) = true → R = mvTo i a m l.length (a + l.length) ∧ T = max (mvTo i a m l.length (a + l.length)) (mvTo j a m l.length a) := fun h => by
    rw [← hR, ← hT]; exact spanI_yes (hok.trans h)
  rw [hR, hT]
  have H1 := Lib.hid h1
  have H2 := Lib.hid h2
  have H3 := Lib.hid h3
  have HN := Lib.hid hno
  have HY := Lib.hid hyes
  clear h1 h2 h3 hR hT hok hno hyes
  go_enter Tryd.func75, Tryd.ntmps75
  go_wp2_with fail
  generalize w.alloc (.cells #[.int .i64 a, .int .i64 m, .slice A l.length c] 25) = W1 at *
  have k0 := bE.c0
  have k1 := bE.c1
  have k2 := bE.c2
  refine (isSmall_any a m A l c _ hl9).mono ?_
  rintro e w2 ⟨rfl, hb2⟩
  rw [H1.out]
  have bE := bE.below hb2
  have hal := below_then hal hb2
  clear k0 k1 k2 hb2
  have k0 := bE.c0
  have k1 := bE.c1
  have k2 := bE.c2
  cases z1
  · obtain ⟨e1, e2⟩ := HN.out rfl
    subst e1; subst e2
    go_wp2
    go_ret2
    exact ⟨rfl, hal⟩
  go_wp2_with fail
  refine (isSmallPlace_e i z2 _ H2.out).mono ?_
  rintro e w3 ⟨rfl, rfl⟩
  cases z2
  · obtain ⟨e1, e2⟩ := HN.out rfl
    subst e1; subst e2
    go_wp2
    go_ret2
    exact ⟨rfl, hal⟩
  go_wp2_with fail
  refine (isSmallPlace_e j z3 _ H3.out).mono ?_
  rintro e w3 ⟨rfl, rfl⟩
  cases z3
  · obtain ⟨e1, e2⟩ := HN.out rfl
    subst e1; subst e2
    go_wp2
    go_ret2
    exact ⟨rfl, hal⟩
  have s := (edSmall_iff a m l).1 H1.out
  have q1 := (isPlace_iff i).1 H2.out
  have q2 := (isPlace_iff j).1 H3.out
  by_cases hij : j < i
  · obtain ⟨e1, e2⟩ := HN.out (by rw [decide_eq_false (show ¬ i ≤ j by omega)]; rfl)
    subst e1; subst e2
    go_wp2
    go_ret2
    exact ⟨rfl, hal⟩
  obtain ⟨e1, e2⟩ := HY.out (by rw [decide_eq_true (show i ≤ j by omega)]; rfl)
  obtain ⟨x, hx⟩ : ∃ x, mvTo i a m l.length (a + l.length) = x := ⟨_, rfl⟩
  obtain ⟨y, hy⟩ : ∃ y, mvTo j a m l.length a = y := ⟨_, rfl⟩
  rw [hx] at e1 e2
  rw [hy] at e2
  have HX := Lib.hid hx
  have HYY := Lib.hid hy
  have E2 := Lib.hid e2
  subst e1
  clear hx hy e2
  go_wp2_with fail
  refine (selMoved_tf i j a m A l c _ q1 q2 s).mono ?_
  rintro e w4 ⟨rfl, hb4⟩
  rw [HX.out, HYY.out]
  have hal := (below_then hal hb4).alloc (by have := hal.size; have := hb4.size; omega) (.cells #[.int .i64 R, .int .i64 y] 90)
  have bS := Blk.new w4 #[.int .i64 R, .int .i64 y] 90
  clear k0 k1 k2 hb4 bE
  have s0 := bS.cell 0
  have s1 := bS.cell 1
  by_cases h5 : R < y
  · have e5 : T = y := by rw [E2.out]; omega
    subst e5
    have HALL := Lib.hid hal
    clear E2 hal
    go_wp2_with fail
    generalize w4.alloc (.cells #[.int .i64 R, .int .i64 T] 90) = W4 at *
    go_region
    all_goals
      go_wp2
      go_ret2
      exact ⟨rfl, below_drewN HALL.out 1⟩
  · have e5 : T = R := by rw [E2.out]; omega
    subst e5
    have HALL := Lib.hid hal
    clear E2 hal
    go_wp2_with fail
    generalize w4.alloc (.cells #[.int .i64 T, .int .i64 y] 90) = W4 at *
    go_region
    all_goals
      go_wp2
      go_ret2
      exact ⟨rfl, below_drewN HALL.out 1⟩
end Go.Proofs.YtkplfbhblbinaaaDoor
