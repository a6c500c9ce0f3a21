/-
  Chapter 6, moved positions and spans: contracts of the model and of the program. Own work.
-/
import Derived.Test.YtoaimklllmelpaaJ07
import Derived.Test.YtoaimklllmelpaaP09
namespace Go.Proofs.Ytoaimklllmelpaa
open Go.RowKit P
set_option linter.unusedVariables false
set_option linter.unusedSimpArgs false
set_option maxRecDepth 100000

set_option maxHeartbeats 400000 in
theorem l06Place_e (n : Int) (z : Bool) (w : World) (hz : isPlace n = z) : Calls Try.prog 51 #[.int .i64 n] w fun e w' => e = .returned (.bool z) ∧ w' = w := by
  subst hz
  by_cases h : 0 ≤ n
  · go_enter Try.func51, Try.ntmps51
    go_wp2
    go_ret
    exact ⟨ret_bool (by unfold isPlace; simp [h]), rfl⟩
  · have hd : decide (0 ≤ n) = false := by simpa using h
    have hf : isPlace n = false := by unfold isPlace; rw [hd]; rfl
    have HF := Lib.hid hf
    clear h hf
    go_enter Try.func51, Try.ntmps51
    go_wp2
    go_ret
    exact ⟨ret_bool HF.out.symm, rfl⟩

set_option maxHeartbeats 400000 in
theorem isSmallPlace_e (n : Int) (z : Bool) (w : World) (hz : isPlace n = z) : Calls Try.prog 55 #[.int .i64 n] w fun e w' => e = .returned (.bool z) ∧ w' = w := by
  subst hz
  by_cases h : 0 ≤ n
  · go_enter Try.func55, Try.ntmps55
    go_wp2
    go_ret
    exact ⟨ret_bool (by unfold isPlace; simp [h]), rfl⟩
  · have hd : decide (0 ≤ n) = false := by simpa using h
    have hf : isPlace n = false := by unfold isPlace; rw [hd]; rfl
    have HF := Lib.hid hf
    clear h hf
    go_enter Try.func55, Try.ntmps55
    go_wp2
    go_ret
    exact ⟨ret_bool HF.out.symm, rfl⟩

theorem posMove_no {p a m : Int} {l : List UInt8} {r z : Bool} (h : isPlace p = false ∨ edSmall a m l = false) (R : Int) (hR : posMove p r a m l = R) : R = -1 := by
  rw [← hR]; unfold posMove posOk
  rcases h with h | h <;> rw [h] <;> simp
theorem posMove_yes {p a m : Int} {l : List UInt8} {r : Bool} (h : isPlace p = true) (g : edSmall a m l = true) : posMove p r a m l = mvTo p a m l.length (sideOf r a l.length) := by
  unfold posMove posOk; rw [h, g]; rfl

set_option maxHeartbeats 4000000 in
theorem specPosMove_any (p : Int) (r : Bool) (a m : Int) (A : Option Addr) (l : List UInt8) (c : Nat) (w : World) (hl9 : l.length ≤ 9223372036854775807) :
    Calls Try.prog 15 #[.int .i64 p, .bool r, .agg #[.int .i64 a, .int .i64 m, .slice A l.length c]] w fun e w' => e = .returned (.int .i64 (posMove p r a m l)) ∧ Below w.heap.size w w' := by
  have hal := (Below.refl w.heap.size w).alloc (Nat.le_refl _) (.cells #[.int .i64 a, .int .i64 m, .slice A l.length c] 27)
  have bE := EBox.new w a m A l.length c
  obtain ⟨z1, h1⟩ : ∃ z, isPlace p = z := ⟨_, rfl⟩
  obtain ⟨z2, h2⟩ : ∃ z, edSmall a m l = z := ⟨_, rfl⟩
  obtain ⟨R, hR⟩ : ∃ R, posMove p r a m l = R := ⟨_, rfl⟩
  rw [hR]
  have H1 := Lib.hid h1
  have H2 := Lib.hid h2
  have HR := Lib.hid hR
  clear h1 h2 hR
  go_enter Try.func15, Try.ntmps15
  go_wp2_with fail
  generalize w.alloc (.cells #[.int .i64 a, .int .i64 m, .slice A l.length c] 27) = W1 at *
  refine (l06Place_e p z1 _ H1.out).mono ?_
  rintro e w1 ⟨rfl, rfl⟩
  have k0 := bE.c0
  have k1 := bE.c1
  have k2 := bE.c2
  cases z1
  · have e1 := posMove_no (z := r) (.inl H1.out) R HR.out
    go_wp2
    go_ret
    exact ⟨ret_int e1.symm, hal⟩
  go_wp2_with fail
  refine (l05Small_any a m A l c _ hl9).mono ?_
  rintro e w2 ⟨rfl, hb2⟩
  rw [H2.out]
  have bE := bE.below hb2
  have hal := below_then hal hb2
  clear k0 k1 k2 hb2
  have k0 := bE.c0
  have k1 := bE.c1
  have k2 := bE.c2
  cases z2
  · have e1 := posMove_no (z := r) (.inr H2.out) R HR.out
    go_wp2
    go_ret
    exact ⟨ret_int e1.symm, hal⟩
  have s := (edSmall_iff a m l).1 H2.out
  have q := (isPlace_iff p).1 H1.out
  have hR2 : mvTo p a m l.length (sideOf r a l.length) = R := (posMove_yes H1.out H2.out).symm.trans HR.out
  have hwr : IntKind.i64.wrap (a + m) = a + m := IntWalk.i64_in _ ⟨by omega, by omega⟩
  have hwr2 : IntKind.i64.wrap (a + l.length) = a + l.length := IntWalk.i64_in _ ⟨by omega, by omega⟩
  have hwr3 : IntKind.i64.wrap (p - m) = p - m := IntWalk.i64_in _ ⟨by omega, by omega⟩
  have hwr4 : IntKind.i64.wrap (p - m + l.length) = p - m + l.length := IntWalk.i64_in _ ⟨by omega, by omega⟩
  by_cases c1 : p < a
  · have e1 : R = p := by rw [← hR2]; unfold mvTo; rw [if_pos c1]
    have E1 := Lib.hid e1
    clear hR2 e1
    go_wp2
    go_ret
    exact ⟨ret_int E1.out.symm, hal⟩
  by_cases c2 : p = a
  · subst c2
    have hpp : (p == p) = true := by simp
    have e1 : R = sideOf r p l.length := by rw [← hR2]; unfold mvTo; rw [if_neg c1, if_pos (.inl rfl)]
    have E1 := Lib.hid e1
    clear hR2 e1
    cases r
    · go_wp2
      go_ret
      exact ⟨ret_int E1.out.symm, hal⟩
    · go_wp2
      go_ret
      exact ⟨ret_int E1.out.symm, hal⟩
  have hpp : (p == a) = false := by simpa using c2
  by_cases c3 : p < a + m
  · have e1 : R = sideOf r a l.length := by rw [← hR2]; unfold mvTo; rw [if_neg c1, if_pos (.inr c3)]
    have E1 := Lib.hid e1
    clear hR2 e1 c2
    cases r
    · go_wp2
      go_ret
      exact ⟨ret_int E1.out.symm, hal⟩
    · go_wp2
      go_ret
      exact ⟨ret_int E1.out.symm, hal⟩
  have e1 : R = p - m + l.length := by rw [← hR2]; unfold mvTo; rw [if_neg c1, if_neg (by omega)]
  have E1 := Lib.hid e1
  clear hR2 e1 c2
  go_wp2
  go_ret
  exact ⟨ret_int E1.out.symm, hal⟩

set_option maxHeartbeats 4000000 in
theorem edMoved_any (p x a m : Int) (A : Option Addr) (l : List UInt8) (c : Nat) (w : World) (hq : 0 ≤ p ∧ p ≤ 800) (hs : 0 ≤ a ∧ a ≤ 400 ∧ 0 ≤ m ∧ m ≤ 400 ∧ l.length ≤ 400) :
    Calls Try.prog 78 #[.agg #[.int .i64 a, .int .i64 m, .slice A l.length c], .int .i64 p, .int .i64 x] w fun e w' => e = .returned (.int .i64 (mvTo p a m l.length x)) ∧ Below w.heap.size w w' := by
  have hal := (Below.refl w.heap.size w).alloc (Nat.le_refl _) (.cells #[.int .i64 a, .int .i64 m, .slice A l.length c] 27)
  have bE := EBox.new w a m A l.length c
  obtain ⟨R, hR⟩ : ∃ R, mvTo p a m l.length x = R := ⟨_, rfl⟩
  rw [hR]
  have k0 := bE.c0
  have k1 := bE.c1
  have k2 := bE.c2
  have hwr : IntKind.i64.wrap (a + m) = a + m := IntWalk.i64_in _ ⟨by omega, by omega⟩
  have hwr3 : IntKind.i64.wrap (p - m) = p - m := IntWalk.i64_in _ ⟨by omega, by omega⟩
  have hwr4 : IntKind.i64.wrap (p - m + l.length) = p - m + l.length := IntWalk.i64_in _ ⟨by omega, by omega⟩
  by_cases c1 : p < a
  · have e1 : R = p := by rw [← hR]; unfold mvTo; rw [if_pos c1]
    have E1 := Lib.hid e1
    clear hR e1
    go_enter Try.func78, Try.ntmps78
    go_wp2
    go_ret
    exact ⟨ret_int E1.out.symm, hal⟩
  by_cases c2 : p = a
  · subst c2
    have hpp : (p == p) = true := by simp
    have e1 : R = x := by rw [← hR]; unfold mvTo; rw [if_neg c1, if_pos (.inl rfl)]
    have E1 := Lib.hid e1
    clear hR e1
    go_enter Try.func78, Try.ntmps78
    go_wp2
    go_ret
    exact ⟨ret_int E1.out.symm, hal⟩
  have hpp : (p == a) = false := by simpa using c2
  have hc : (p < a + m → R = x) ∧ (¬ p < a + m → R = p - m + l.length) := by
    rw [← hR]; unfold mvTo
    rw [if_neg c1]
    exact ⟨fun h => if_pos (.inr h), fun h => if_neg (by omega)⟩
  have HC := Lib.hid hc
  have HWR := Lib.hid hwr
  clear hR hc c2
  go_enter Try.func78, Try.ntmps78
  go_wp2_with fail
  generalize w.alloc (.cells #[.int .i64 a, .int .i64 m, .slice A l.length c] 27) = W1 at *
  refine (edEnd_any a m (a + m) A l.length c _ HWR.out).mono ?_
  rintro e w2 ⟨rfl, hb2⟩
  have bE := bE.below hb2
  have hal := below_then hal hb2
  clear k0 k1 k2 hb2
  have k1 := bE.c1
  have k2 := bE.c2
  by_cases c3 : p < a + m
  · have E1 := Lib.hid (HC.out.1 c3)
    go_wp2
    go_ret
    exact ⟨ret_int E1.out.symm, hal⟩
  · have E1 := Lib.hid (HC.out.2 (by omega))
    go_wp2
    go_ret
    exact ⟨ret_int E1.out.symm, hal⟩
end Go.Proofs.Ytoaimklllmelpaa
