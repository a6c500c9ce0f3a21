/-
  Chapter 5, small edits and their ends: contracts. Own work.
-/
import Derived.Test.YtkplfbhblbinaaaDoorEB
import Derived.Test.YtkplfbhblbinaaaDoorP08c
namespace Go.Proofs.YtkplfbhblbinaaaDoor
open Go.RowKit P
set_option linter.unusedVariables false
set_option linter.unusedSimpArgs false
set_option maxRecDepth 100000

set_option maxHeartbeats 400000 in
theorem edEnd_any (a m r : Int) (A : Option Addr) (n c : Nat) (w : World) (hr : IntKind.i64.wrap (a + m) = r) :
    Calls Tryd.prog 74 #[.agg #[.int .i64 a, .int .i64 m, .slice A n c]] w fun e w' => e = .returned (.int .i64 r) ∧ Below w.heap.size w w' := by
  have HR := Lib.hid hr
  clear hr
  have hb0 := (Below.refl w.heap.size w).alloc (Nat.le_refl _) (.cells #[.int .i64 a, .int .i64 m, .slice A n c] 25)
  go_enter Tryd.func74, Tryd.ntmps74
  go_wp2
  go_ret
  exact ⟨ret_int (by rw [← HR.out]; first | rfl | exact (IntWalk.i64_left _).symm), hb0⟩

set_option maxHeartbeats 400000 in
theorem fitsText_e (n : Int) (z : Bool) (w : World) (hz : decide (0 ≤ n ∧ n ≤ 400) = z) : Calls Tryd.prog 92 #[.int .i64 n] w fun e w' => e = .returned (.bool z) ∧ w' = w := by
  subst hz
  by_cases h : 0 ≤ n
  · go_enter Tryd.func92, Tryd.ntmps92
    go_wp2
    go_ret
    exact ⟨ret_bool (by simp [h]), rfl⟩
  · have hd : decide (0 ≤ n) = false := by simpa using h
    have hf : decide (0 ≤ n ∧ n ≤ 400) = false := by simp; omega
    have HF := Lib.hid hf
    clear h hf
    go_enter Tryd.func92, Tryd.ntmps92
    go_wp2
    go_ret
    exact ⟨ret_bool HF.out.symm, rfl⟩

set_option maxHeartbeats 400000 in
theorem l02Small_e (n : Int) (z : Bool) (w : World) (hz : decide (0 ≤ n ∧ n ≤ 400) = z) : Calls Tryd.prog 91 #[.int .i64 n] w fun e w' => e = .returned (.bool z) ∧ w' = w := by
  subst hz
  by_cases h : 0 ≤ n
  · go_enter Tryd.func91, Tryd.ntmps91
    go_wp2
    go_ret
    exact ⟨ret_bool (by simp [h]), rfl⟩
  · have hd : decide (0 ≤ n) = false := by simpa using h
    have hf : decide (0 ≤ n ∧ n ≤ 400) = false := by simp; omega
    have HF := Lib.hid hf
    clear h hf
    go_enter Tryd.func91, Tryd.ntmps91
    go_wp2
    go_ret
    exact ⟨ret_bool HF.out.symm, rfl⟩

theorem edSmall_and (a m : Int) (p : List UInt8) : edSmall a m p = (decide (0 ≤ a ∧ a ≤ 400) && (decide (0 ≤ m ∧ m ≤ 400) && decide ((0 : Int) ≤ (p.length : Int) ∧ (p.length : Int) ≤ 400))) := by
  rw [Bool.eq_iff_iff, edSmall_iff]
  simp only [Bool.and_eq_true, decide_eq_true_eq]
  omega

set_option maxHeartbeats 2000000 in
theorem isSmall_any (a m : Int) (A : Option Addr) (p : List UInt8) (c : Nat) (w : World) (hp9 : p.length ≤ 9223372036854775807) :
    Calls Tryd.prog 73 #[.agg #[.int .i64 a, .int .i64 m, .slice A p.length c]] w fun e w' => e = .returned (.bool (edSmall a m p)) ∧ Below w.heap.size w w' := by
  rw [edSmall_and]
  have hal := (Below.refl w.heap.size w).alloc (Nat.le_refl _) (.cells #[.int .i64 a, .int .i64 m, .slice A p.length c] 25)
  obtain ⟨z1, h1⟩ : ∃ z, decide (0 ≤ a ∧ a ≤ 400) = z := ⟨_, rfl⟩
  obtain ⟨z2, h2⟩ : ∃ z, decide (0 ≤ m ∧ m ≤ 400) = z := ⟨_, rfl⟩
  obtain ⟨z3, h3⟩ : ∃ z, decide ((0 : Int) ≤ (p.length : Int) ∧ (p.length : Int) ≤ 400) = z := ⟨_, rfl⟩
  rw [h1, h2, h3]
  have H1 := Lib.hid h1
  have H2 := Lib.hid h2
  have H3 := Lib.hid h3
  clear h1 h2 h3
  go_enter Tryd.func73, Tryd.ntmps73
  go_wp2_with fail
  refine (fitsText_e a z1 _ H1.out).mono ?_
  rintro e w1 ⟨rfl, rfl⟩
  cases z1
  · go_wp2
    go_ret
    exact ⟨rfl, hal⟩
  go_wp2_with fail
  refine (fitsText_e m z2 _ H2.out).mono ?_
  rintro e w1 ⟨rfl, rfl⟩
  cases z2
  · go_wp2
    go_ret
    exact ⟨rfl, hal⟩
  go_wp2_with fail
  refine (fitsText_e (p.length : Int) z3 _ H3.out).mono ?_
  rintro e w1 ⟨rfl, rfl⟩
  go_wp2
  go_ret
  exact ⟨rfl, hal⟩

set_option maxHeartbeats 2000000 in
theorem l05Small_any (a m : Int) (A : Option Addr) (p : List UInt8) (c : Nat) (w : World) (hp9 : p.length ≤ 9223372036854775807) :
    Calls Tryd.prog 72 #[.agg #[.int .i64 a, .int .i64 m, .slice A p.length c]] w fun e w' => e = .returned (.bool (edSmall a m p)) ∧ Below w.heap.size w w' := by
  rw [edSmall_and]
  have hal := (Below.refl w.heap.size w).alloc (Nat.le_refl _) (.cells #[.int .i64 a, .int .i64 m, .slice A p.length c] 25)
  obtain ⟨z1, h1⟩ : ∃ z, decide (0 ≤ a ∧ a ≤ 400) = z := ⟨_, rfl⟩
  obtain ⟨z2, h2⟩ : ∃ z, decide (0 ≤ m ∧ m ≤ 400) = z := ⟨_, rfl⟩
  have h3 : decide ((0 : Int) ≤ (p.length : Int) ∧ (p.length : Int) ≤ 400) = decide ((p.length : Int) ≤ 400) := by rw [Bool.eq_iff_iff]; simp
  rw [h1, h2, h3]
  have H1 := Lib.hid h1
  have H2 := Lib.hid h2
  clear h1 h2 h3
  go_enter Tryd.func72, Tryd.ntmps72
  go_wp2_with fail
  refine (l02Small_e a z1 _ H1.out).mono ?_
  rintro e w1 ⟨rfl, rfl⟩
  cases z1
  · go_wp2
    go_ret
    exact ⟨rfl, hal⟩
  go_wp2_with fail
  refine (l02Small_e m z2 _ H2.out).mono ?_
  rintro e w1 ⟨rfl, rfl⟩
  cases z2
  · go_wp2
    go_ret
    exact ⟨rfl, hal⟩
  go_wp2
  go_ret
  exact ⟨rfl, hal⟩
end Go.Proofs.YtkplfbhblbinaaaDoor
