/-
  Chapter 5, small edits and their ends: contracts. Own work.
-/
import Derived.Test.YtnpbdkfkdbfdhaaDoorEB
import Derived.Test.YtnpbdkfkdbfdhaaDoorP08c
namespace Go.Proofs.YtnpbdkfkdbfdhaaDoor
open Go.RowKit P
set_option linter.unusedVariables false
set_option linter.unusedSimpArgs false
set_option maxRecDepth 100000

set_option maxHeartbeats 400000 in
theorem edEnd_any (a m r : Int) (A : Option Addr) (n c : Nat) (w : World) (hr : IntKind.i64.wrap (a + m) = r) :
    Calls Tryd.prog 92 #[.agg #[.int .i64 a, .int .i64 m, .slice A n c]] w fun e w' => e = .returned (.int .i64 r) ∧ Below w.heap.size w w' := by
  have HR := Lib.hid hr
  clear hr
  have hb0 := (Below.refl w.heap.size w).alloc (Nat.le_refl _) (.cells #[.int .i64 a, .int .i64 m, .slice A n c] 63)
  go_enter Tryd.func92, Tryd.ntmps92
  go_wp2
  go_ret
  exact ⟨ret_int (by rw [← HR.out]; first | rfl | exact (IntWalk.i64_left _).symm), hb0⟩

set_option maxHeartbeats 400000 in
theorem fitsText_e (n : Int) (z : Bool) (w : World) (hz : decide (0 ≤ n ∧ n ≤ 400) = z) : Calls Tryd.prog 82 #[.int .i64 n] w fun e w' => e = .returned (.bool z) ∧ w' = w := by
  subst hz
  by_cases h : 0 ≤ n
  · go_enter Tryd.func82, Tryd.ntmps82
    go_wp2
    go_ret
    exact ⟨ret_bool (by simp [h]), rfl⟩
  · have hd : decide (0 ≤ n) = false := by simpa using h
    have hf : decide (0 ≤ n ∧ n ≤ 400) = false := by simp; omega
    have HF := Lib.hid hf
    clear h hf
    go_enter Tryd.func82, Tryd.ntmps82
    go_wp2
    go_ret
    exact ⟨ret_bool HF.out.symm, rfl⟩

theorem edSmall_and (a m : Int) (p : List UInt8) : edSmall a m p = (decide (0 ≤ a ∧ a ≤ 400) && (decide (0 ≤ m ∧ m ≤ 400) && decide ((0 : Int) ≤ (p.length : Int) ∧ (p.length : Int) ≤ 400))) := by
  rw [Bool.eq_iff_iff, edSmall_iff]
  simp only [Bool.and_eq_true, decide_eq_true_eq]
  omega

end Go.Proofs.YtnpbdkfkdbfdhaaDoor
