/-
  Chapter 2, measSum, measFits, MeasAdd of the program: contracts. Own work.
-/
import Derived.Test.YtgpjjolgpppeeaaI02b
import Derived.Handy
namespace Go.Proofs.Ytgpjjolgpppeeaa
open Go.RowKit P
set_option linter.unusedVariables false
set_option maxRecDepth 100000

set_option maxHeartbeats 400000 in
theorem fitsText_any (n : Int) (w : World) : Calls Try.prog 87 #[.int .i64 n] w fun e w' => e = .returned (.bool (decide (0 ≤ n ∧ n ≤ 400))) ∧ w' = w := by
  by_cases h : 0 ≤ n
  · go_enter Try.func87, Try.ntmps87
    go_wp2
    go_ret
    exact ⟨ret_bool (by simp [h]), rfl⟩
  · have hd : decide (0 ≤ n) = false := by simpa using h
    have H := Lib.hid h
    clear h
    go_enter Try.func87, Try.ntmps87
    go_wp2
    go_ret
    exact ⟨ret_bool (by simp), rfl⟩

def mFits (a b r : Int) : Bool := decide (0 ≤ a ∧ a ≤ 400) && decide (0 ≤ b ∧ b ≤ 400) && decide (0 ≤ r ∧ r ≤ 400)

end Go.Proofs.Ytgpjjolgpppeeaa
