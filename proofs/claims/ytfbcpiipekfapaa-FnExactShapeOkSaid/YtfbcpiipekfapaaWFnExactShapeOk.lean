/-
  FnExactShapeOk, its walk. Own work.
-/
import Derived.Test.YtfbcpiipekfapaaS03b
import Derived.Test.YtfbcpiipekfapaaI03
namespace Go.Proofs.Ytfbcpiipekfapaa.fnExactShapeOk
open Go.ChangeShapes Go.ChangeMaps Go.WideShapes Go.ChangeAt Go.RowKit P
set_option linter.unusedVariables false

set_option maxHeartbeats 400000 in
theorem walk (s : ByteArray) (hs : s.size ≤ maxLen) (d : Int) (hd : -9223372036854775808 ≤ d ∧ d ≤ 9223372036854775807) (w : World) :
    Calls Try.prog 5 #[.string s, .int .i64 d] w fun e w' => e = .returned (.bool true) ∧ Below w.heap.size w w' := by
  unfold maxLen at hs
  have hs' : s.size ≤ 9223372036854775807 := by omega
  clear hs
  by_cases h : s.size ≤ 1048576
  · have h' : ¬ (1048576 : Int) < (s.size : Int) := by omega
    generalize hq : shapeB s.data.toList d = q
    have HQ := Lib.hid hq
    clear hq
    go_enter Try.func5, Try.ntmps5
    go_wp2_with fail
    refine (specShapeOk_any s d _ (by omega)).mono ?_
    rintro e w1 ⟨rfl, hb⟩
    rw [HQ.out]
    go_wp2_with fail
    refine (implShapeOk_any s d _).mono ?_
    rintro e w2 ⟨rfl, rfl⟩
    rw [HQ.out]
    cases q
    all_goals
      go_wp2
      go_ret
      exact ⟨rfl, hb⟩
  · have h' : (1048576 : Int) < (s.size : Int) := by omega
    go_enter Try.func5, Try.ntmps5
    go_wp2
    go_ret
    exact ⟨rfl, Below.refl _ _⟩

end Go.Proofs.Ytfbcpiipekfapaa.fnExactShapeOk
