/-
  Chapter 1, the program's RuneBytes and the model's: contracts. Own work.
-/
import Derived.Test.YtgpjjolgpppeeaaDoorOwn
import Derived.Test.YtgpjjolgpppeeaaDoorP01
import Derived.Test.YtgpjjolgpppeeaaDoorI01
namespace Go.Proofs.YtgpjjolgpppeeaaDoor
open Go.RowKit P
set_option linter.unusedVariables false

/-- What a call that makes a slice of bytes ends in. -/
def Makes (w : World) (l : List UInt8) (e : Ending) (w' : World) : Prop := ∃ v, e = .returned v ∧ Own w' w.heap.size v l ∧ Below w.heap.size w w'

theorem Makes.nil (w : World) : Makes w [] (.returned (.slice none 0 0)) w := ⟨_, rfl, Own.nil _ _, Below.refl _ _⟩
theorem Makes.new (w : World) (l : List UInt8) (cs : Array Value) (n : Nat) (hn : n = l.length) (hl : l.length ≤ 1000) (h : cs = (l.map bV).toArray) :
    Makes w l (.returned (.slice (some ⟨w.heap.size, 0, none⟩) n n)) (w.alloc (.cells cs 5)) := by
  subst h
  subst hn
  exact ⟨_, rfl, Own.new w l (by unfold maxLen; omega), (Below.refl _ _).alloc (Nat.le_refl _) _⟩

theorem bV_u8 (x : Int) (h0 : 0 ≤ x) (h1 : x < 256) : bV (u8 x) = .int .u8 x := by unfold bV; rw [u8_toNat x h0 h1]

set_option maxHeartbeats 1000000 in
theorem specRuneBytes_any (r : Int) (w : World) : Calls Tryd.prog 112 #[.int .i64 r] w (Makes w (enc r)) := by
  rcases codeSz_cases r with ⟨h, g⟩ | ⟨h, g1, g2⟩ | ⟨h, g1, g2⟩ | ⟨h, g1, g2, g3⟩ | ⟨h, g1, g2⟩
  · have he : enc r = [] := by simp [enc, h]
    have HE := Lib.hid he
    clear he h
    go_enter Tryd.func112, Tryd.ntmps112
    go_wp2
    all_goals go_ret
    all_goals (rw [HE.out]; exact Makes.nil _)
  · have he : enc r = [u8 r] := by simp [enc, h]
    have HE := Lib.hid he
    clear he h
    go_enter Tryd.func112, Tryd.ntmps112
    go_wp2
    all_goals go_ret
    all_goals rw [HE.out]
    all_goals exact Makes.new w _ _ 1 rfl (by simp) (by simp only [List.map_cons, List.map_nil, bV_u8 r (by omega) (by omega)])
  · have he : enc r = [u8 (192 + r / 64), u8 (128 + r % 64)] := by simp [enc, h]
    have HE := Lib.hid he
    clear he h
    go_enter Tryd.func112, Tryd.ntmps112
    go_wp2
    all_goals go_ret
    all_goals rw [HE.out]
    all_goals exact Makes.new w _ _ 2 rfl (by simp) (by simp only [List.map_cons, List.map_nil, bV_u8 (192 + r / 64) (by omega) (by omega), bV_u8 (128 + r % 64) (by omega) (by omega)])
  · have he : enc r = [u8 (224 + r / 4096), u8 (128 + r / 64 % 64), u8 (128 + r % 64)] := by simp [enc, h]
    have HE := Lib.hid he
    clear he h
    go_enter Tryd.func112, Tryd.ntmps112
    go_wp2
    all_goals go_ret
    all_goals rw [HE.out]
    all_goals exact Makes.new w _ _ 3 rfl (by simp) (by simp only [List.map_cons, List.map_nil, bV_u8 (224 + r / 4096) (by omega) (by omega), bV_u8 (128 + r / 64 % 64) (by omega) (by omega), bV_u8 (128 + r % 64) (by omega) (by omega)])
  · have he : enc r = [u8 (240 + r / 262144), u8 (128 + r / 4096 % 64), u8 (128 + r / 64 % 64), u8 (128 + r % 64)] := by simp [enc, h]
    have HE := Lib.hid he
    clear he h
    go_enter Tryd.func112, Tryd.ntmps112
    go_wp2
    all_goals go_ret
    all_goals rw [HE.out]
    all_goals exact Makes.new w _ _ 4 rfl (by simp) (by simp only [List.map_cons, List.map_nil, bV_u8 (240 + r / 262144) (by omega) (by omega), bV_u8 (128 + r / 4096 % 64) (by omega) (by omega), bV_u8 (128 + r / 64 % 64) (by omega) (by omega), bV_u8 (128 + r % 64) (by omega) (by omega)])

end Go.Proofs.YtgpjjolgpppeeaaDoor
