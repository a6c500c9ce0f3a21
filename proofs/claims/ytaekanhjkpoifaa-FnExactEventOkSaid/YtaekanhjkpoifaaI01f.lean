/-
  Chapter 1, the program's RuneBytes and the model's: contracts. Own work.
-/
import Derived.Test.YtaekanhjkpoifaaOwn
import Derived.Test.YtaekanhjkpoifaaP01
import Derived.Test.YtaekanhjkpoifaaI01
namespace Go.Proofs.Ytaekanhjkpoifaa
open Go.RowKit P
set_option linter.unusedVariables false

/-- What a call that makes a slice of bytes ends in. -/
def Makes (w : World) (l : List UInt8) (e : Ending) (w' : World) : Prop := ∃ v, e = .returned v ∧ Own w' w.heap.size v l ∧ Below w.heap.size w w'

theorem Makes.nil (w : World) : Makes w [] (.returned (.slice none 0 0)) w := ⟨_, rfl, Own.nil _ _, Below.refl _ _⟩
theorem Makes.new (w : World) (l : List UInt8) (cs : Array Value) (n : Nat) (hn : n = l.length) (hl : l.length ≤ 1000) (h : cs = (l.map bV).toArray) :
    Makes w l (.returned (.slice (some ⟨w.heap.size, 0, none⟩) n n)) (w.alloc (.cells cs 5)) := by
  subst h
  subst hn
  exact ⟨_, rfl, Own.new w l (by unfold maxLen; omega), (Below.refl _ _).alloc (Nat.le_refl _) _⟩

theorem bV_u8 (x : Int) (h0 : 0 ≤ x) (h1 : x < 256) : bV (u8 x) = .int .u8 x := by unfold bV; rw [u8_toNat x h0 h1]

end Go.Proofs.Ytaekanhjkpoifaa
