/-
  Chapter 2, ChunkOk of the program and of the model: contracts. Own work.
-/
import Derived.Test.YtkplfbhblbinaaaDoorS02
namespace Go.Proofs.YtkplfbhblbinaaaDoor
open Go.RowKit P
set_option linter.unusedVariables false
set_option maxRecDepth 100000

set_option maxHeartbeats 1000000 in
theorem specChunkOk_any (A : Option Addr) (l : List UInt8) (c : Nat) (w : World) (hl : l.length ≤ c) (hc9 : c ≤ 9223372036854775807) (hA : Bs w A l) :
    Calls Tryd.prog 110 #[.agg #[.slice A l.length c]] w fun e w' => e = .returned (.bool (chunkOk l)) ∧ Below w.heap.size w w' := by
  have hb0 := fun t => (Below.refl w.heap.size w).alloc (Nat.le_refl _) (.cells #[.slice A l.length c] t)
  have hA0 := fun t => hA.below (hb0 t)
  generalize hq : chunkOk l = q
  by_cases h1 : 1 ≤ l.length
  · by_cases h2 : l.length ≤ 16
    · generalize ht : isText l = t
      have hqt : q = t := by rw [← hq, ← ht]; unfold chunkOk; simp [h1, h2]
      subst hqt
      have HT := Lib.hid ht
      clear ht hq
      have g1 : (1 : Int) ≤ (l.length : Int) := by omega
      have g2 : (l.length : Int) ≤ 16 := by omega
      go_enter Tryd.func110, Tryd.ntmps110
      go_wp2_with fail
      refine (specTextOk_any A l c _ hl hc9 (by exact hA0 _)).mono ?_
      rintro e w1 ⟨rfl, hb1⟩
      rw [HT.out]
      have hb2 := (hb0 106).trans (hb1.mono (by simp))
      go_wp2
      go_ret
      exact ⟨rfl, hb2⟩
    · have hqf : q = false := by rw [← hq]; unfold chunkOk; simp [h2]
      subst hqf
      clear hq
      have g1 : (1 : Int) ≤ (l.length : Int) := by omega
      have g2 : decide ((l.length : Int) ≤ 16) = false := by simp; omega
      go_enter Tryd.func110, Tryd.ntmps110
      go_wp2
      go_ret
      exact ⟨rfl, hb0 _⟩
  · have hqf : q = false := by rw [← hq]; unfold chunkOk; simp [h1]
    subst hqf
    clear hq
    have g1 : decide ((1 : Int) ≤ (l.length : Int)) = false := by simp; omega
    go_enter Tryd.func110, Tryd.ntmps110
    go_wp2
    go_ret
    exact ⟨rfl, hb0 _⟩

end Go.Proofs.YtkplfbhblbinaaaDoor
