/-
  Chapter 2, ChunkOk of the program and of the model: contracts. Own work.
-/
import Derived.Test.YthnahenpnafkmaaDoorS02
namespace Go.Proofs.YthnahenpnafkmaaDoor
open Go.RowKit P
set_option linter.unusedVariables false
set_option maxRecDepth 100000

set_option maxHeartbeats 1000000 in
theorem specChunkOk_any (A : Option Addr) (l : List UInt8) (c : Nat) (w : World) (hl : l.length ≤ c) (hc9 : c ≤ 9223372036854775807) (hA : Bs w A l) :
    Calls Tryd.prog 68 #[.agg #[.slice A l.length c]] w fun e w' => e = .returned (.bool (chunkOk l)) ∧ Below w.heap.size w w' := by
  have hb0 := fun t => (Below.refl w.heap.size w).alloc (Nat.le_refl _) (.cells #[.slice A l.length c] t)
  have hA0 := fun t => hA.below (hb0 t)
  generalize hq : chunkOk l = q
  by_cases h1 : 1 ≤ l.length
  · by_cases h2 : l.length ≤ 16
    · generalize ht : isText l = t
      have hqt : q = t := by rw [← hq, ← ht]; unfold chunkOk; simp [h1, h2]
      subst hqt
      have HT := Lib.hid ht
      clear ht hq
      have g1 : (1 : Int) ≤ (l.length : Int) := by omega
      have g2 : (l.length : Int) ≤ 16 := by omega
      go_enter Tryd.func68, Tryd.ntmps68
      go_wp2_with fail
      refine (specTextOk_any A l c _ hl hc9 (by exact hA0 _)).mono ?_
      rintro e w1 ⟨rfl, hb1⟩
      rw [HT.out]
      have hb2 := (hb0 46).trans (hb1.mono (by simp))
      go_wp2
      go_ret
      exact ⟨rfl, hb2⟩
    · have hqf : q = false := by rw [← hq]; unfold chunkOk; simp [h2]
      subst hqf
      clear hq
      have g1 : (1 : Int) ≤ (l.length : Int) := by omega
      have g2 : decide ((l.length : Int) ≤ 16) = false := by simp; omega
      go_enter Tryd.func68, Tryd.ntmps68
      go_wp2
      go_ret
      exact ⟨rfl, hb0 _⟩
  · have hqf : q = false := by rw [← hq]; unfold chunkOk; simp [h1]
    subst hqf
    clear hq
    have g1 : decide ((1 : Int) ≤ (l.length : Int)) = false := by simp; omega
    go_enter Tryd.func68, Tryd.ntmps68
    go_wp2
    go_ret
    exact ⟨rfl, hb0 _⟩

set_option maxHeartbeats 1000000 in
theorem implChunkOk_any (A : Option Addr) (l : List UInt8) (c : Nat) (w : World) (hl : l.length ≤ c) (hc9 : c ≤ 9223372036854775807) (hT : Tab w) (hA : Bs w A l) :
    Calls Tryd.prog 47 #[.agg #[.slice A l.length c]] w fun e w' => e = .returned (.bool (chunkOk l)) ∧ Below w.heap.size w w' := by
  have hb0 := fun t => (Below.refl w.heap.size w).alloc (Nat.le_refl _) (.cells #[.slice A l.length c] t)
  have hA0 := fun t => hA.below (hb0 t)
  have hT0 := fun t => hT.below (hb0 t)
  generalize hq : chunkOk l = q
  by_cases h2 : l.length ≤ 16
  · have hqm : q = decide (mB l ≠ 0) := by rw [← hq, chunkOk_m]; simp [h2]
    have hz := m_zero_all l
    have g2 : (l.length : Int) ≤ 16 := by omega
    go_enter Tryd.func47, Tryd.ntmps47
    go_wp2_with fail
    refine (measOf_any A l c _ hl hc9 (by exact hT0 _) (by exact hA0 _)).mono ?_
    rintro e w1 ⟨rfl, hb1⟩
    have hb2 := (hb0 46).trans (hb1.mono (by simp))
    unfold meas
    go_wp2
    all_goals go_ret
    · exact ⟨ret_bool (by rw [hqm]; simp; assumption), hb2⟩
    · exact ⟨ret_bool (by rw [hqm]; simp; assumption), hb2⟩
  · have hqf : q = false := by rw [← hq]; unfold chunkOk; simp [h2]
    subst hqf
    clear hq
    have g2 : decide ((l.length : Int) ≤ 16) = false := by simp; omega
    go_enter Tryd.func47, Tryd.ntmps47
    go_wp2
    go_ret
    exact ⟨rfl, hb0 _⟩
end Go.Proofs.YthnahenpnafkmaaDoor
