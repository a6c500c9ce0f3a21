/-
  Chapter 6, spans moved, hits, edits apart: contracts of the model and of the program. Own work.
-/
import Derived.Test.YtoaimklllmelpabDoorJ09
import Derived.Deep.RegionHeld3
namespace Go.Proofs.YtoaimklllmelpabDoor
open Go.RowKit P
set_option linter.unusedVariables false
set_option linter.unusedSimpArgs false
set_option maxRecDepth 100000

theorem spanI_no {i j a m : Int} {l : List UInt8} (h : spanOk i j a m l = false) : spanI i j a m l = -1 ∧ spanJ i j a m l = -1 := by
  unfold spanI spanJ; rw [h]; exact ⟨rfl, rfl⟩
theorem spanI_yes {i j a m : Int} {l : List UInt8} (h : spanOk i j a m l = true) : spanI i j a m l = spI i a m l.length ∧ spanJ i j a m l = spJ i j a m l.length := by
  unfold spanI spanJ; rw [h]; exact ⟨rfl, rfl⟩

set_option maxHeartbeats 1000000 in
theorem edBefore_any (p a m : Int) (A : Option Addr) (l : List UInt8) (c : Nat) (w : World) (hq : 0 ≤ p ∧ p ≤ 800) (hs : 0 ≤ a ∧ a ≤ 400 ∧ 0 ≤ m ∧ m ≤ 400 ∧ l.length ≤ 400) :
    Calls Tryd.prog 62 #[.agg #[.int .i64 a, .int .i64 m, .slice A l.length c], .int .i64 p] w fun e w' => e = .returned (.int .i64 (mvTo p a m l.length a)) ∧ Below w.heap.size w w' := by
  have hal := (Below.refl w.heap.size w).alloc (Nat.le_refl _) (.cells #[.int .i64 a, .int .i64 m, .slice A l.length c] 25)
  go_enter Tryd.func62, Tryd.ntmps62
  go_wp2_with fail
  refine (edMoved_any p a a m A l c _ hq hs).mono ?_
  rintro e w2 ⟨rfl, hb2⟩
  have hal := below_then hal hb2
  go_wp2
  go_ret
  exact ⟨rfl, hal⟩

set_option maxHeartbeats 1000000 in
theorem edBehind_any (p a m : Int) (A : Option Addr) (l : List UInt8) (c : Nat) (w : World) (hq : 0 ≤ p ∧ p ≤ 800) (hs : 0 ≤ a ∧ a ≤ 400 ∧ 0 ≤ m ∧ m ≤ 400 ∧ l.length ≤ 400) :
    Calls Tryd.prog 61 #[.agg #[.int .i64 a, .int .i64 m, .slice A l.length c], .int .i64 p] w fun e w' => e = .returned (.int .i64 (mvTo p a m l.length (a + l.length))) ∧ Below w.heap.size w w' := by
  have hal := (Below.refl w.heap.size w).alloc (Nat.le_refl _) (.cells #[.int .i64 a, .int .i64 m, .slice A l.length c] 25)
  have hwr : IntKind.i64.wrap (a + l.length) = a + l.length := IntWalk.i64_in _ ⟨by omega, by omega⟩
  go_enter Tryd.func61, Tryd.ntmps61
  go_wp2_with fail
  refine (edMoved_any p (a + l.length) a m A l c _ hq hs).mono ?_
  rintro e w2 ⟨rfl, hb2⟩
  have hal := below_then hal hb2
  go_wp2
  go_ret
  exact ⟨rfl, hal⟩

end Go.Proofs.YtoaimklllmelpabDoor
