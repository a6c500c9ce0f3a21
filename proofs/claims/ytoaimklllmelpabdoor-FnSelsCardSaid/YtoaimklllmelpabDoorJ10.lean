/-
  Chapter 6, selections that are valid: contracts of the model and of the program. Own work.
-/
import Derived.Test.YtoaimklllmelpabDoorS01
import Derived.Test.YtoaimklllmelpabDoorI01f
import Derived.Test.YtoaimklllmelpabDoorBlk
namespace Go.Proofs.YtoaimklllmelpabDoor
namespace P
def selOk (t : List UInt8) (f g : Int) : Bool := cutOk t f && cutOk t g
end P
open Go.RowKit P
set_option linter.unusedVariables false
set_option linter.unusedSimpArgs false
set_option maxRecDepth 100000

set_option maxHeartbeats 2000000 in
theorem specSelOk_any (A : Option Addr) (l : List UInt8) (c : Nat) (f g : Int) (w : World) (hl : l.length ≤ c) (hc9 : c ≤ 9223372036854775807) (hA : Bs w A l) :
    Calls Tryd.prog 14 #[.slice A l.length c, .agg #[.int .i64 f, .int .i64 g]] w fun e w' => e = .returned (.bool (selOk l f g)) ∧ Below w.heap.size w w' := by
  have hal := (Below.refl w.heap.size w).alloc (Nat.le_refl _) (.cells #[.int .i64 f, .int .i64 g] 31)
  have bS := Blk.new w #[.int .i64 f, .int .i64 g] 31
  obtain ⟨q1, h1⟩ : ∃ q, cutOk l f = q := ⟨_, rfl⟩
  obtain ⟨q2, h2⟩ : ∃ q, cutOk l g = q := ⟨_, rfl⟩
  rw [show selOk l f g = (q1 && q2) by rw [← h1, ← h2]; rfl]
  have H1 := Lib.hid h1
  have H2 := Lib.hid h2
  clear h1 h2
  go_enter Tryd.func14, Tryd.ntmps14
  go_wp2_with fail
  generalize w.alloc (.cells #[.int .i64 f, .int .i64 g] 31) = W1 at *
  refine (specCutOk_any A l c f _ hl hc9 (by exact hA.below hal)).mono ?_
  rintro e w2 ⟨rfl, hb⟩
  rw [H1.out]
  have bS := bS.below hb
  have hal := below_then hal hb
  clear hb
  cases q1
  · go_wp2
    go_ret
    exact ⟨rfl, hal⟩
  have s0 := bS.cell 0
  have s1 := bS.cell 1
  go_wp2_with fail
  refine (specCutOk_any A l c g _ hl hc9 (by exact hA.below hal)).mono ?_
  rintro e w3 ⟨rfl, hb⟩
  rw [H2.out]
  have hal := below_then hal hb
  go_wp2
  go_ret
  exact ⟨rfl, hal⟩

set_option maxHeartbeats 2000000 in
theorem implSelOk_any (A : Option Addr) (l : List UInt8) (c : Nat) (f g : Int) (w : World) (hl : l.length ≤ c) (hc9 : c ≤ 9223372036854775807) (hT : Tab w) (hA : Bs w A l) :
    Calls Tryd.prog 15 #[.slice A l.length c, .agg #[.int .i64 f, .int .i64 g]] w fun e w' => e = .returned (.bool (selOk l f g)) ∧ Below w.heap.size w w' := by
  have hal := (Below.refl w.heap.size w).alloc (Nat.le_refl _) (.cells #[.int .i64 f, .int .i64 g] 31)
  have bS := Blk.new w #[.int .i64 f, .int .i64 g] 31
  obtain ⟨q1, h1⟩ : ∃ q, cutOk l f = q := ⟨_, rfl⟩
  obtain ⟨q2, h2⟩ : ∃ q, cutOk l g = q := ⟨_, rfl⟩
  rw [show selOk l f g = (q1 && q2) by rw [← h1, ← h2]; rfl]
  have H1 := Lib.hid h1
  have H2 := Lib.hid h2
  clear h1 h2
  go_enter Tryd.func15, Tryd.ntmps15
  go_wp2_with fail
  generalize w.alloc (.cells #[.int .i64 f, .int .i64 g] 31) = W1 at *
  refine (cutOk_any A l c f _ hl hc9 (by exact hT.below hal) (by exact hA.below hal)).mono ?_
  rintro e w2 ⟨rfl, n, rfl⟩
  rw [H1.out]
  have hb := below_drewN (Below.refl W1.heap.size W1) n
  have bS := bS.below hb
  have hal := below_then hal hb
  generalize W1.drewN n = w2 at *
  clear hb
  cases q1
  · go_wp2
    go_ret
    exact ⟨rfl, hal⟩
  have s0 := bS.cell 0
  have s1 := bS.cell 1
  go_wp2_with fail
  refine (cutOk_any A l c g _ hl hc9 (by exact hT.below hal) (by exact hA.below hal)).mono ?_
  rintro e w3 ⟨rfl, n3, rfl⟩
  rw [H2.out]
  have hal := below_drewN hal n3
  go_wp2
  go_ret
  exact ⟨rfl, hal⟩
end Go.Proofs.YtoaimklllmelpabDoor
