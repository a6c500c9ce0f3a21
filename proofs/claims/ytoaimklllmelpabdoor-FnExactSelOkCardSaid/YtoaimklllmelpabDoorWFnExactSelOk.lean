/-
  FnExactSelOk, its walk. Own work.
-/
import Derived.Test.YtoaimklllmelpabDoorLaw
import Derived.Test.YtoaimklllmelpabDoorC06
import Derived.Test.YtoaimklllmelpabDoorJ10
import Derived.Deep.RegionHeld3
namespace Go.Proofs.YtoaimklllmelpabDoor.fnExactSelOk
open Go.ChangeShapes Go.WideShapes Go.ChangeAt Go.RowKit P
set_option linter.unusedVariables false
set_option maxRecDepth 100000

set_option maxHeartbeats 8000000 in
theorem walk (A0 : Option Addr) (l0 : List UInt8) (c0 : Nat) (hc0 : l0.length ≤ c0) (hm0 : c0 ≤ maxLen) (a1 m1 : Int) (ha1 : -9223372036854775808 ≤ a1 ∧ a1 ≤ 9223372036854775807) (hn1 : -9223372036854775808 ≤ m1 ∧ m1 ≤ 9223372036854775807) (w : World) (hL0 : Bs w A0 l0) (hT : Tab w) :
    Calls Tryd.prog 4 #[.slice A0 l0.length c0, .agg #[.int .i64 a1, .int .i64 m1]] w fun e w' => e = .returned (.bool true) ∧ Below w.heap.size w w' := by
  have hn9 : l0.length ≤ 9223372036854775807 := by unfold maxLen at hm0; omega
  clear hc0 hm0
  have hb0 := (Below.refl w.heap.size w).alloc (Nat.le_refl _) (.cells #[.int .i64 a1, .int .i64 m1] 37)
  have BS := Lib.hid (Blk.new w #[.int .i64 a1, .int .i64 m1] 37)
  obtain ⟨z, hz⟩ : ∃ z, selOk l0 a1 m1 = z := ⟨_, rfl⟩
  have HZ := Lib.hid hz
  have hzz : (z != z) = false := by simp
  clear hz
  by_cases hbig : 1048576 < (l0.length : Int)
  · go_enter Tryd.func4, Tryd.ntmps4
    go_wp2
    go_ret
    exact ⟨rfl, hb0⟩
  have hl : l0.length ≤ 1048576 := by omega
  go_enter Tryd.func4, Tryd.ntmps4
  go_wp2_with fail
  clear hbig
  generalize w.alloc (.cells #[.int .i64 a1, .int .i64 m1] 37) = W0 at *
  have HB := Lib.hid hb0
  have s0 := BS.out.cell 0
  have s1 := BS.out.cell 1
  have sA := BS.out.lt
  have HL := Lib.hid (hL0.below hb0)
  clear hb0
  go_region_held3 (fun V => V.cell? ⟨w.heap.size, 0, none⟩ = some (.int .i64 a1) ∧ V.cell? ⟨w.heap.size, 1, none⟩ = some (.int .i64 m1)) (exact ⟨(by first | exact s0 | exact s0' | exact s0'' | exact s0'''), (by first | exact s1 | exact s1' | exact s1'' | exact s1''')⟩) (first
    | (go_at_call 19; refine (toByteS_any A0 l0 c0 _ hl (by exact HL.out)).mono ?_; rintro e w2 ⟨rfl, hrow2, hb2⟩; have hb2 : Below W0.heap.size W0 w2 := ⟨hb2.os, hb2.tape, hb2.output, hb2.size, hb2.block⟩; have s0' := (hb2.cell (p := ⟨w.heap.size, 0, none⟩) sA).trans s0; have s1' := (hb2.cell (p := ⟨w.heap.size, 1, none⟩) sA).trans s1; have sA1 := Nat.lt_of_lt_of_le sA hb2.size; have HX2 := Lib.hid hrow2.bs; have HB2 := Lib.hid hb2; clear hrow2 hb2)
    | (go_at_call 20; refine (toSel_any a1 m1 _).mono ?_; rintro e w3 ⟨rfl, hb3⟩; have hb3 : Below w2.heap.size w2 w3 := ⟨hb3.os, hb3.tape, hb3.output, hb3.size, hb3.block⟩; have s0'' := (hb3.cell (p := ⟨w.heap.size, 0, none⟩) sA1).trans s0'; have s1'' := (hb3.cell (p := ⟨w.heap.size, 1, none⟩) sA1).trans s1'; have sA2 := Nat.lt_of_lt_of_le sA1 hb3.size; have HX3 := Lib.hid (HX2.out.below hb3); have HB3 := Lib.hid (below_then HB2.out hb3); clear hb3)
    | (go_at_call 14; refine (specSelOk_any _ l0 l0.length a1 m1 _ (Nat.le_refl _) hn9 (by exact HX3.out)).mono ?_; rintro e w4 ⟨rfl, hb4⟩; have hb4 : Below w3.heap.size w3 w4 := ⟨hb4.os, hb4.tape, hb4.output, hb4.size, hb4.block⟩; rw [HZ.out]; have s0''' := (hb4.cell (p := ⟨w.heap.size, 0, none⟩) sA2).trans s0''; have s1''' := (hb4.cell (p := ⟨w.heap.size, 1, none⟩) sA2).trans s1''; have HB4 := Lib.hid (below_then HB3.out hb4); clear hb4))
  have BS := Lib.hid (BS.out.below HB4.out)
  have HB := Lib.hid (below_then HB.out HB4.out)
  have HL := Lib.hid (hL0.below HB.out)
  clear s0 s1 s0' s1' s0'' s1'' s0''' s1''' sA sA1 sA2 HX2 HX3 HB2 HB3 HB4
  go_wp2_with fail
  refine (toByteS_any A0 l0 c0 _ hl (by exact HL.out)).mono ?_
  rintro e y6 ⟨rfl, hrow6, hb⟩
  have X0 := Lib.hid hrow6.bs
  have BS := Lib.hid (BS.out.below hb)
  have HB := Lib.hid (below_then HB.out hb)
  have s0 := BS.out.cell 0
  have s1 := BS.out.cell 1
  clear hb hrow6 HL
  go_wp2_with fail
  refine (toSel_any a1 m1 _).mono ?_
  rintro e y7 ⟨rfl, hb⟩
  have X0 := Lib.hid (X0.out.below hb)
  have HB := Lib.hid (below_then HB.out hb)
  have HTc := Lib.hid (hT.below HB.out)
  clear hb s0 s1 BS
  go_wp2_with fail
  refine (implSelOk_any _ l0 l0.length a1 m1 _ (Nat.le_refl _) hn9 (by exact HTc.out) (by exact X0.out)).mono ?_
  rintro e y8 ⟨rfl, hb⟩
  rw [HZ.out]
  have X0 := Lib.hid (X0.out.below hb)
  have HB := Lib.hid (below_then HB.out hb)
  have HL := Lib.hid (hL0.below HB.out)
  clear hb HTc
  go_wp2_with fail
  refine (toByteS_any A0 l0 c0 _ hl (by exact HL.out)).mono ?_
  rintro e y9 ⟨rfl, hrow9, hb⟩
  have X0 := Lib.hid (X0.out.below hb)
  have HR := Lib.hid hrow9.bs
  have HB := Lib.hid (below_then HB.out hb)
  clear hb hrow9
  go_wp2_with fail
  refine (eqByteS_any _ _ l0 l0 _ _ _ hn9 (by exact X0.out) (by exact HR.out)).mono ?_
  rintro e y10 ⟨rfl, n10, rfl⟩
  rw [decide_eq_true (rfl : l0 = l0)]
  have hb9 := below_drewN HB.out n10
  go_wp2
  go_ret
  exact ⟨rfl, hb9⟩

end Go.Proofs.YtoaimklllmelpabDoor.fnExactSelOk
