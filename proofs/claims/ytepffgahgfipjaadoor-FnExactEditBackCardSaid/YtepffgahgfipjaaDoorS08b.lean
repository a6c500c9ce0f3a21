/-
  Chapter 5, the model's EditDo and EditBack: contracts. Own work.
-/
import Derived.Test.YtepffgahgfipjaaDoorS08
import Derived.Test.YtepffgahgfipjaaDoorSlc
import Derived.Test.YtepffgahgfipjaaDoorAppS
import Derived.Deep.RegionHeld3
namespace Go.Proofs.YtepffgahgfipjaaDoor
open Go.RowKit P
set_option linter.unusedVariables false
set_option linter.unusedSimpArgs false
set_option maxRecDepth 100000

/-- What a call ends in that makes bytes of its own, and says whether. -/
def MakesE (l : List UInt8) (ok : Bool) (w : World) (e : Ending) (w' : World) : Prop := ∃ v, e = .returned (.tuple #[v, .bool ok]) ∧ Own w' w.heap.size v l ∧ Below w.heap.size w w'

set_option maxHeartbeats 4000000 in
theorem specEditDo_any (A : Option Addr) (l : List UInt8) (c : Nat) (a m : Int) (Ap : Option Addr) (p : List UInt8) (cp : Nat) (w : World) (hl : l.length ≤ c) (hc9 : c ≤ 9223372036854775807) (hpc : p.length ≤ cp) (hcp9 : cp ≤ 9223372036854775807) (hPl : Pl A c) (hA : Bs w A l) (hP : Bs w Ap p) :
    Calls Tryd.prog 31 #[.slice A l.length c, .agg #[.int .i64 a, .int .i64 m, .slice Ap p.length cp]] w (MakesE (edDo l a m p) (edOk l a m p) w) := by
  obtain ⟨T, hT⟩ : ∃ T, edDo l a m p = T := ⟨_, rfl⟩
  obtain ⟨q, hq⟩ : ∃ q, edOk l a m p = q := ⟨_, rfl⟩
  have hal := (Below.refl w.heap.size w).alloc (Nat.le_refl _) (.cells #[.int .i64 a, .int .i64 m, .slice Ap p.length cp] 25)
  have bE := EBox.new w a m Ap p.length cp
  have HQ := Lib.hid hq
  have HT := Lib.hid hT
  rw [hT, hq]
  clear hq hT
  go_enter Tryd.func31, Tryd.ntmps31
  go_wp2_with fail
  generalize w.alloc (.cells #[.int .i64 a, .int .i64 m, .slice Ap p.length cp] 25) = W1 at *
  refine (specEditOk_any A l c a m Ap p cp _ hl hc9 hpc hcp9 (by exact hA.below hal) (by exact hP.below hal)).mono ?_
  rintro e w2 ⟨rfl, hb2⟩
  rw [HQ.out]
  have bE := bE.below hb2
  have hb2 := below_then hal hb2
  clear hal
  cases q
  · have hT0 : T = [] := by
      rw [← HT.out]; unfold edDo; rw [HQ.out]; rfl
    go_wp2
    go_ret2
    exact ⟨.slice none 0 0, rfl, by rw [hT0]; exact Own.nil _ _, hb2⟩
  have hr := edOk_range HQ.out
  obtain ⟨k1, hk1⟩ : ∃ k : Nat, a = (k : Int) := ⟨a.toNat, by omega⟩
  obtain ⟨k2, hk2⟩ : ∃ k : Nat, a + m = (k : Int) := ⟨(a + m).toNat, by omega⟩
  have hT1 : l.take k1 ++ (p ++ l.drop k2) = T := by
    rw [← HT.out]; unfold edDo edText; rw [HQ.out, if_pos rfl, show a.toNat = k1 by omega, show (a + m).toNat = k2 by omega]
  have hlen1 : k1 = (l.take k1).length := by rw [List.length_take]; omega
  have hlen2 : l.length - k2 = (l.drop k2).length := by rw [List.length_drop]
  have hs1 : ∀ W, (Instr.slice 22 (.slice A l.length c) none (some (.int .i64 a)) none).run Tryd.prog W = .ok (.slice A k1 c) W := fun W => by
    rw [hk1]
    exact slc_head A l.length c k1 hPl.1 hPl.2 (by omega) W
  obtain ⟨A2, hs2', hB2, _, _⟩ := slc_tail A l.length c k2 w2 l hPl.1 hPl.2 rfl (by omega) hl hc9 (hA.below hb2)
  have hs2 : ∀ W, (Instr.slice 22 (.slice A l.length c) (some (.int .i64 (a + m))) none none).run Tryd.prog W = .ok (.slice A2 (l.length - k2) (c - k2)) W := fun W => by
    rw [hk2]
    exact hs2' W
  have HB1 := Lib.hid ((hA.below hb2).head9 k1 (by omega))
  have HB2 := Lib.hid hB2
  have HPP := Lib.hid (hP.below hb2)
  have HT1 := Lib.hid hT1
  have HL1 := Lib.hid hlen1
  have HL2 := Lib.hid hlen2
  have ha9 : 0 ≤ a ∧ a ≤ 400 ∧ 0 ≤ m ∧ m ≤ 400 := by omega
  have hwr : IntKind.i64.wrap (a + m) = a + m := IntWalk.i64_in _ ⟨by omega, by omega⟩
  have hl4 : l.length ≤ 400 := by omega
  have hp4 : p.length ≤ 400 := by omega
  have hk14 : (l.take k1).length ≤ 400 := by rw [← hlen1]; omega
  have hk24 : (l.drop k2).length ≤ 400 := by rw [← hlen2]; omega
  have k0 := bE.c0
  have k1' := bE.c1
  have k2' := bE.c2
  have hsz := bE.lt
  have HBE := Lib.hid bE.blk
  have hown0 : Own (w2.alloc (.cells #[] 5)) w2.heap.size (.slice (some ⟨w2.heap.size, 0, none⟩) 0 0) [] := World.ownsRow_made w2 #[] 0 (Nat.le_refl _) (by unfold maxLen; omega) rfl
  have HO0 := Lib.hid hown0
  have HAL := Lib.hid ((Below.refl w2.heap.size w2).alloc (Nat.le_refl _) (.cells #[] 5))
  clear hr hk1 hk2 hT1 hlen1 hlen2 hs2' hB2 hown0 bE
  go_wp2_with fail
  go_region_held3 (fun V => V.cell? ⟨w.heap.size, 0, none⟩ = some (.int .i64 a) ∧ V.cell? ⟨w.heap.size, 1, none⟩ = some (.int .i64 m) ∧ V.cell? ⟨w.heap.size, 2, none⟩ = some (.slice Ap p.length cp))
    (first | exact ⟨k0, k1', k2'⟩ | exact ⟨(HBE.out.below HAL.out).cell 0, (HBE.out.below HAL.out).cell 1, (HBE.out.below HAL.out).cell 2⟩ | exact ⟨HE7.out.cell 0, HE7.out.cell 1, HE7.out.cell 2⟩ | exact ⟨HE8.out.cell 0, HE8.out.cell 1, HE8.out.cell 2⟩ | exact ⟨HE9.out.cell 0, HE9.out.cell 1, HE9.out.cell 2⟩) (first
    | (refine step_app_bytes9 rfl (.tmp 10) (.tmp 14) rfl w2.heap.size (.slice (some ⟨w2.heap.size, 0, none⟩) 0 0) [] (l.take k1) A k1 c rfl rfl HL1.out (by exact HO0.out) (by have h9 := HB1.out.below HAL.out; exact h9) (by simp; omega) (by simp) ?_; intro v7 w7 hown7 hg7 _; have hg7 : (w2.alloc (.cells #[] 5)).grownBy w7 (Value.slice (some ⟨w2.heap.size, 0, none⟩) 0 0).ownBlock := ⟨hg7.os, hg7.tape, hg7.output, hg7.size, hg7.block⟩; have h7 := HAL.out.grown hg7 (by simp) (fun j hj => (World.ownsRow.lt HO0.out j hj).1); have HW7 := Lib.hid h7; have HO7 := Lib.hid hown7; have hz7 := h7.size; have HE7 := Lib.hid (HBE.out.below h7); clear hown7 hg7 h7)
    | (refine step_app_bytes9 rfl (.tmp 15) (.tmp 17) rfl w2.heap.size _ _ p Ap p.length cp rfl rfl rfl (by exact HO7.out) (by have h9 := HPP.out.below HW7.out; exact h9) (by simp; omega) hz7 ?_; intro v8 w8 hown8 hg8 _; have hg8 : w7.grownBy w8 v7.ownBlock := ⟨hg8.os, hg8.tape, hg8.output, hg8.size, hg8.block⟩; have h8 := HW7.out.grown hg8 hz7 (fun j hj => (World.ownsRow.lt HO7.out j hj).1); have HW8 := Lib.hid h8; have HO8 := Lib.hid hown8; have hz8 := h8.size; have HE8 := Lib.hid (HBE.out.below h8); clear hown8 hg8 h8)
    | (refine step_app_bytes9 rfl (.tmp 18) (.tmp 25) rfl w2.heap.size _ _ (l.drop k2) A2 (l.length - k2) (c - k2) rfl rfl HL2.out (by exact HO8.out) (by have h9 := HB2.out.below HW8.out; exact h9) (by simp; omega) hz8 ?_; intro v9 w9 hown9 hg9 _; have hg9 : w8.grownBy w9 v8.ownBlock := ⟨hg9.os, hg9.tape, hg9.output, hg9.size, hg9.block⟩; have h9 := HW8.out.grown hg9 hz8 (fun j hj => (World.ownsRow.lt HO8.out j hj).1); have HW9 := Lib.hid h9; have HO9 := Lib.hid hown9; have HE9 := Lib.hid (HBE.out.below h9); clear hown9 hg9 h9))
  have hfin := below_then hb2 HW9.out
  have hown9 := HO9.out.mono (base' := w.heap.size) hb2.size
  rw [show [] ++ l.take k1 ++ p ++ l.drop k2 = T by rw [← HT1.out]; simp] at hown9
  go_wp2
  go_ret2
  exact ⟨v9, rfl, hown9, hfin⟩
end Go.Proofs.YtepffgahgfipjaaDoor
