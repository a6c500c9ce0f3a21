/-
  Chapter 5, the program's methods after and back, whereOk, EditDo and EditBack: contracts. Own work.
  Chapter 5, the program's whereOk, EditDo and EditBack: contracts. Own work.
-/
import Derived.Test.YtnpbdkfkdbfdhaaDoorI01f
import Derived.Test.YtnpbdkfkdbfdhaaDoorP08c
import Derived.Test.YtnpbdkfkdbfdhaaDoorEB
import Derived.Test.YtnpbdkfkdbfdhaaDoorS08
import Derived.Test.YtnpbdkfkdbfdhaaDoorI08a
import Derived.Test.YtnpbdkfkdbfdhaaDoorCat3
import Derived.Test.YtnpbdkfkdbfdhaaDoorJ07
import Derived.Deep.RegionHeld3
namespace Go.Proofs.YtnpbdkfkdbfdhaaDoor
open Go.RowKit P
set_option linter.unusedVariables false
set_option linter.unusedSimpArgs false
set_option maxRecDepth 100000

set_option maxHeartbeats 4000000 in
theorem edAfter_any (A : Option Addr) (l : List UInt8) (c : Nat) (a m : Int) (Ap : Option Addr) (p : List UInt8) (cp : Nat) (w : World) (hl : l.length ≤ c) (hc9 : c ≤ 9223372036854775807) (hpc : p.length ≤ cp) (hPl : Pl A c) (hA : Bs w A l) (hP : Bs w Ap p)
    (ha : 0 ≤ a) (hm : 0 ≤ m) (ham : a + m ≤ l.length) (hl4 : l.length ≤ 500000) (hp4 : p.length ≤ 500000) :
    Calls Tryd.prog 62 #[.agg #[.int .i64 a, .int .i64 m, .slice Ap p.length cp], .slice A l.length c] w (Makes w (edText l a m p)) := by
  have hb0 := (Below.refl w.heap.size w).alloc (Nat.le_refl _) (.cells #[.int .i64 a, .int .i64 m, .slice Ap p.length cp] 63)
  have bE := EBox.new w a m Ap p.length cp
  obtain ⟨T, hT⟩ : ∃ T, edText l a m p = T := ⟨_, rfl⟩
  obtain ⟨k1, hk1⟩ : ∃ k : Nat, a = (k : Int) := ⟨a.toNat, by omega⟩
  obtain ⟨k2, hk2⟩ : ∃ k : Nat, a + m = (k : Int) := ⟨(a + m).toNat, by omega⟩
  have hT1 : l.take k1 ++ (p ++ l.drop k2) = T := by
    rw [← hT]; unfold edText; rw [show a.toNat = k1 by omega, show (a + m).toNat = k2 by omega]
  have hlen1 : (l.take k1).length = k1 := by rw [List.length_take]; omega
  have hlen2 : (l.drop k2).length = l.length - k2 := by rw [List.length_drop]
  have hs1 : ∀ W, (Instr.slice 22 (.slice A l.length c) none (some (.int .i64 a)) none).run Tryd.prog W = .ok (.slice A k1 c) W := fun W => by
    rw [hk1]
    exact slc_head A l.length c k1 hPl.1 hPl.2 (by omega) W
  obtain ⟨A2, hs2', hB2, _, _⟩ := slc_tail A l.length c k2 w l hPl.1 hPl.2 rfl (by omega) hl hc9 hA
  have hs2 : ∀ W, (Instr.slice 22 (.slice A l.length c) (some (.int .i64 (a + m))) none none).run Tryd.prog W = .ok (.slice A2 (l.length - k2) (c - k2)) W := fun W => by
    rw [hk2]
    exact hs2' W
  have hB1 := hA.head9 k1 (by omega)
  obtain ⟨X, hX⟩ : ∃ X, l.take k1 = X := ⟨_, rfl⟩
  obtain ⟨Y, hY⟩ : ∃ Y, l.drop k2 = Y := ⟨_, rfl⟩
  rw [hX] at hB1 hlen1 hT1
  rw [hY] at hB2 hlen2 hT1
  have hk1c : k1 ≤ c := by omega
  have hk2c : l.length - k2 ≤ c - k2 := by omega
  have hk14 : k1 ≤ 500000 := by omega
  have hwr : IntKind.i64.wrap (a + m) = a + m := IntWalk.i64_in _ ⟨by omega, by omega⟩
  have HB1 := Lib.hid hB1
  have HB2 := Lib.hid hB2
  have HT1 := Lib.hid hT1
  have HL1 := Lib.hid hlen1
  have HL2 := Lib.hid hlen2
  have HWR := Lib.hid hwr
  rw [hT]
  clear hT hX hY hB1 hB2 hT1 hlen1 hlen2 hk1 hk2 hs2' hwr
  go_enter Tryd.func62, Tryd.ntmps62
  go_wp2_with fail
  generalize w.alloc (.cells #[.int .i64 a, .int .i64 m, .slice Ap p.length cp] 63) = W1 at *
  have k0 := bE.c0
  have k1' := bE.c1
  have k2' := bE.c2
  have HBE := Lib.hid bE.blk
  have HB0 := Lib.hid hb0
  have hconc : ∀ (W : World), Below w.heap.size w W → Calls Tryd.prog 78 #[.slice (some ⟨W.heap.size, 0, none⟩) 3 3] (W.alloc (.cells #[.slice A k1 c, .slice Ap p.length cp, .slice A2 (l.length - k2) (c - k2)] 22)) fun e w' => ∃ v, e = .returned v ∧ Own w' W.heap.size v T ∧ Below W.heap.size W w' := fun W hW => by
    have := concatBy3_e A Ap A2 X p Y c cp (c - k2) W (by rw [HL1.out]; exact hk1c) hpc (by rw [HL2.out]; exact hk2c) (by rw [HL1.out, HL2.out]; omega) (HB1.out.below hW) (hP.below hW) (HB2.out.below hW)
    rw [HL1.out, HL2.out, HT1.out] at this
    exact this
  have HC := Lib.hid hconc
  clear bE hb0 hconc
  go_region_held3 (fun V => V.cell? ⟨w.heap.size, 0, none⟩ = some (.int .i64 a) ∧ V.cell? ⟨w.heap.size, 1, none⟩ = some (.int .i64 m) ∧ V.cell? ⟨w.heap.size, 2, none⟩ = some (.slice Ap p.length cp))
    (first | exact ⟨k0, k1', k2'⟩ | exact ⟨HE3.out.cell 0, HE3.out.cell 1, HE3.out.cell 2⟩ | exact ⟨HE4.out.cell 0, HE4.out.cell 1, HE4.out.cell 2⟩ | go_keep) (first
    | (go_at_call 92; refine (edEnd_any a m (a + m) Ap p.length cp _ HWR.out).mono ?_; rintro e w3 ⟨rfl, hb3⟩; have hb3 : Below W1.heap.size W1 w3 := ⟨hb3.os, hb3.tape, hb3.output, hb3.size, hb3.block⟩; have HE3 := Lib.hid (HBE.out.below hb3); have HB3 := Lib.hid (below_then HB0.out hb3); clear hb3)
    | (go_at_call 78; refine (HC.out w3 HB3.out).mono ?_; rintro e w4 ⟨v4, rfl, hown4, hb4⟩; have HE4 := Lib.hid (HE3.out.below hb4); have HO4 := Lib.hid hown4; have HB4 := Lib.hid (below_then HB3.out hb4); clear hown4 hb4))
  have hsz := HB3.out.size
  go_wp2
  go_ret
  exact ⟨v4, rfl, HO4.out.mono hsz, HB4.out⟩

end Go.Proofs.YtnpbdkfkdbfdhaaDoor

namespace Go.Proofs.YtnpbdkfkdbfdhaaDoor
open Go.RowKit P
set_option linter.unusedVariables false
set_option linter.unusedSimpArgs false
set_option maxRecDepth 100000

set_option maxHeartbeats 4000000 in
theorem whereDo_any (A : Option Addr) (l : List UInt8) (c : Nat) (a m : Int) (Ap : Option Addr) (p : List UInt8) (cp : Nat) (w : World) (hl : l.length ≤ c) (hc9 : c ≤ 9223372036854775807) (hpc : p.length ≤ cp) (hcp9 : cp ≤ 9223372036854775807) (hm9 : m ≤ 9223372036854775807) (hPl : Pl A c) (hT : Tab w) (hA : Bs w A l) (hP : Bs w Ap p) :
    Calls Tryd.prog 61 #[.slice A l.length c, .agg #[.int .i64 a, .int .i64 m, .slice Ap p.length cp], .func (.func 62) #[.agg #[.int .i64 a, .int .i64 m, .slice Ap p.length cp]] #[]] w (MakesE (edDo l a m p) (edOk l a m p) w) := by
  obtain ⟨q, hq⟩ : ∃ q, edOk l a m p = q := ⟨_, rfl⟩
  obtain ⟨T, hT'⟩ : ∃ T, edDo l a m p = T := ⟨_, rfl⟩
  have hal := (Below.refl w.heap.size w).alloc (Nat.le_refl _) (.cells #[.int .i64 a, .int .i64 m, .slice Ap p.length cp] 63)
  have HQ := Lib.hid hq
  have HT := Lib.hid hT'
  rw [hT', hq]
  clear hq hT'
  go_enter Tryd.func61, Tryd.ntmps61
  go_wp2_with fail
  generalize w.alloc (.cells #[.int .i64 a, .int .i64 m, .slice Ap p.length cp] 63) = W1 at *
  refine (implEditOk_any A l c a m Ap p cp _ hl hc9 hpc hcp9 hm9 (by exact hT.below hal) (by exact hA.below hal) (by exact hP.below hal)).mono ?_
  rintro e w2 ⟨rfl, hb2⟩
  rw [HQ.out]
  have hb2 := below_then hal hb2
  clear hal
  cases q
  · have hT0 : T = [] := by
      rw [← HT.out]; unfold edDo; rw [HQ.out]; rfl
    go_wp2
    go_ret2
    exact ⟨.slice none 0 0, rfl, by rw [hT0]; exact Own.nil _ _, hb2⟩
  have hr := edOk_range HQ.out
  have hT1 : edText l a m p = T := by rw [← HT.out]; unfold edDo; rw [HQ.out]; rfl
  have HT1 := Lib.hid hT1
  clear hT1
  go_wp2_with fail
  refine (edAfter_any A l c a m Ap p cp _ hl hc9 hpc hPl (by exact hA.below hb2) (by exact hP.below hb2) (by omega) (by omega) (by omega) (by omega) (by omega)).mono ?_
  rintro e w3 ⟨v3, rfl, hown3, hb3⟩
  rw [HT1.out] at hown3
  have hown3 := hown3.mono (base' := w.heap.size) hb2.size
  have hb3 := below_then hb2 hb3
  go_wp2
  go_ret2
  exact ⟨v3, rfl, hown3, hb3⟩

set_option maxHeartbeats 4000000 in
theorem implEditDo_any (A : Option Addr) (l : List UInt8) (c : Nat) (a m : Int) (Ap : Option Addr) (p : List UInt8) (cp : Nat) (w : World) (hl : l.length ≤ c) (hc9 : c ≤ 9223372036854775807) (hpc : p.length ≤ cp) (hcp9 : cp ≤ 9223372036854775807) (hm9 : m ≤ 9223372036854775807) (hPl : Pl A c) (hT : Tab w) (hA : Bs w A l) (hP : Bs w Ap p) :
    Calls Tryd.prog 36 #[.slice A l.length c, .agg #[.int .i64 a, .int .i64 m, .slice Ap p.length cp]] w (MakesE (edDo l a m p) (edOk l a m p) w) := by
  obtain ⟨q, hq⟩ : ∃ q, edOk l a m p = q := ⟨_, rfl⟩
  obtain ⟨T, hT'⟩ : ∃ T, edDo l a m p = T := ⟨_, rfl⟩
  have hal := (Below.refl w.heap.size w).alloc (Nat.le_refl _) (.cells #[.int .i64 a, .int .i64 m, .slice Ap p.length cp] 63)
  have HQ := Lib.hid hq
  have HT := Lib.hid hT'
  rw [hT', hq]
  clear hq hT'
  go_enter Tryd.func36, Tryd.ntmps36
  go_wp2_with fail
  generalize w.alloc (.cells #[.int .i64 a, .int .i64 m, .slice Ap p.length cp] 63) = W1 at *
  refine (whereDo_any A l c a m Ap p cp _ hl hc9 hpc hcp9 hm9 hPl (by exact hT.below hal) (by exact hA.below hal) (by exact hP.below hal)).mono ?_
  rintro e w3 ⟨v3, rfl, hown3, hb3⟩
  rw [HQ.out]
  rw [HT.out] at hown3
  have hown3 := hown3.mono (base' := w.heap.size) hal.size
  have hb3 := below_then hal hb3
  go_wp2
  go_ret2
  exact ⟨v3, rfl, hown3, hb3⟩

end Go.Proofs.YtnpbdkfkdbfdhaaDoor
