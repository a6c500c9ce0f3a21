/-
  Chapter 5, the program's methods after and back, whereOk, EditDo and EditBack: contracts. Own work.
  Chapter 5, the program's whereOk, EditDo and EditBack: contracts. Own work.
-/
import Derived.Test.YtkplfbhblbinaaaDoorI01f
import Derived.Test.YtkplfbhblbinaaaDoorP08c
import Derived.Test.YtkplfbhblbinaaaDoorEB
import Derived.Test.YtkplfbhblbinaaaDoorS08
import Derived.Test.YtkplfbhblbinaaaDoorI08a
import Derived.Test.YtkplfbhblbinaaaDoorCat3
import Derived.Test.YtkplfbhblbinaaaDoorJ07
import Derived.Deep.RegionHeld3
namespace Go.Proofs.YtkplfbhblbinaaaDoor
open Go.RowKit P
set_option linter.unusedVariables false
set_option linter.unusedSimpArgs false
set_option maxRecDepth 100000

set_option maxHeartbeats 4000000 in
theorem edAfter_any (A : Option Addr) (l : List UInt8) (c : Nat) (a m : Int) (Ap : Option Addr) (p : List UInt8) (cp : Nat) (w : World) (hl : l.length ≤ c) (hc9 : c ≤ 9223372036854775807) (hpc : p.length ≤ cp) (hPl : Pl A c) (hA : Bs w A l) (hP : Bs w Ap p)
    (ha : 0 ≤ a) (hm : 0 ≤ m) (ham : a + m ≤ l.length) (hl4 : l.length ≤ 500000) (hp4 : p.length ≤ 500000) :
    Calls Tryd.prog 58 #[.agg #[.int .i64 a, .int .i64 m, .slice Ap p.length cp], .slice A l.length c] w (Makes w (edText l a m p)) := by
  have hb0 := (Below.refl w.heap.size w).alloc (Nat.le_refl _) (.cells #[.int .i64 a, .int .i64 m, .slice Ap p.length cp] 25)
  have bE := EBox.new w a m Ap p.length cp
  obtain ⟨T, hT⟩ : ∃ T, edText l a m p = T := ⟨_, rfl⟩
  obtain ⟨k1, hk1⟩ : ∃ k : Nat, a = (k : Int) := ⟨a.toNat, by omega⟩
  obtain ⟨k2, hk2⟩ : ∃ k : Nat, a + m = (k : Int) := ⟨(a + m).toNat, by omega⟩
  have hT1 : l.take k1 ++ (p ++ l.drop k2) = T := by
    rw [← hT]; unfold edText; rw [show a.toNat = k1 by omega, show (a + m).toNat = k2 by omega]
  have hlen1 : (l.take k1).length = k1 := by rw [List.length_take]; omega
  have hlen2 : (l.drop k2).length = l.length - k2 := by rw [List.length_drop]
  have hs1 : ∀ W, (Instr.slice 22 (.slice A l.length c) none (some (.int .i64 a)) none).run Tryd.prog W = .ok (.slice A k1 c) W := fun W => by
    rw [hk1]
    exact slc_head A l.length c k1 hPl.1 hPl.2 (by omega) W
  obtain ⟨A2, hs2', hB2, _, _⟩ := slc_tail A l.length c k2 w l hPl.1 hPl.2 rfl (by omega) hl hc9 hA
  have hs2 : ∀ W, (Instr.slice 22 (.slice A l.length c) (some (.int .i64 (a + m))) none none).run Tryd.prog W = .ok (.slice A2 (l.length - k2) (c - k2)) W := fun W => by
    rw [hk2]
    exact hs2' W
  have hB1 := hA.head9 k1 (by omega)
  obtain ⟨X, hX⟩ : ∃ X, l.take k1 = X := ⟨_, rfl⟩
  obtain ⟨Y, hY⟩ : ∃ Y, l.drop k2 = Y := ⟨_, rfl⟩
  rw [hX] at hB1 hlen1 hT1
  rw [hY] at hB2 hlen2 hT1
  have hk1c : k1 ≤ c := by omega
  have hk2c : l.length - k2 ≤ c - k2 := by omega
  have hk14 : k1 ≤ 500000 := by omega
  have hwr : IntKind.i64.wrap (a + m) = a + m := IntWalk.i64_in _ ⟨by omega, by omega⟩
  have HB1 := Lib.hid hB1
  have HB2 := Lib.hid hB2
  have HT1 := Lib.hid hT1
  have HL1 := Lib.hid hlen1
  have HL2 := Lib.hid hlen2
  have HWR := Lib.hid hwr
  rw [hT]
  clear hT hX hY hB1 hB2 hT1 hlen1 hlen2 hk1 hk2 hs2' hwr
  go_enter Tryd.func58, Tryd.ntmps58
  go_wp2_with fail
  generalize w.alloc (.cells #[.int .i64 a, .int .i64 m, .slice Ap p.length cp] 25) = W1 at *
  have k0 := bE.c0
  have k1' := bE.c1
  have k2' := bE.c2
  have HBE := Lib.hid bE.blk
  have HB0 := Lib.hid hb0
  have hconc : ∀ (W : World), Below w.heap.size w W → Calls Tryd.prog 83 #[.slice (some ⟨W.heap.size, 0, none⟩) 3 3] (W.alloc (.cells #[.slice A k1 c, .slice Ap p.length cp, .slice A2 (l.length - k2) (c - k2)] 22)) fun e w' => ∃ v, e = .returned v ∧ Own w' W.heap.size v T ∧ Below W.heap.size W w' := fun W hW => by
    have := concatBy3_e A Ap A2 X p Y c cp (c - k2) W (by rw [HL1.out]; exact hk1c) hpc (by rw [HL2.out]; exact hk2c) (by rw [HL1.out, HL2.out]; omega) (HB1.out.below hW) (hP.below hW) (HB2.out.below hW)
    rw [HL1.out, HL2.out, HT1.out] at this
    exact this
  have HC := Lib.hid hconc
  clear bE hb0 hconc
  go_region_held3 (fun V => V.cell? ⟨w.heap.size, 0, none⟩ = some (.int .i64 a) ∧ V.cell? ⟨w.heap.size, 1, none⟩ = some (.int .i64 m) ∧ V.cell? ⟨w.heap.size, 2, none⟩ = some (.slice Ap p.length cp))
    (first | exact ⟨k0, k1', k2'⟩ | exact ⟨HE3.out.cell 0, HE3.out.cell 1, HE3.out.cell 2⟩ | exact ⟨HE4.out.cell 0, HE4.out.cell 1, HE4.out.cell 2⟩ | go_keep) (first
    | (go_at_call 74; refine (edEnd_any a m (a + m) Ap p.length cp _ HWR.out).mono ?_; rintro e w3 ⟨rfl, hb3⟩; have hb3 : Below W1.heap.size W1 w3 := ⟨hb3.os, hb3.tape, hb3.output, hb3.size, hb3.block⟩; have HE3 := Lib.hid (HBE.out.below hb3); have HB3 := Lib.hid (below_then HB0.out hb3); clear hb3)
    | (go_at_call 83; refine (HC.out w3 HB3.out).mono ?_; rintro e w4 ⟨v4, rfl, hown4, hb4⟩; have HE4 := Lib.hid (HE3.out.below hb4); have HO4 := Lib.hid hown4; have HB4 := Lib.hid (below_then HB3.out hb4); clear hown4 hb4))
  have hsz := HB3.out.size
  go_wp2
  go_ret
  exact ⟨v4, rfl, HO4.out.mono hsz, HB4.out⟩

set_option maxHeartbeats 4000000 in
theorem edBack_any (A : Option Addr) (l : List UInt8) (c : Nat) (a m : Int) (Ap : Option Addr) (p : List UInt8) (cp : Nat) (w : World) (hl : l.length ≤ c) (hc9 : c ≤ 9223372036854775807) (hpc : p.length ≤ cp) (hPl : Pl A c) (hA : Bs w A l) (hP : Bs w Ap p)
    (ha : 0 ≤ a) (hm : 0 ≤ m) (ham : a + m ≤ l.length) (hl4 : l.length ≤ 500000) (hp4 : p.length ≤ 500000) :
    Calls Tryd.prog 55 #[.agg #[.int .i64 a, .int .i64 m, .slice Ap p.length cp], .slice A l.length c] w fun e w' => ∃ v, e = .returned (.agg #[.int .i64 a, .int .i64 p.length, v]) ∧ Own w' w.heap.size v (edCut l a m) ∧ Below w.heap.size w w' := by
  have hal := ((Below.refl w.heap.size w).alloc (Nat.le_refl _) (.cells #[.int .i64 a, .int .i64 m, .slice Ap p.length cp] 25)).alloc (by simp) (.cells #[.int .i64 0, .int .i64 0, .slice none 0 0] 25)
  have bE := (EBox.new w a m Ap p.length cp).below ((Below.refl _ _).alloc (Nat.le_refl _) (.cells #[.int .i64 0, .int .i64 0, .slice none 0 0] 25))
  have bR := EBox.new (w.alloc (.cells #[.int .i64 a, .int .i64 m, .slice Ap p.length cp] 25)) 0 0 none 0 0
  rw [World.size_alloc] at bR
  obtain ⟨T, hT⟩ : ∃ T, edCut l a m = T := ⟨_, rfl⟩
  obtain ⟨k1, hk1⟩ : ∃ k : Nat, a = (k : Int) := ⟨a.toNat, by omega⟩
  obtain ⟨k2, hk2⟩ : ∃ k : Nat, m = (k : Int) := ⟨m.toNat, by omega⟩
  have hT1 : (l.drop k1).take k2 = T := by
    rw [← hT]; unfold edCut; rw [show a.toNat = k1 by omega, show m.toNat = k2 by omega]
  have hlen1 : k2 = T.length := by rw [← hT1, List.length_take, List.length_drop]; omega
  obtain ⟨A2, hs2', hB2⟩ := slc_mid A l.length c k1 k2 w l hPl.1 hPl.2 rfl (by omega) hl hc9 hA
  have hs2 : ∀ W, (Instr.slice 22 (.slice A l.length c) (some (.int .i64 a)) (some (.int .i64 (a + m))) none).run Tryd.prog W = .ok (.slice A2 k2 (c - k1)) W := fun W => by
    rw [hk1, hk2]
    exact hs2' W
  rw [hT1] at hB2
  have hwr : IntKind.i64.wrap (a + m) = a + m := IntWalk.i64_in _ ⟨by omega, by omega⟩
  have hT5 : T.length ≤ 1000000 := by omega
  have HB2 := Lib.hid (hB2.below hal)
  have HL1 := Lib.hid hlen1
  have HWR := Lib.hid hwr
  rw [hT]
  clear hT hB2 hT1 hlen1 hk1 hk2 hs2' hwr
  go_enter Tryd.func55, Tryd.ntmps55
  go_wp2_with fail
  generalize (w.alloc (.cells #[.int .i64 a, .int .i64 m, .slice Ap p.length cp] 25)).alloc (.cells #[.int .i64 0, .int .i64 0, .slice none 0 0] 25) = W1 at *
  have k0 := bE.c0
  have k1' := bE.c1
  have k2' := bE.c2
  have HBE := Lib.hid bE.blk
  have HBR := Lib.hid bR.blk
  have HB0 := Lib.hid hal
  clear bE bR hal
  go_region_held3 (fun V => V.cell? ⟨w.heap.size, 0, none⟩ = some (.int .i64 a) ∧ V.cell? ⟨w.heap.size, 1, none⟩ = some (.int .i64 m) ∧ V.cell? ⟨w.heap.size, 2, none⟩ = some (.slice Ap p.length cp))
    (first | exact ⟨k0, k1', k2'⟩ | exact ⟨HE3.out.cell 0, HE3.out.cell 1, HE3.out.cell 2⟩ | exact ⟨HE4.out.cell 0, HE4.out.cell 1, HE4.out.cell 2⟩ | go_keep) (first
    | (go_at_call 74; refine (edEnd_any a m (a + m) Ap p.length cp _ HWR.out).mono ?_; rintro e w3 ⟨rfl, hb3⟩; have hb3 : Below W1.heap.size W1 w3 := ⟨hb3.os, hb3.tape, hb3.output, hb3.size, hb3.block⟩; have HE3 := Lib.hid (HBE.out.below hb3); have HR3 := Lib.hid (HBR.out.below hb3); have HB23 := Lib.hid (HB2.out.below hb3); have HB3 := Lib.hid (below_then HB0.out hb3); clear hb3)
    | (go_at_call 67; refine (bytesClone_opt A2 T k2 (c - k1) w3 HL1.out hT5 HB23.out).mono ?_; rintro e w4 ⟨v4, rfl, hown4, hb4⟩; obtain ⟨A4, c4, rfl, _, _, _⟩ := hown4.form; have HE4 := Lib.hid (HE3.out.below hb4); have HR4 := Lib.hid (HR3.out.below hb4); have HO4 := Lib.hid hown4; have HB4 := Lib.hid (below_then HB3.out hb4); have r0 := HR4.out.cell 0; have r1 := HR4.out.cell 1; have r2 := HR4.out.cell 2; have f0 := HR4.out.frozen 0; have f1 := HR4.out.frozen 1; have f2 := HR4.out.frozen 2; clear hown4 hb4))
  have hsz := HB3.out.size
  have hz4 := HB4.out.size
  have hlt := HR3.out.lt
  have hlt4 := HR4.out.lt
  have hB4 := HB4.out
  go_wp2
  refine bodyPost_ret (v := .agg #[.int .i64 a, .int .i64 p.length, .slice A4 T.length c4]) (by simp [results, Tryd.results55, go_sem, r0, r1, r2]) rfl ⟨.slice A4 T.length c4, rfl, ?_, ?_⟩
  · have h9 : ∀ (W : World) (i : Nat) (u : Value), Own W w3.heap.size (.slice A4 T.length c4) T → Own (W.setCell ⟨w.heap.size + 1, i, none⟩ u) w3.heap.size (.slice A4 T.length c4) T := fun W i u h => h.setBelow (by simpa using hlt) u
    exact (h9 _ _ _ (h9 _ _ _ (h9 _ _ _ HO4.out))).mono hsz
  · (repeat (first | exact Below.refl _ _ | assumption | refine Below.setCell ?_ (by first | (simp; done) | (simp; omega) | omega) _ | refine Below.drew ?_ | refine below_drewN ?_ _ | refine Below.alloc ?_ (by first | (simp; done) | (simp; omega) | omega) _))
end Go.Proofs.YtkplfbhblbinaaaDoor

namespace Go.Proofs.YtkplfbhblbinaaaDoor
open Go.RowKit P
set_option linter.unusedVariables false
set_option linter.unusedSimpArgs false
set_option maxRecDepth 100000

set_option maxHeartbeats 4000000 in
theorem whereDo_any (A : Option Addr) (l : List UInt8) (c : Nat) (a m : Int) (Ap : Option Addr) (p : List UInt8) (cp : Nat) (w : World) (hl : l.length ≤ c) (hc9 : c ≤ 9223372036854775807) (hpc : p.length ≤ cp) (hcp9 : cp ≤ 9223372036854775807) (hm9 : m ≤ 9223372036854775807) (hPl : Pl A c) (hT : Tab w) (hA : Bs w A l) (hP : Bs w Ap p) :
    Calls Tryd.prog 57 #[.slice A l.length c, .agg #[.int .i64 a, .int .i64 m, .slice Ap p.length cp], .func (.func 58) #[.agg #[.int .i64 a, .int .i64 m, .slice Ap p.length cp]] #[]] w (MakesE (edDo l a m p) (edOk l a m p) w) := by
  obtain ⟨q, hq⟩ : ∃ q, edOk l a m p = q := ⟨_, rfl⟩
  obtain ⟨T, hT'⟩ : ∃ T, edDo l a m p = T := ⟨_, rfl⟩
  have hal := (Below.refl w.heap.size w).alloc (Nat.le_refl _) (.cells #[.int .i64 a, .int .i64 m, .slice Ap p.length cp] 25)
  have HQ := Lib.hid hq
  have HT := Lib.hid hT'
  rw [hT', hq]
  clear hq hT'
  go_enter Tryd.func57, Tryd.ntmps57
  go_wp2_with fail
  generalize w.alloc (.cells #[.int .i64 a, .int .i64 m, .slice Ap p.length cp] 25) = W1 at *
  refine (implEditOk_any A l c a m Ap p cp _ hl hc9 hpc hcp9 hm9 (by exact hT.below hal) (by exact hA.below hal) (by exact hP.below hal)).mono ?_
  rintro e w2 ⟨rfl, hb2⟩
  rw [HQ.out]
  have hb2 := below_then hal hb2
  clear hal
  cases q
  · have hT0 : T = [] := by
      rw [← HT.out]; unfold edDo; rw [HQ.out]; rfl
    go_wp2
    go_ret2
    exact ⟨.slice none 0 0, rfl, by rw [hT0]; exact Own.nil _ _, hb2⟩
  have hr := edOk_range HQ.out
  have hT1 : edText l a m p = T := by rw [← HT.out]; unfold edDo; rw [HQ.out]; rfl
  have HT1 := Lib.hid hT1
  clear hT1
  go_wp2_with fail
  refine (edAfter_any A l c a m Ap p cp _ hl hc9 hpc hPl (by exact hA.below hb2) (by exact hP.below hb2) (by omega) (by omega) (by omega) (by omega) (by omega)).mono ?_
  rintro e w3 ⟨v3, rfl, hown3, hb3⟩
  rw [HT1.out] at hown3
  have hown3 := hown3.mono (base' := w.heap.size) hb2.size
  have hb3 := below_then hb2 hb3
  go_wp2
  go_ret2
  exact ⟨v3, rfl, hown3, hb3⟩

set_option maxHeartbeats 4000000 in
theorem implEditDo_any (A : Option Addr) (l : List UInt8) (c : Nat) (a m : Int) (Ap : Option Addr) (p : List UInt8) (cp : Nat) (w : World) (hl : l.length ≤ c) (hc9 : c ≤ 9223372036854775807) (hpc : p.length ≤ cp) (hcp9 : cp ≤ 9223372036854775807) (hm9 : m ≤ 9223372036854775807) (hPl : Pl A c) (hT : Tab w) (hA : Bs w A l) (hP : Bs w Ap p) :
    Calls Tryd.prog 18 #[.slice A l.length c, .agg #[.int .i64 a, .int .i64 m, .slice Ap p.length cp]] w (MakesE (edDo l a m p) (edOk l a m p) w) := by
  obtain ⟨q, hq⟩ : ∃ q, edOk l a m p = q := ⟨_, rfl⟩
  obtain ⟨T, hT'⟩ : ∃ T, edDo l a m p = T := ⟨_, rfl⟩
  have hal := (Below.refl w.heap.size w).alloc (Nat.le_refl _) (.cells #[.int .i64 a, .int .i64 m, .slice Ap p.length cp] 25)
  have HQ := Lib.hid hq
  have HT := Lib.hid hT'
  rw [hT', hq]
  clear hq hT'
  go_enter Tryd.func18, Tryd.ntmps18
  go_wp2_with fail
  generalize w.alloc (.cells #[.int .i64 a, .int .i64 m, .slice Ap p.length cp] 25) = W1 at *
  refine (whereDo_any A l c a m Ap p cp _ hl hc9 hpc hcp9 hm9 hPl (by exact hT.below hal) (by exact hA.below hal) (by exact hP.below hal)).mono ?_
  rintro e w3 ⟨v3, rfl, hown3, hb3⟩
  rw [HQ.out]
  rw [HT.out] at hown3
  have hown3 := hown3.mono (base' := w.heap.size) hal.size
  have hb3 := below_then hal hb3
  go_wp2
  go_ret2
  exact ⟨v3, rfl, hown3, hb3⟩

set_option maxHeartbeats 4000000 in
theorem whereBack_any (A : Option Addr) (l : List UInt8) (c : Nat) (a m : Int) (Ap : Option Addr) (p : List UInt8) (cp : Nat) (w : World) (hl : l.length ≤ c) (hc9 : c ≤ 9223372036854775807) (hpc : p.length ≤ cp) (hcp9 : cp ≤ 9223372036854775807) (hm9 : m ≤ 9223372036854775807) (hPl : Pl A c) (hT : Tab w) (hA : Bs w A l) (hP : Bs w Ap p) :
    Calls Tryd.prog 54 #[.slice A l.length c, .agg #[.int .i64 a, .int .i64 m, .slice Ap p.length cp], .func (.func 55) #[.agg #[.int .i64 a, .int .i64 m, .slice Ap p.length cp]] #[]] w (MakesEd (backA l a m p) (backM l a m p) (backP l a m p) (edOk l a m p) w) := by
  obtain ⟨q, hq⟩ : ∃ q, edOk l a m p = q := ⟨_, rfl⟩
  obtain ⟨ra, hra⟩ : ∃ q, backA l a m p = q := ⟨_, rfl⟩
  obtain ⟨rm, hrm⟩ : ∃ q, backM l a m p = q := ⟨_, rfl⟩
  obtain ⟨T, hT'⟩ : ∃ T, backP l a m p = T := ⟨_, rfl⟩
  have hal := ((Below.refl w.heap.size w).alloc (Nat.le_refl _) (.cells #[.int .i64 a, .int .i64 m, .slice Ap p.length cp] 25)).alloc (by simp) (.cells #[.int .i64 0, .int .i64 0, .slice none 0 0] 25)
  have bE := (EBox.new w a m Ap p.length cp).below ((Below.refl _ _).alloc (Nat.le_refl _) (.cells #[.int .i64 0, .int .i64 0, .slice none 0 0] 25))
  have bR := EBox.new (w.alloc (.cells #[.int .i64 a, .int .i64 m, .slice Ap p.length cp] 25)) 0 0 none 0 0
  rw [World.size_alloc] at bR
  have HQ := Lib.hid hq
  have HRA := Lib.hid hra
  have HRM := Lib.hid hrm
  have HT := Lib.hid hT'
  rw [hT', hq, hra, hrm]
  clear hq hT' hra hrm
  go_enter Tryd.func54, Tryd.ntmps54
  go_wp2_with fail
  generalize (w.alloc (.cells #[.int .i64 a, .int .i64 m, .slice Ap p.length cp] 25)).alloc (.cells #[.int .i64 0, .int .i64 0, .slice none 0 0] 25) = W1 at *
  refine (implEditOk_any A l c a m Ap p cp _ hl hc9 hpc hcp9 hm9 (by exact hT.below hal) (by exact hA.below hal) (by exact hP.below hal)).mono ?_
  rintro e w2 ⟨rfl, hb2⟩
  rw [HQ.out]
  have bE := bE.below hb2
  have bR := bR.below hb2
  have hb2 := below_then hal hb2
  clear hal
  cases q
  · have e1 : ra = 0 := by rw [← HRA.out]; unfold backA; rw [HQ.out]; rfl
    have e2 : rm = 0 := by rw [← HRM.out]; unfold backM; rw [HQ.out]; rfl
    have e3 : T = [] := by rw [← HT.out]; unfold backP; rw [HQ.out]; rfl
    have hb2' := hb2.alloc hb2.size (.cells #[.int .i64 0, .int .i64 0, .slice none 0 0] 25)
    have bR := bR.below ((Below.refl _ _).alloc (Nat.le_refl _) (.cells #[.int .i64 0, .int .i64 0, .slice none 0 0] 25))
    have r0 := bR.c0
    have r1 := bR.c1
    have r2 := bR.c2
    have f0 := bR.blk.frozen 0
    have f1 := bR.blk.frozen 1
    have f2 := bR.blk.frozen 2
    go_wp2
    refine bodyPost_ret (v := .tuple #[.agg #[.int .i64 0, .int .i64 0, .slice none 0 0], .bool false]) (by simp [results, Tryd.results54, go_sem, r0, r1, r2]) rfl ⟨.slice none 0 0, by rw [e1, e2], by rw [e3]; exact Own.nil _ _, ?_⟩
    (repeat (first | exact Below.refl _ _ | assumption | refine Below.setCell ?_ (by first | (simp; done) | (simp; omega) | omega) _ | refine Below.drew ?_ | refine below_drewN ?_ _ | refine Below.alloc ?_ (by first | (simp; done) | (simp; omega) | omega) _))
  have hr := edOk_range HQ.out
  have e1 : ra = a := by rw [← HRA.out]; unfold backA; rw [HQ.out]; rfl
  have e2 : rm = (p.length : Int) := by rw [← HRM.out]; unfold backM; rw [HQ.out]; rfl
  have e3 : edCut l a m = T := by rw [← HT.out]; unfold backP; rw [HQ.out]; rfl
  have HE1 := Lib.hid e1
  have HE2 := Lib.hid e2
  have HE3 := Lib.hid e3
  clear e1 e2 e3
  have hlt0 := bR.lt
  have hz0 := hb2.size
  go_wp2_with fail
  refine (edBack_any A l c a m Ap p cp _ hl hc9 hpc hPl (by exact hA.below hb2) (by exact hP.below hb2) (by omega) (by omega) (by omega) (by omega) (by omega)).mono ?_
  rintro e w3 ⟨v3, rfl, hown3, hb3⟩
  rw [HE3.out] at hown3
  have bR := bR.below hb3
  have hb3 := below_then hb2 hb3
  obtain ⟨A3, c3, rfl, _, _, _⟩ := hown3.form
  have r0 := bR.c0
  have r1 := bR.c1
  have r2 := bR.c2
  have f0 := bR.blk.frozen 0
  have f1 := bR.blk.frozen 1
  have f2 := bR.blk.frozen 2
  have hlt := bR.lt
  go_wp2
  refine bodyPost_ret (v := .tuple #[.agg #[.int .i64 a, .int .i64 p.length, .slice A3 T.length c3], .bool true]) (by simp [results, Tryd.results54, go_sem, r0, r1, r2]) rfl ⟨.slice A3 T.length c3, by rw [HE1.out, HE2.out], ?_, ?_⟩
  · have h9 : ∀ (W : World) (i : Nat) (u : Value), Own W w2.heap.size (.slice A3 T.length c3) T → Own (W.setCell ⟨w.heap.size + 1, i, none⟩ u) w2.heap.size (.slice A3 T.length c3) T := fun W i u h => h.setBelow (by simpa using hlt0) u
    exact (h9 _ _ _ (h9 _ _ _ (h9 _ _ _ hown3))).mono hz0
  · (repeat (first | exact Below.refl _ _ | assumption | refine Below.setCell ?_ (by first | (simp; done) | (simp; omega) | omega) _ | refine Below.drew ?_ | refine below_drewN ?_ _ | refine Below.alloc ?_ (by first | (simp; done) | (simp; omega) | omega) _))

set_option maxHeartbeats 4000000 in
theorem implEditBack_any (A : Option Addr) (l : List UInt8) (c : Nat) (a m : Int) (Ap : Option Addr) (p : List UInt8) (cp : Nat) (w : World) (hl : l.length ≤ c) (hc9 : c ≤ 9223372036854775807) (hpc : p.length ≤ cp) (hcp9 : cp ≤ 9223372036854775807) (hm9 : m ≤ 9223372036854775807) (hPl : Pl A c) (hT : Tab w) (hA : Bs w A l) (hP : Bs w Ap p) :
    Calls Tryd.prog 15 #[.slice A l.length c, .agg #[.int .i64 a, .int .i64 m, .slice Ap p.length cp]] w (MakesEd (backA l a m p) (backM l a m p) (backP l a m p) (edOk l a m p) w) := by
  obtain ⟨q, hq⟩ : ∃ q, edOk l a m p = q := ⟨_, rfl⟩
  obtain ⟨ra, hra⟩ : ∃ q, backA l a m p = q := ⟨_, rfl⟩
  obtain ⟨rm, hrm⟩ : ∃ q, backM l a m p = q := ⟨_, rfl⟩
  obtain ⟨T, hT'⟩ : ∃ T, backP l a m p = T := ⟨_, rfl⟩
  have hal := ((Below.refl w.heap.size w).alloc (Nat.le_refl _) (.cells #[.int .i64 a, .int .i64 m, .slice Ap p.length cp] 25)).alloc (by simp) (.cells #[.int .i64 0, .int .i64 0, .slice none 0 0] 25)
  have bE := (EBox.new w a m Ap p.length cp).below ((Below.refl _ _).alloc (Nat.le_refl _) (.cells #[.int .i64 0, .int .i64 0, .slice none 0 0] 25))
  have bR := EBox.new (w.alloc (.cells #[.int .i64 a, .int .i64 m, .slice Ap p.length cp] 25)) 0 0 none 0 0
  rw [World.size_alloc] at bR
  have HQ := Lib.hid hq
  have HRA := Lib.hid hra
  have HRM := Lib.hid hrm
  have HT := Lib.hid hT'
  rw [hT', hq, hra, hrm]
  clear hq hT' hra hrm
  go_enter Tryd.func15, Tryd.ntmps15
  go_wp2_with fail
  generalize (w.alloc (.cells #[.int .i64 a, .int .i64 m, .slice Ap p.length cp] 25)).alloc (.cells #[.int .i64 0, .int .i64 0, .slice none 0 0] 25) = W1 at *
  refine (whereBack_any A l c a m Ap p cp _ hl hc9 hpc hcp9 hm9 hPl (by exact hT.below hal) (by exact hA.below hal) (by exact hP.below hal)).mono ?_
  rintro e w3 ⟨v3, rfl, hown3, hb3⟩
  rw [HQ.out, HRA.out, HRM.out]
  rw [HT.out] at hown3
  have hlt0 := bR.lt
  have hz0 := hal.size
  have bR := bR.below hb3
  have hb3 := below_then hal hb3
  obtain ⟨A3, c3, rfl, _, _, _⟩ := hown3.form
  have r0 := bR.c0
  have r1 := bR.c1
  have r2 := bR.c2
  have f0 := bR.blk.frozen 0
  have f1 := bR.blk.frozen 1
  have f2 := bR.blk.frozen 2
  have hlt := bR.lt
  go_wp2
  refine bodyPost_ret (v := .tuple #[.agg #[.int .i64 ra, .int .i64 rm, .slice A3 T.length c3], .bool q]) (by simp [results, Tryd.results15, go_sem, r0, r1, r2]) rfl ⟨.slice A3 T.length c3, rfl, ?_, ?_⟩
  · have h9 : ∀ (W : World) (i : Nat) (u : Value), Own W W1.heap.size (.slice A3 T.length c3) T → Own (W.setCell ⟨w.heap.size + 1, i, none⟩ u) W1.heap.size (.slice A3 T.length c3) T := fun W i u h => h.setBelow (by simpa using hlt0) u
    exact (h9 _ _ _ (h9 _ _ _ (h9 _ _ _ hown3))).mono hz0
  · (repeat (first | exact Below.refl _ _ | assumption | refine Below.setCell ?_ (by first | (simp; done) | (simp; omega) | omega) _ | refine Below.drew ?_ | refine below_drewN ?_ _ | refine Below.alloc ?_ (by first | (simp; done) | (simp; omega) | omega) _))
end Go.Proofs.YtkplfbhblbinaaaDoor
