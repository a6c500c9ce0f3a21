/-
  Chapter 5, the program's EditOk and the methods under it: contracts. Own work.
  Chapter 5, the program's methods after and back, whereOk, EditDo and EditBack: contracts. Own work.
  Chapter 5, the program's whereOk, EditDo and EditBack: contracts. Own work.
-/
import Derived.Test.YtepffgahgfipjaaDoorI01f
import Derived.Test.YtepffgahgfipjaaDoorP08c
import Derived.Test.YtepffgahgfipjaaDoorEB
import Derived.Test.YtepffgahgfipjaaDoorS08
import Derived.Test.YtepffgahgfipjaaDoorCat3
import Derived.Deep.RegionHeld3
namespace Go.Proofs.YtepffgahgfipjaaDoor
open Go.RowKit P
set_option linter.unusedVariables false
set_option linter.unusedSimpArgs false
set_option maxRecDepth 100000

set_option maxHeartbeats 400000 in
theorem edEnd_any (a m r : Int) (A : Option Addr) (n c : Nat) (w : World) (hr : IntKind.i64.wrap (a + m) = r) :
    Calls Tryd.prog 85 #[.agg #[.int .i64 a, .int .i64 m, .slice A n c]] w fun e w' => e = .returned (.int .i64 r) ∧ Below w.heap.size w w' := by
  have HR := Lib.hid hr
  clear hr
  have hb0 := (Below.refl w.heap.size w).alloc (Nat.le_refl _) (.cells #[.int .i64 a, .int .i64 m, .slice A n c] 25)
  go_enter Tryd.func85, Tryd.ntmps85
  go_wp2
  go_ret
  exact ⟨ret_int (by rw [← HR.out]; first | rfl | exact (IntWalk.i64_left _).symm), hb0⟩

theorem wrap_end {l : List UInt8} {a m : Int} (hm : 0 ≤ m) (hm2 : m ≤ 9223372036854775807) (hl : l.length ≤ 400) (ha : isBound l a = true) : isBound l (IntKind.i64.wrap (a + m)) = isBound l (a + m) := by
  have h := isBound_range ha
  by_cases h1 : a + m ≤ 9223372036854775807
  · rw [IntWalk.i64_in _ ⟨by omega, h1⟩]
  · rw [isBound_out _ (a + m) (by omega), isBound_out]
    left
    rw [IntKind.wrap_i64]
    omega

/-- Whether the edit cuts whole code points out of a text. -/
def edWhole (l : List UInt8) (a m : Int) : Bool := decide (0 ≤ m) && (isBound l a && isBound l (a + m))

set_option maxHeartbeats 2000000 in
theorem cutsWhole_any (a m : Int) (Ap : Option Addr) (n cp : Nat) (A : Option Addr) (l : List UInt8) (c : Nat) (w : World) (hl : l.length ≤ 400) (hm9 : m ≤ 9223372036854775807) (hA : Bs w A l) :
    Calls Tryd.prog 67 #[.agg #[.int .i64 a, .int .i64 m, .slice Ap n cp], .slice A l.length c] w fun e w' => e = .returned (.bool (edWhole l a m)) ∧ Below w.heap.size w w' := by
  have hb0 := (Below.refl w.heap.size w).alloc (Nat.le_refl _) (.cells #[.int .i64 a, .int .i64 m, .slice Ap n cp] 25)
  have bE := EBox.new w a m Ap n cp
  obtain ⟨q1, hq1⟩ : ∃ q, isBound l a = q := ⟨_, rfl⟩
  obtain ⟨z, hz⟩ : ∃ z, IntKind.i64.wrap (a + m) = z := ⟨_, rfl⟩
  obtain ⟨q2, hq2⟩ : ∃ q, isBound l z = q := ⟨_, rfl⟩
  obtain ⟨R, hR⟩ : ∃ R, edWhole l a m = R := ⟨_, rfl⟩
  have F0 : m < 0 → R = false := fun h => by rw [← hR]; unfold edWhole; rw [decide_eq_false (by omega)]; rfl
  have F1 : q1 = false → R = false := fun h => by rw [← hR]; unfold edWhole; rw [hq1, h]; simp
  have F2 : 0 ≤ m → q1 = true → R = q2 := fun h0 h => by
    rw [← hR, ← hq2, ← hz, wrap_end h0 hm9 hl (hq1.trans h)]
    unfold edWhole
    rw [decide_eq_true h0, hq1, h]; simp
  have HQ1 := Lib.hid hq1
  have HQ2 := Lib.hid hq2
  have G0 := Lib.hid F0
  have G1 := Lib.hid F1
  have G2 := Lib.hid F2
  have HZ := Lib.hid hz
  rw [hR]
  clear hq1 hq2 hR hz F0 F1 F2
  by_cases hneg : m < 0
  · have e1 := G0.out hneg
    have hg : (decide (m ≥ 0)) = false := decide_eq_false (by omega)
    go_enter Tryd.func67, Tryd.ntmps67
    go_wp2
    go_ret
    exact ⟨ret_bool e1.symm, hb0⟩
  have hm0 : 0 ≤ m := by omega
  go_enter Tryd.func67, Tryd.ntmps67
  go_wp2_with fail
  generalize w.alloc (.cells #[.int .i64 a, .int .i64 m, .slice Ap n cp] 25) = W1 at *
  refine (isBoundary_any A l c a _ (by omega) (by exact hA.below hb0)).mono ?_
  rintro e w2 ⟨rfl, rfl⟩
  rw [HQ1.out]
  have k0 := bE.c0
  have k1 := bE.c1
  have k2 := bE.c2
  cases q1
  · have e1 := G1.out rfl
    go_wp2
    go_ret
    exact ⟨ret_bool e1.symm, hb0⟩
  have e1 := G2.out hm0 rfl
  go_wp2_with fail
  refine (edEnd_any a m z Ap n cp _ HZ.out).mono ?_
  rintro e w3 ⟨rfl, hb3⟩
  have hb3 := below_then hb0 hb3
  clear k0 k1 k2
  go_wp2_with fail
  refine (isBoundary_any A l c _ _ (by omega) (by exact hA.below hb3)).mono ?_
  rintro e w4 ⟨rfl, rfl⟩
  rw [HQ2.out]
  go_wp2
  go_ret
  exact ⟨ret_bool e1.symm, hb3⟩

set_option maxHeartbeats 2000000 in
theorem implEditOk_any (A : Option Addr) (l : List UInt8) (c : Nat) (a m : Int) (Ap : Option Addr) (p : List UInt8) (cp : Nat) (w : World) (hl : l.length ≤ c) (hc9 : c ≤ 9223372036854775807) (hpc : p.length ≤ cp) (hcp9 : cp ≤ 9223372036854775807) (hm9 : m ≤ 9223372036854775807) (hT : Tab w) (hA : Bs w A l) (hP : Bs w Ap p) :
    Calls Tryd.prog 19 #[.slice A l.length c, .agg #[.int .i64 a, .int .i64 m, .slice Ap p.length cp]] w fun e w' => e = .returned (.bool (edOk l a m p)) ∧ Below w.heap.size w w' := by
  obtain ⟨q0, hq0⟩ : ∃ q, isText l = q := ⟨_, rfl⟩
  obtain ⟨q1, hq1⟩ : ∃ q, edWhole l a m = q := ⟨_, rfl⟩
  obtain ⟨q3, hq3⟩ : ∃ q, isText p = q := ⟨_, rfl⟩
  obtain ⟨R, hR⟩ : ∃ R, edOk l a m p = R := ⟨_, rfl⟩
  have hRq : R = (q0 && (q3 && (q1 && decide ((l.length : Int) - m + p.length ≤ 400)))) := by
    rw [← hR, ← hq0, ← hq3, ← hq1]
    unfold edOk edWhole
    cases decide (0 ≤ m) <;> cases isText l <;> cases isText p <;> simp
  have hlen0 : q0 = true → l.length ≤ 400 := fun h => isText_len (hq0.trans h)
  have hlen3 : q3 = true → p.length ≤ 400 := fun h => isText_len (hq3.trans h)
  have hrg : q1 = true → 0 ≤ m ∧ m ≤ (l.length : Int) := fun h => by
    rw [← hq1] at h
    unfold edWhole at h
    simp only [Bool.and_eq_true, decide_eq_true_eq] at h
    have g1 := isBound_range h.2.1
    have g2 := isBound_range h.2.2
    omega
  have F0 : q0 = false → R = false := fun h => by rw [hRq, h]; rfl
  have F1 : q1 = false → R = false := fun h => by rw [hRq, h]; simp
  have F3 : q3 = false → R = false := fun h => by rw [hRq, h]; simp
  have F6 : q0 = true → q1 = true → q3 = true → R = decide ((l.length : Int) - m + p.length ≤ 400) := fun h1 h2 h3 => by rw [hRq, h1, h2, h3]; simp
  have HQ0 := Lib.hid hq0
  have HQ1 := Lib.hid hq1
  have HQ3 := Lib.hid hq3
  have HRG := Lib.hid hrg
  have HL0 := Lib.hid hlen0
  have HL3 := Lib.hid hlen3
  have G0 := Lib.hid F0
  have G1 := Lib.hid F1
  have G3 := Lib.hid F3
  have G6 := Lib.hid F6
  have hal := (Below.refl w.heap.size w).alloc (Nat.le_refl _) (.cells #[.int .i64 a, .int .i64 m, .slice Ap p.length cp] 25)
  have bE := EBox.new w a m Ap p.length cp
  rw [hR]
  clear hq0 hq1 hq3 hR hRq hrg hlen0 hlen3 F0 F1 F3 F6
  go_enter Tryd.func19, Tryd.ntmps19
  go_wp2_with fail
  generalize w.alloc (.cells #[.int .i64 a, .int .i64 m, .slice Ap p.length cp] 25) = W1 at *
  refine (textOk_any A l c _ hl hc9 (by exact hT.below hal) (by exact hA.below hal)).mono ?_
  rintro e w2 ⟨rfl, n2, rfl⟩
  rw [HQ0.out]
  have hb1 := below_drewN (Below.refl W1.heap.size W1) n2
  have bE := bE.below hb1
  have hb2 := below_then hal hb1
  generalize W1.drewN n2 = w2 at *
  have k0 := bE.c0
  have k1 := bE.c1
  have k2 := bE.c2
  clear hb1 hal
  cases q0
  · have e1 := G0.out rfl
    go_wp2
    go_ret
    exact ⟨ret_bool e1.symm, hb2⟩
  have hl4 := HL0.out rfl
  go_wp2_with fail
  refine (textOk_any Ap p cp _ hpc hcp9 (by exact hT.below hb2) (by exact hP.below hb2)).mono ?_
  rintro e w3 ⟨rfl, n3, rfl⟩
  rw [HQ3.out]
  have hb1 := below_drewN (Below.refl w2.heap.size w2) n3
  have bE := bE.below hb1
  have hb3 := below_then hb2 hb1
  generalize w2.drewN n3 = w3 at *
  clear hb1 hb2 k0 k1 k2
  have k0 := bE.c0
  have k1 := bE.c1
  have k2 := bE.c2
  cases q3
  · have e1 := G3.out rfl
    go_wp2
    go_ret
    exact ⟨ret_bool e1.symm, hb3⟩
  have hp4 := HL3.out rfl
  go_wp2_with fail
  refine (cutsWhole_any a m Ap p.length cp A l c _ hl4 hm9 (by exact hA.below hb3)).mono ?_
  rintro e w4 ⟨rfl, hb4⟩
  rw [HQ1.out]
  have bE := bE.below hb4
  have hb4 := below_then hb3 hb4
  clear hb3 k0 k1 k2
  have k0 := bE.c0
  have k1 := bE.c1
  have k2 := bE.c2
  cases q1
  · have e1 := G1.out rfl
    go_wp2
    go_ret
    exact ⟨ret_bool e1.symm, hb4⟩
  obtain ⟨hm0, hm4⟩ := HRG.out rfl
  have e1 := G6.out (by trivial) (by trivial) (by trivial)
  go_wp2
  go_ret
  exact ⟨ret_bool e1.symm, hb4⟩
end Go.Proofs.YtepffgahgfipjaaDoor

namespace Go.Proofs.YtepffgahgfipjaaDoor
open Go.RowKit P
set_option linter.unusedVariables false
set_option linter.unusedSimpArgs false
set_option maxRecDepth 100000

set_option maxHeartbeats 4000000 in
theorem edAfter_any (A : Option Addr) (l : List UInt8) (c : Nat) (a m : Int) (Ap : Option Addr) (p : List UInt8) (cp : Nat) (w : World) (hl : l.length ≤ c) (hc9 : c ≤ 9223372036854775807) (hpc : p.length ≤ cp) (hPl : Pl A c) (hA : Bs w A l) (hP : Bs w Ap p)
    (ha : 0 ≤ a) (hm : 0 ≤ m) (ham : a + m ≤ l.length) (hl4 : l.length ≤ 500000) (hp4 : p.length ≤ 500000) :
    Calls Tryd.prog 69 #[.agg #[.int .i64 a, .int .i64 m, .slice Ap p.length cp], .slice A l.length c] w (Makes w (edText l a m p)) := by
  have hb0 := (Below.refl w.heap.size w).alloc (Nat.le_refl _) (.cells #[.int .i64 a, .int .i64 m, .slice Ap p.length cp] 25)
  have bE := EBox.new w a m Ap p.length cp
  obtain ⟨T, hT⟩ : ∃ T, edText l a m p = T := ⟨_, rfl⟩
  obtain ⟨k1, hk1⟩ : ∃ k : Nat, a = (k : Int) := ⟨a.toNat, by omega⟩
  obtain ⟨k2, hk2⟩ : ∃ k : Nat, a + m = (k : Int) := ⟨(a + m).toNat, by omega⟩
  have hT1 : l.take k1 ++ (p ++ l.drop k2) = T := by
    rw [← hT]; unfold edText; rw [show a.toNat = k1 by omega, show (a + m).toNat = k2 by omega]
  have hlen1 : (l.take k1).length = k1 := by rw [List.length_take]; omega
  have hlen2 : (l.drop k2).length = l.length - k2 := by rw [List.length_drop]
  have hs1 : ∀ W, (Instr.slice 22 (.slice A l.length c) none (some (.int .i64 a)) none).run Tryd.prog W = .ok (.slice A k1 c) W := fun W => by
    rw [hk1]
    exact slc_head A l.length c k1 hPl.1 hPl.2 (by omega) W
  obtain ⟨A2, hs2', hB2, _, _⟩ := slc_tail A l.length c k2 w l hPl.1 hPl.2 rfl (by omega) hl hc9 hA
  have hs2 : ∀ W, (Instr.slice 22 (.slice A l.length c) (some (.int .i64 (a + m))) none none).run Tryd.prog W = .ok (.slice A2 (l.length - k2) (c - k2)) W := fun W => by
    rw [hk2]
    exact hs2' W
  have hB1 := hA.head9 k1 (by omega)
  obtain ⟨X, hX⟩ : ∃ X, l.take k1 = X := ⟨_, rfl⟩
  obtain ⟨Y, hY⟩ : ∃ Y, l.drop k2 = Y := ⟨_, rfl⟩
  rw [hX] at hB1 hlen1 hT1
  rw [hY] at hB2 hlen2 hT1
  have hk1c : k1 ≤ c := by omega
  have hk2c : l.length - k2 ≤ c - k2 := by omega
  have hk14 : k1 ≤ 500000 := by omega
  have hwr : IntKind.i64.wrap (a + m) = a + m := IntWalk.i64_in _ ⟨by omega, by omega⟩
  have HB1 := Lib.hid hB1
  have HB2 := Lib.hid hB2
  have HT1 := Lib.hid hT1
  have HL1 := Lib.hid hlen1
  have HL2 := Lib.hid hlen2
  have HWR := Lib.hid hwr
  rw [hT]
  clear hT hX hY hB1 hB2 hT1 hlen1 hlen2 hk1 hk2 hs2' hwr
  go_enter Tryd.func69, Tryd.ntmps69
  go_wp2_with fail
  generalize w.alloc (.cells #[.int .i64 a, .int .i64 m, .slice Ap p.length cp] 25) = W1 at *
  have k0 := bE.c0
  have k1' := bE.c1
  have k2' := bE.c2
  have HBE := Lib.hid bE.blk
  have HB0 := Lib.hid hb0
  have hconc : ∀ (W : World), Below w.heap.size w W → Calls Tryd.prog 109 #[.slice (some ⟨W.heap.size, 0, none⟩) 3 3] (W.alloc (.cells #[.slice A k1 c, .slice Ap p.length cp, .slice A2 (l.length - k2) (c - k2)] 22)) fun e w' => ∃ v, e = .returned v ∧ Own w' W.heap.size v T ∧ Below W.heap.size W w' := fun W hW => by
    have := concatBy3_e A Ap A2 X p Y c cp (c - k2) W (by rw [HL1.out]; exact hk1c) hpc (by rw [HL2.out]; exact hk2c) (by rw [HL1.out, HL2.out]; omega) (HB1.out.below hW) (hP.below hW) (HB2.out.below hW)
    rw [HL1.out, HL2.out, HT1.out] at this
    exact this
  have HC := Lib.hid hconc
  clear bE hb0 hconc
  go_region_held3 (fun V => V.cell? ⟨w.heap.size, 0, none⟩ = some (.int .i64 a) ∧ V.cell? ⟨w.heap.size, 1, none⟩ = some (.int .i64 m) ∧ V.cell? ⟨w.heap.size, 2, none⟩ = some (.slice Ap p.length cp))
    (first | exact ⟨k0, k1', k2'⟩ | exact ⟨HE3.out.cell 0, HE3.out.cell 1, HE3.out.cell 2⟩ | exact ⟨HE4.out.cell 0, HE4.out.cell 1, HE4.out.cell 2⟩ | go_keep) (first
    | (go_at_call 85; refine (edEnd_any a m (a + m) Ap p.length cp _ HWR.out).mono ?_; rintro e w3 ⟨rfl, hb3⟩; have hb3 : Below W1.heap.size W1 w3 := ⟨hb3.os, hb3.tape, hb3.output, hb3.size, hb3.block⟩; have HE3 := Lib.hid (HBE.out.below hb3); have HB3 := Lib.hid (below_then HB0.out hb3); clear hb3)
    | (go_at_call 109; refine (HC.out w3 HB3.out).mono ?_; rintro e w4 ⟨v4, rfl, hown4, hb4⟩; have HE4 := Lib.hid (HE3.out.below hb4); have HO4 := Lib.hid hown4; have HB4 := Lib.hid (below_then HB3.out hb4); clear hown4 hb4))
  have hsz := HB3.out.size
  go_wp2
  go_ret
  exact ⟨v4, rfl, HO4.out.mono hsz, HB4.out⟩

set_option maxHeartbeats 1000000 in
theorem bytesClone_opt (A : Option Addr) (l : List UInt8) (n c : Nat) (w : World) (hn : n = l.length) (hl : l.length ≤ 1000000) (hA : Bs w A l) :
    Calls Tryd.prog 78 #[.slice A n c] w (Makes w l) := by
  cases A with
  | some a => exact bytesClone_e a l n c w hn hl hA
  | none =>
    have h0 : l = [] := by
      cases l with
      | nil => rfl
      | cons x t => obtain ⟨b, off, e, _⟩ := hA 0 (by simp); cases e
    subst h0
    have q22 : ∀ (w : World) (a : Option Addr) (n c n' c' : Nat), (binOp .eql 22 (.slice a n c) (.slice none n' c')).run Tryd.prog w = .ok (.bool a.isNone) w := fun w a n c n' c' => Lib.run_eql_slice_nil w _ _ a n c n' c' Tryd.underlying22
    go_enter Tryd.func78, Tryd.ntmps78
    go_wp2
    go_ret
    exact Makes.nil w

set_option maxHeartbeats 4000000 in
theorem edBack_any (A : Option Addr) (l : List UInt8) (c : Nat) (a m : Int) (Ap : Option Addr) (p : List UInt8) (cp : Nat) (w : World) (hl : l.length ≤ c) (hc9 : c ≤ 9223372036854775807) (hpc : p.length ≤ cp) (hPl : Pl A c) (hA : Bs w A l) (hP : Bs w Ap p)
    (ha : 0 ≤ a) (hm : 0 ≤ m) (ham : a + m ≤ l.length) (hl4 : l.length ≤ 500000) (hp4 : p.length ≤ 500000) :
    Calls Tryd.prog 66 #[.agg #[.int .i64 a, .int .i64 m, .slice Ap p.length cp], .slice A l.length c] w fun e w' => ∃ v, e = .returned (.agg #[.int .i64 a, .int .i64 p.length, v]) ∧ Own w' w.heap.size v (edCut l a m) ∧ Below w.heap.size w w' := by
  have hal := ((Below.refl w.heap.size w).alloc (Nat.le_refl _) (.cells #[.int .i64 a, .int .i64 m, .slice Ap p.length cp] 25)).alloc (by simp) (.cells #[.int .i64 0, .int .i64 0, .slice none 0 0] 25)
  have bE := (EBox.new w a m Ap p.length cp).below ((Below.refl _ _).alloc (Nat.le_refl _) (.cells #[.int .i64 0, .int .i64 0, .slice none 0 0] 25))
  have bR := EBox.new (w.alloc (.cells #[.int .i64 a, .int .i64 m, .slice Ap p.length cp] 25)) 0 0 none 0 0
  rw [World.size_alloc] at bR
  obtain ⟨T, hT⟩ : ∃ T, edCut l a m = T := ⟨_, rfl⟩
  obtain ⟨k1, hk1⟩ : ∃ k : Nat, a = (k : Int) := ⟨a.toNat, by omega⟩
  obtain ⟨k2, hk2⟩ : ∃ k : Nat, m = (k : Int) := ⟨m.toNat, by omega⟩
  have hT1 : (l.drop k1).take k2 = T := by
    rw [← hT]; unfold edCut; rw [show a.toNat = k1 by omega, show m.toNat = k2 by omega]
  have hlen1 : k2 = T.length := by rw [← hT1, List.length_take, List.length_drop]; omega
  obtain ⟨A2, hs2', hB2⟩ := slc_mid A l.length c k1 k2 w l hPl.1 hPl.2 rfl (by omega) hl hc9 hA
  have hs2 : ∀ W, (Instr.slice 22 (.slice A l.length c) (some (.int .i64 a)) (some (.int .i64 (a + m))) none).run Tryd.prog W = .ok (.slice A2 k2 (c - k1)) W := fun W => by
    rw [hk1, hk2]
    exact hs2' W
  rw [hT1] at hB2
  have hwr : IntKind.i64.wrap (a + m) = a + m := IntWalk.i64_in _ ⟨by omega, by omega⟩
  have hT5 : T.length ≤ 1000000 := by omega
  have HB2 := Lib.hid (hB2.below hal)
  have HL1 := Lib.hid hlen1
  have HWR := Lib.hid hwr
  rw [hT]
  clear hT hB2 hT1 hlen1 hk1 hk2 hs2' hwr
  go_enter Tryd.func66, Tryd.ntmps66
  go_wp2_with fail
  generalize (w.alloc (.cells #[.int .i64 a, .int .i64 m, .slice Ap p.length cp] 25)).alloc (.cells #[.int .i64 0, .int .i64 0, .slice none 0 0] 25) = W1 at *
  have k0 := bE.c0
  have k1' := bE.c1
  have k2' := bE.c2
  have HBE := Lib.hid bE.blk
  have HBR := Lib.hid bR.blk
  have HB0 := Lib.hid hal
  clear bE bR hal
  go_region_held3 (fun V => V.cell? ⟨w.heap.size, 0, none⟩ = some (.int .i64 a) ∧ V.cell? ⟨w.heap.size, 1, none⟩ = some (.int .i64 m) ∧ V.cell? ⟨w.heap.size, 2, none⟩ = some (.slice Ap p.length cp))
    (first | exact ⟨k0, k1', k2'⟩ | exact ⟨HE3.out.cell 0, HE3.out.cell 1, HE3.out.cell 2⟩ | exact ⟨HE4.out.cell 0, HE4.out.cell 1, HE4.out.cell 2⟩ | go_keep) (first
    | (go_at_call 85; refine (edEnd_any a m (a + m) Ap p.length cp _ HWR.out).mono ?_; rintro e w3 ⟨rfl, hb3⟩; have hb3 : Below W1.heap.size W1 w3 := ⟨hb3.os, hb3.tape, hb3.output, hb3.size, hb3.block⟩; have HE3 := Lib.hid (HBE.out.below hb3); have HR3 := Lib.hid (HBR.out.below hb3); have HB23 := Lib.hid (HB2.out.below hb3); have HB3 := Lib.hid (below_then HB0.out hb3); clear hb3)
    | (go_at_call 78; refine (bytesClone_opt A2 T k2 (c - k1) w3 HL1.out hT5 HB23.out).mono ?_; rintro e w4 ⟨v4, rfl, hown4, hb4⟩; obtain ⟨A4, c4, rfl, _, _, _⟩ := hown4.form; have HE4 := Lib.hid (HE3.out.below hb4); have HR4 := Lib.hid (HR3.out.below hb4); have HO4 := Lib.hid hown4; have HB4 := Lib.hid (below_then HB3.out hb4); have r0 := HR4.out.cell 0; have r1 := HR4.out.cell 1; have r2 := HR4.out.cell 2; have f0 := HR4.out.frozen 0; have f1 := HR4.out.frozen 1; have f2 := HR4.out.frozen 2; clear hown4 hb4))
  have hsz := HB3.out.size
  have hz4 := HB4.out.size
  have hlt := HR3.out.lt
  have hlt4 := HR4.out.lt
  have hB4 := HB4.out
  go_wp2
  refine bodyPost_ret (v := .agg #[.int .i64 a, .int .i64 p.length, .slice A4 T.length c4]) (by simp [results, Tryd.results66, go_sem, r0, r1, r2]) rfl ⟨.slice A4 T.length c4, rfl, ?_, ?_⟩
  · have h9 : ∀ (W : World) (i : Nat) (u : Value), Own W w3.heap.size (.slice A4 T.length c4) T → Own (W.setCell ⟨w.heap.size + 1, i, none⟩ u) w3.heap.size (.slice A4 T.length c4) T := fun W i u h => h.setBelow (by simpa using hlt) u
    exact (h9 _ _ _ (h9 _ _ _ (h9 _ _ _ HO4.out))).mono hsz
  · (repeat (first | exact Below.refl _ _ | assumption | refine Below.setCell ?_ (by first | (simp; done) | (simp; omega) | omega) _ | refine Below.drew ?_ | refine below_drewN ?_ _ | refine Below.alloc ?_ (by first | (simp; done) | (simp; omega) | omega) _))
end Go.Proofs.YtepffgahgfipjaaDoor

namespace Go.Proofs.YtepffgahgfipjaaDoor
open Go.RowKit P
set_option linter.unusedVariables false
set_option linter.unusedSimpArgs false
set_option maxRecDepth 100000

set_option maxHeartbeats 4000000 in
theorem whereDo_any (A : Option Addr) (l : List UInt8) (c : Nat) (a m : Int) (Ap : Option Addr) (p : List UInt8) (cp : Nat) (w : World) (hl : l.length ≤ c) (hc9 : c ≤ 9223372036854775807) (hpc : p.length ≤ cp) (hcp9 : cp ≤ 9223372036854775807) (hm9 : m ≤ 9223372036854775807) (hPl : Pl A c) (hT : Tab w) (hA : Bs w A l) (hP : Bs w Ap p) :
    Calls Tryd.prog 68 #[.slice A l.length c, .agg #[.int .i64 a, .int .i64 m, .slice Ap p.length cp], .func (.func 69) #[.agg #[.int .i64 a, .int .i64 m, .slice Ap p.length cp]] #[]] w (MakesE (edDo l a m p) (edOk l a m p) w) := by
  obtain ⟨q, hq⟩ : ∃ q, edOk l a m p = q := ⟨_, rfl⟩
  obtain ⟨T, hT'⟩ : ∃ T, edDo l a m p = T := ⟨_, rfl⟩
  have hal := (Below.refl w.heap.size w).alloc (Nat.le_refl _) (.cells #[.int .i64 a, .int .i64 m, .slice Ap p.length cp] 25)
  have HQ := Lib.hid hq
  have HT := Lib.hid hT'
  rw [hT', hq]
  clear hq hT'
  go_enter Tryd.func68, Tryd.ntmps68
  go_wp2_with fail
  generalize w.alloc (.cells #[.int .i64 a, .int .i64 m, .slice Ap p.length cp] 25) = W1 at *
  refine (implEditOk_any A l c a m Ap p cp _ hl hc9 hpc hcp9 hm9 (by exact hT.below hal) (by exact hA.below hal) (by exact hP.below hal)).mono ?_
  rintro e w2 ⟨rfl, hb2⟩
  rw [HQ.out]
  have hb2 := below_then hal hb2
  clear hal
  cases q
  · have hT0 : T = [] := by
      rw [← HT.out]; unfold edDo; rw [HQ.out]; rfl
    go_wp2
    go_ret2
    exact ⟨.slice none 0 0, rfl, by rw [hT0]; exact Own.nil _ _, hb2⟩
  have hr := edOk_range HQ.out
  have hT1 : edText l a m p = T := by rw [← HT.out]; unfold edDo; rw [HQ.out]; rfl
  have HT1 := Lib.hid hT1
  clear hT1
  go_wp2_with fail
  refine (edAfter_any A l c a m Ap p cp _ hl hc9 hpc hPl (by exact hA.below hb2) (by exact hP.below hb2) (by omega) (by omega) (by omega) (by omega) (by omega)).mono ?_
  rintro e w3 ⟨v3, rfl, hown3, hb3⟩
  rw [HT1.out] at hown3
  have hown3 := hown3.mono (base' := w.heap.size) hb2.size
  have hb3 := below_then hb2 hb3
  go_wp2
  go_ret2
  exact ⟨v3, rfl, hown3, hb3⟩

set_option maxHeartbeats 4000000 in
theorem implEditDo_any (A : Option Addr) (l : List UInt8) (c : Nat) (a m : Int) (Ap : Option Addr) (p : List UInt8) (cp : Nat) (w : World) (hl : l.length ≤ c) (hc9 : c ≤ 9223372036854775807) (hpc : p.length ≤ cp) (hcp9 : cp ≤ 9223372036854775807) (hm9 : m ≤ 9223372036854775807) (hPl : Pl A c) (hT : Tab w) (hA : Bs w A l) (hP : Bs w Ap p) :
    Calls Tryd.prog 20 #[.slice A l.length c, .agg #[.int .i64 a, .int .i64 m, .slice Ap p.length cp]] w (MakesE (edDo l a m p) (edOk l a m p) w) := by
  obtain ⟨q, hq⟩ : ∃ q, edOk l a m p = q := ⟨_, rfl⟩
  obtain ⟨T, hT'⟩ : ∃ T, edDo l a m p = T := ⟨_, rfl⟩
  have hal := (Below.refl w.heap.size w).alloc (Nat.le_refl _) (.cells #[.int .i64 a, .int .i64 m, .slice Ap p.length cp] 25)
  have HQ := Lib.hid hq
  have HT := Lib.hid hT'
  rw [hT', hq]
  clear hq hT'
  go_enter Tryd.func20, Tryd.ntmps20
  go_wp2_with fail
  generalize w.alloc (.cells #[.int .i64 a, .int .i64 m, .slice Ap p.length cp] 25) = W1 at *
  refine (whereDo_any A l c a m Ap p cp _ hl hc9 hpc hcp9 hm9 hPl (by exact hT.below hal) (by exact hA.below hal) (by exact hP.below hal)).mono ?_
  rintro e w3 ⟨v3, rfl, hown3, hb3⟩
  rw [HQ.out]
  rw [HT.out] at hown3
  have hown3 := hown3.mono (base' := w.heap.size) hal.size
  have hb3 := below_then hal hb3
  go_wp2
  go_ret2
  exact ⟨v3, rfl, hown3, hb3⟩

set_option maxHeartbeats 4000000 in
theorem whereBack_any (A : Option Addr) (l : List UInt8) (c : Nat) (a m : Int) (Ap : Option Addr) (p : List UInt8) (cp : Nat) (w : World) (hl : l.length ≤ c) (hc9 : c ≤ 9223372036854775807) (hpc : p.length ≤ cp) (hcp9 : cp ≤ 9223372036854775807) (hm9 : m ≤ 9223372036854775807) (hPl : Pl A c) (hT : Tab w) (hA : Bs w A l) (hP : Bs w Ap p) :
    Calls Tryd.prog 65 #[.slice A l.length c, .agg #[.int .i64 a, .int .i64 m, .slice Ap p.length cp], .func (.func 66) #[.agg #[.int .i64 a, .int .i64 m, .slice Ap p.length cp]] #[]] w (MakesEd (backA l a m p) (backM l a m p) (backP l a m p) (edOk l a m p) w) := by
  obtain ⟨q, hq⟩ : ∃ q, edOk l a m p = q := ⟨_, rfl⟩
  obtain ⟨ra, hra⟩ : ∃ q, backA l a m p = q := ⟨_, rfl⟩
  obtain ⟨rm, hrm⟩ : ∃ q, backM l a m p = q := ⟨_, rfl⟩
  obtain ⟨T, hT'⟩ : ∃ T, backP l a m p = T := ⟨_, rfl⟩
  have hal := ((Below.refl w.heap.size w).alloc (Nat.le_refl _) (.cells #[.int .i64 a, .int .i64 m, .slice Ap p.length cp] 25)).alloc (by simp) (.cells #[.int .i64 0, .int .i64 0, .slice none 0 0] 25)
  have bE := (EBox.new w a m Ap p.length cp).below ((Below.refl _ _).alloc (Nat.le_refl _) (.cells #[.int .i64 0, .int .i64 0, .slice none 0 0] 25))
  have bR := EBox.new (w.alloc (.cells #[.int .i64 a, .int .i64 m, .slice Ap p.length cp] 25)) 0 0 none 0 0
  rw [World.size_alloc] at bR
  have HQ := Lib.hid hq
  have HRA := Lib.hid hra
  have HRM := Lib.hid hrm
  have HT := Lib.hid hT'
  rw [hT', hq, hra, hrm]
  clear hq hT' hra hrm
  go_enter Tryd.func65, Tryd.ntmps65
  go_wp2_with fail
  generalize (w.alloc (.cells #[.int .i64 a, .int .i64 m, .slice Ap p.length cp] 25)).alloc (.cells #[.int .i64 0, .int .i64 0, .slice none 0 0] 25) = W1 at *
  refine (implEditOk_any A l c a m Ap p cp _ hl hc9 hpc hcp9 hm9 (by exact hT.below hal) (by exact hA.below hal) (by exact hP.below hal)).mono ?_
  rintro e w2 ⟨rfl, hb2⟩
  rw [HQ.out]
  have bE := bE.below hb2
  have bR := bR.below hb2
  have hb2 := below_then hal hb2
  clear hal
  cases q
  · have e1 : ra = 0 := by rw [← HRA.out]; unfold backA; rw [HQ.out]; rfl
    have e2 : rm = 0 := by rw [← HRM.out]; unfold backM; rw [HQ.out]; rfl
    have e3 : T = [] := by rw [← HT.out]; unfold backP; rw [HQ.out]; rfl
    have hb2' := hb2.alloc hb2.size (.cells #[.int .i64 0, .int .i64 0, .slice none 0 0] 25)
    have bR := bR.below ((Below.refl _ _).alloc (Nat.le_refl _) (.cells #[.int .i64 0, .int .i64 0, .slice none 0 0] 25))
    have r0 := bR.c0
    have r1 := bR.c1
    have r2 := bR.c2
    have f0 := bR.blk.frozen 0
    have f1 := bR.blk.frozen 1
    have f2 := bR.blk.frozen 2
    go_wp2
    refine bodyPost_ret (v := .tuple #[.agg #[.int .i64 0, .int .i64 0, .slice none 0 0], .bool false]) (by simp [results, Tryd.results65, go_sem, r0, r1, r2]) rfl ⟨.slice none 0 0, by rw [e1, e2], by rw [e3]; exact Own.nil _ _, ?_⟩
    (repeat (first | exact Below.refl _ _ | assumption | refine Below.setCell ?_ (by first | (simp; done) | (simp; omega) | omega) _ | refine Below.drew ?_ | refine below_drewN ?_ _ | refine Below.alloc ?_ (by first | (simp; done) | (simp; omega) | omega) _))
  have hr := edOk_range HQ.out
  have e1 : ra = a := by rw [← HRA.out]; unfold backA; rw [HQ.out]; rfl
  have e2 : rm = (p.length : Int) := by rw [← HRM.out]; unfold backM; rw [HQ.out]; rfl
  have e3 : edCut l a m = T := by rw [← HT.out]; unfold backP; rw [HQ.out]; rfl
  have HE1 := Lib.hid e1
  have HE2 := Lib.hid e2
  have HE3 := Lib.hid e3
  clear e1 e2 e3
  have hlt0 := bR.lt
  have hz0 := hb2.size
  go_wp2_with fail
  refine (edBack_any A l c a m Ap p cp _ hl hc9 hpc hPl (by exact hA.below hb2) (by exact hP.below hb2) (by omega) (by omega) (by omega) (by omega) (by omega)).mono ?_
  rintro e w3 ⟨v3, rfl, hown3, hb3⟩
  rw [HE3.out] at hown3
  have bR := bR.below hb3
  have hb3 := below_then hb2 hb3
  obtain ⟨A3, c3, rfl, _, _, _⟩ := hown3.form
  have r0 := bR.c0
  have r1 := bR.c1
  have r2 := bR.c2
  have f0 := bR.blk.frozen 0
  have f1 := bR.blk.frozen 1
  have f2 := bR.blk.frozen 2
  have hlt := bR.lt
  go_wp2
  refine bodyPost_ret (v := .tuple #[.agg #[.int .i64 a, .int .i64 p.length, .slice A3 T.length c3], .bool true]) (by simp [results, Tryd.results65, go_sem, r0, r1, r2]) rfl ⟨.slice A3 T.length c3, by rw [HE1.out, HE2.out], ?_, ?_⟩
  · have h9 : ∀ (W : World) (i : Nat) (u : Value), Own W w2.heap.size (.slice A3 T.length c3) T → Own (W.setCell ⟨w.heap.size + 1, i, none⟩ u) w2.heap.size (.slice A3 T.length c3) T := fun W i u h => h.setBelow (by simpa using hlt0) u
    exact (h9 _ _ _ (h9 _ _ _ (h9 _ _ _ hown3))).mono hz0
  · (repeat (first | exact Below.refl _ _ | assumption | refine Below.setCell ?_ (by first | (simp; done) | (simp; omega) | omega) _ | refine Below.drew ?_ | refine below_drewN ?_ _ | refine Below.alloc ?_ (by first | (simp; done) | (simp; omega) | omega) _))

set_option maxHeartbeats 4000000 in
theorem implEditBack_any (A : Option Addr) (l : List UInt8) (c : Nat) (a m : Int) (Ap : Option Addr) (p : List UInt8) (cp : Nat) (w : World) (hl : l.length ≤ c) (hc9 : c ≤ 9223372036854775807) (hpc : p.length ≤ cp) (hcp9 : cp ≤ 9223372036854775807) (hm9 : m ≤ 9223372036854775807) (hPl : Pl A c) (hT : Tab w) (hA : Bs w A l) (hP : Bs w Ap p) :
    Calls Tryd.prog 17 #[.slice A l.length c, .agg #[.int .i64 a, .int .i64 m, .slice Ap p.length cp]] w (MakesEd (backA l a m p) (backM l a m p) (backP l a m p) (edOk l a m p) w) := by
  obtain ⟨q, hq⟩ : ∃ q, edOk l a m p = q := ⟨_, rfl⟩
  obtain ⟨ra, hra⟩ : ∃ q, backA l a m p = q := ⟨_, rfl⟩
  obtain ⟨rm, hrm⟩ : ∃ q, backM l a m p = q := ⟨_, rfl⟩
  obtain ⟨T, hT'⟩ : ∃ T, backP l a m p = T := ⟨_, rfl⟩
  have hal := ((Below.refl w.heap.size w).alloc (Nat.le_refl _) (.cells #[.int .i64 a, .int .i64 m, .slice Ap p.length cp] 25)).alloc (by simp) (.cells #[.int .i64 0, .int .i64 0, .slice none 0 0] 25)
  have bE := (EBox.new w a m Ap p.length cp).below ((Below.refl _ _).alloc (Nat.le_refl _) (.cells #[.int .i64 0, .int .i64 0, .slice none 0 0] 25))
  have bR := EBox.new (w.alloc (.cells #[.int .i64 a, .int .i64 m, .slice Ap p.length cp] 25)) 0 0 none 0 0
  rw [World.size_alloc] at bR
  have HQ := Lib.hid hq
  have HRA := Lib.hid hra
  have HRM := Lib.hid hrm
  have HT := Lib.hid hT'
  rw [hT', hq, hra, hrm]
  clear hq hT' hra hrm
  go_enter Tryd.func17, Tryd.ntmps17
  go_wp2_with fail
  generalize (w.alloc (.cells #[.int .i64 a, .int .i64 m, .slice Ap p.length cp] 25)).alloc (.cells #[.int .i64 0, .int .i64 0, .slice none 0 0] 25) = W1 at *
  refine (whereBack_any A l c a m Ap p cp _ hl hc9 hpc hcp9 hm9 hPl (by exact hT.below hal) (by exact hA.below hal) (by exact hP.below hal)).mono ?_
  rintro e w3 ⟨v3, rfl, hown3, hb3⟩
  rw [HQ.out, HRA.out, HRM.out]
  rw [HT.out] at hown3
  have hlt0 := bR.lt
  have hz0 := hal.size
  have bR := bR.below hb3
  have hb3 := below_then hal hb3
  obtain ⟨A3, c3, rfl, _, _, _⟩ := hown3.form
  have r0 := bR.c0
  have r1 := bR.c1
  have r2 := bR.c2
  have f0 := bR.blk.frozen 0
  have f1 := bR.blk.frozen 1
  have f2 := bR.blk.frozen 2
  have hlt := bR.lt
  go_wp2
  refine bodyPost_ret (v := .tuple #[.agg #[.int .i64 ra, .int .i64 rm, .slice A3 T.length c3], .bool q]) (by simp [results, Tryd.results17, go_sem, r0, r1, r2]) rfl ⟨.slice A3 T.length c3, rfl, ?_, ?_⟩
  · have h9 : ∀ (W : World) (i : Nat) (u : Value), Own W W1.heap.size (.slice A3 T.length c3) T → Own (W.setCell ⟨w.heap.size + 1, i, none⟩ u) W1.heap.size (.slice A3 T.length c3) T := fun W i u h => h.setBelow (by simpa using hlt0) u
    exact (h9 _ _ _ (h9 _ _ _ (h9 _ _ _ hown3))).mono hz0
  · (repeat (first | exact Below.refl _ _ | assumption | refine Below.setCell ?_ (by first | (simp; done) | (simp; omega) | omega) _ | refine Below.drew ?_ | refine below_drewN ?_ _ | refine Below.alloc ?_ (by first | (simp; done) | (simp; omega) | omega) _))
end Go.Proofs.YtepffgahgfipjaaDoor
