/-
  Chapter 8, slices.Delete of one edit: contract. Own work.
  Chapter 8, the list of edits that lies in a variable: count, remove, add: contracts. Own work.
  Chapter 8, StackOk in the program and in the model: contracts. Own work.
  Chapter 8, newEditStack, top, l08Edit, StackTop in the program and in the model: contracts. Own work.
  Chapter 8, l08Side and StackTop in the model: contracts. Own work.
  Chapter 8, push and pop: contracts. Own work.
-/
import Derived.Test.YtkplfbhblbinaabGreatDoorQC07
import Derived.Laws.CopyRow
import Derived.Lib.SliceRun
import Derived.Laws.AppendOwn
import Derived.Test.YtkplfbhblbinaabGreatDoorQp3
import Derived.Test.YtkplfbhblbinaabGreatDoorQp1
import Derived.Test.YtkplfbhblbinaabGreatDoorQp4
namespace Go.Proofs.YtkplfbhblbinaabGreatDoor
open Go.RowKit P
set_option linter.unusedVariables false
set_option linter.unusedSimpArgs false
set_option maxRecDepth 100000

end Go.Proofs.YtkplfbhblbinaabGreatDoor

namespace Go.Proofs.YtkplfbhblbinaabGreatDoor
open Go.RowKit P
set_option linter.unusedVariables false
set_option linter.unusedSimpArgs false
set_option maxRecDepth 100000

/-- The variable at lb holds the list es, which lies in the blocks fp. -/
structure Lb (w : World) (B lb : Nat) (v : Value) (es : List Ed) (fp : List Nat) : Prop where
  hd : Blk w lb #[v] 134
  ow : Lay.edits.ow w [v] es fp
  nd : fp.Nodup
  ne : ∀ k ∈ fp, k ≠ lb
  lo : ∀ k ∈ fp, B ≤ k
  hB : B ≤ lb
end Go.Proofs.YtkplfbhblbinaabGreatDoor

namespace Go.Proofs.YtkplfbhblbinaabGreatDoor
open Go.RowKit P
set_option linter.unusedVariables false
set_option linter.unusedSimpArgs false
set_option maxRecDepth 100000

set_option maxHeartbeats 4000000 in
theorem l08All_any (A : Option Addr) (es : List Ed) (c : Nat) (w : World) (hn9 : es.length ≤ 9223372036854775807) (hE : Es w A es) :
    Calls Tryz.prog 87 #[.slice A es.length c] w fun e w' => e = .returned (.bool (stFit es)) ∧ Below w.heap.size w w' := by
  by_cases hl : es.length ≤ 6
  · have hg : ¬ (6 : Int) < (es.length : Int) := by omega
    have HYES := Lib.hid (stFit_yes hl)
    go_enter Tryz.func87, Tryz.ntmps87
    go_wp2
    go_loopw [3] (fun i wr => ∃ k : Nat, k ≤ es.length ∧ i = .int .i64 k ∧ Hid ((es.take k).all smallE = true) ∧ Below w.heap.size w wr) (fun i _ => es.length - (intOf i).toNat)
    case atStart => exact ⟨0, Nat.zero_le _, rfl, Lib.hid (by simp), Below.refl _ _⟩
    case round =>
      obtain ⟨k, hk, rfl, HALL, hb⟩ := hrel
      by_cases hlt : k < es.length
      · have hki0 : (0 : Int) ≤ (k : Int) := by omega
        have hki : (k : Int) < (es.length : Int) := by omega
        obtain ⟨b, off, a, m, B, p, d, rfl, hbl, hek, k0, k1, k2, ha, hm, hpd, hdm, hBp⟩ := (hE.below hb).at_ k hlt
        have hp9 : p.length ≤ 9223372036854775807 := by unfold maxLen at hdm; omega
        have hnx : (es.take (k + 1)).all smallE = ((es.take k).all smallE && edSmall a m p) := by
          rw [List.take_succ_eq_append_getElem hlt, List.all_append, hek]; simp [smallE]
        have hsm : smallE es[k] = edSmall a m p := by rw [hek]; rfl
        have HNX := Lib.hid hnx
        have HSM := Lib.hid hsm
        obtain ⟨q, hq⟩ : ∃ q, edSmall a m p = q := ⟨_, rfl⟩
        have HQ := Lib.hid hq
        clear hnx hsm hek hq
        go_wp2_with fail
        refine (l05Small_any a m B p d _ hp9).mono ?_
        rintro e w1 ⟨rfl, hb1⟩
        rw [HQ.out]
        have hb9 := below_then hb hb1
        clear k0 k1 k2
        cases q
        · have HN := Lib.hid (stFit_bad hlt (HSM.out.trans HQ.out))
          go_wp2
          go_ret
          exact ⟨ret_bool HN.out.symm, hb9⟩
        · have HN := Lib.hid (show (es.take (k + 1)).all smallE = true by rw [HNX.out, HALL.out, HQ.out]; rfl)
          go_wp2
          go_roundw
          case rel => exact ⟨k + 1, by omega, by go_num, HN, hb9⟩
          case measure => simp [intOf]; omega
      · have e : k = es.length := by omega
        have HN := Lib.hid (show stFit es = true by rw [HYES.out]; have h9 := HALL.out; rw [e, List.take_length] at h9; exact h9)
        have hki : ¬ (k : Int) < (es.length : Int) := by omega
        clear e
        go_wp2
        go_ret
        exact ⟨ret_bool HN.out.symm, hb⟩
  · have hg : (6 : Int) < (es.length : Int) := by omega
    have HN := Lib.hid (stFit_big hl)
    clear hl
    go_enter Tryz.func87, Tryz.ntmps87
    go_wp2
    go_ret
    exact ⟨ret_bool HN.out.symm, Below.refl _ _⟩

set_option maxHeartbeats 4000000 in
theorem notSmall_any (a m : Int) (B : Option Addr) (p : List UInt8) (d : Nat) (w : World) (hp9 : p.length ≤ 9223372036854775807) :
    Calls Tryz.prog 169 #[.agg #[.int .i64 a, .int .i64 m, .slice B p.length d]] w fun e w' => e = .returned (.bool (!edSmall a m p)) ∧ Below w.heap.size w w' := by
  have hal := (Below.refl w.heap.size w).alloc (Nat.le_refl _) (.cells #[.int .i64 a, .int .i64 m, .slice B p.length d] 70)
  have bx := Blk.new w #[.int .i64 a, .int .i64 m, .slice B p.length d] 70
  have p0 := bx.cell 0
  have p1 := bx.cell 1
  have p2 := bx.cell 2
  go_enter Tryz.func169, Tryz.ntmps169
  go_wp2_with fail
  refine (isSmall_any a m B p d _ hp9).mono ?_
  rintro e w1 ⟨rfl, hb1⟩
  have hb9 := below_then hal hb1
  go_wp2
  go_ret
  exact ⟨rfl, hb9⟩

set_option maxHeartbeats 4000000 in
theorem ixSmall_any (A : Option Addr) (es : List Ed) (c : Nat) (w : World) (hn9 : es.length ≤ 6) (hE : Es w A es) :
    Calls Tryz.prog 156 #[.slice A es.length c, .func (.func 169) #[] #[]] w fun e w' => (∃ r : Int, e = .returned (.int .i64 r) ∧ decide (0 ≤ r) = !es.all smallE) ∧ Below w.heap.size w w' := by
  go_enter Tryz.func156, Tryz.ntmps156
  go_wp2
  go_loopw [8] (fun i wr => ∃ k : Nat, k ≤ es.length ∧ i = .int .i64 k ∧ Hid ((es.take k).all smallE = true) ∧ Below w.heap.size w wr) (fun i _ => es.length - (intOf i).toNat)
  case atStart => exact ⟨0, Nat.zero_le _, rfl, Lib.hid (by simp), Below.refl _ _⟩
  case round =>
    obtain ⟨k, hk, rfl, HALL, hb⟩ := hrel
    by_cases hlt : k < es.length
    · have hki : (k : Int) < (es.length : Int) := by omega
      obtain ⟨b, off, a, m, B, p, d, rfl, hbl, hek, k0, k1, k2, ha, hm, hpd, hdm, hBp⟩ := (hE.below hb).at_ k hlt
      have hp9 : p.length ≤ 9223372036854775807 := by unfold maxLen at hdm; omega
      have hnx : (es.take (k + 1)).all smallE = ((es.take k).all smallE && edSmall a m p) := by
        rw [List.take_succ_eq_append_getElem hlt, List.all_append, hek]; simp [smallE]
      have hal : edSmall a m p = false → es.all smallE = false := fun h => List.all_eq_false.2 ⟨_, List.getElem_mem hlt, by rw [hek]; show ¬ edSmall a m p = true; rw [h]; simp⟩
      have HNX := Lib.hid hnx
      have HAL := Lib.hid hal
      obtain ⟨q, hq⟩ : ∃ q, edSmall a m p = q := ⟨_, rfl⟩
      have HQ := Lib.hid hq
      clear hnx hal hek hq
      go_wp2_with fail
      refine (notSmall_any a m B p d _ hp9).mono ?_
      rintro e w1 ⟨rfl, hb1⟩
      rw [HQ.out]
      have hb9 := below_then hb hb1
      clear k0 k1 k2
      cases q
      · have HN := Lib.hid (HAL.out HQ.out)
        go_wp2
        go_ret
        exact ⟨⟨_, rfl, by rw [HN.out]; exact decide_eq_true (by omega)⟩, hb9⟩
      · have HN := Lib.hid (show (es.take (k + 1)).all smallE = true by rw [HNX.out, HALL.out, HQ.out]; rfl)
        go_wp2
        go_roundw
        case rel => exact ⟨k + 1, by omega, by go_num, HN, hb9⟩
        case measure => simp [intOf]; omega
    · have e : k = es.length := by omega
      have HN := Lib.hid (show es.all smallE = true by have h9 := HALL.out; rw [e, List.take_length] at h9; exact h9)
      clear e
      go_wp2
      go_ret
      exact ⟨⟨_, rfl, by rw [HN.out]; rfl⟩, hb⟩

set_option maxHeartbeats 4000000 in
theorem hasBig_any (A : Option Addr) (es : List Ed) (c : Nat) (w : World) (hn9 : es.length ≤ 6) (hE : Es w A es) :
    Calls Tryz.prog 132 #[.slice A es.length c, .func (.func 169) #[] #[]] w fun e w' => e = .returned (.bool (!es.all smallE)) ∧ Below w.heap.size w w' := by
  have hix := Lib.hid (ixSmall_any A es c w hn9 hE)
  clear hE
  go_enter Tryz.func132, Tryz.ntmps132
  go_wp2_with fail
  refine hix.out.mono ?_
  rintro e w1 ⟨⟨r, rfl, hr⟩, hb1⟩
  have HR := Lib.hid hr
  clear hr
  go_wp2
  go_ret
  exact ⟨ret_bool (by first | exact HR.out | simpa using HR.out), hb1⟩

set_option maxHeartbeats 2000000 in
theorem fitsStack_any (A : Option Addr) (es : List Ed) (c : Nat) (w : World) (hn9 : es.length ≤ 9223372036854775807) (hE : Es w A es) :
    Calls Tryz.prog 154 #[.slice A es.length c] w fun e w' => e = .returned (.bool (stFit es)) ∧ Below w.heap.size w w' := by
  by_cases hl : es.length ≤ 6
  · have hg : (es.length : Int) ≤ 6 := by omega
    have HYES := Lib.hid (stFit_yes hl)
    go_enter Tryz.func154, Tryz.ntmps154
    go_wp2_with fail
    refine (hasBig_any A es c _ hl hE).mono ?_
    rintro e w1 ⟨rfl, hb1⟩
    obtain ⟨q, hq⟩ : ∃ q, es.all smallE = q := ⟨_, rfl⟩
    rw [hq]
    have HQ := Lib.hid (HYES.out.trans hq)
    clear hq
    cases q
    · go_wp2
      go_ret
      exact ⟨ret_bool HQ.out.symm, hb1⟩
    · go_wp2
      go_ret
      exact ⟨ret_bool HQ.out.symm, hb1⟩
  · have hg : ¬ (es.length : Int) ≤ 6 := by omega
    have HN := Lib.hid (stFit_big hl)
    clear hl
    go_enter Tryz.func154, Tryz.ntmps154
    go_wp2
    go_ret
    exact ⟨ret_bool HN.out.symm, Below.refl _ _⟩

set_option maxHeartbeats 2000000 in
theorem implStackOk_any (A B : Option Addr) (u r : List Ed) (c d : Nat) (w : World) (hu9 : u.length ≤ 9223372036854775807) (hr9 : r.length ≤ 9223372036854775807) (hU : Es w A u) (hR : Es w B r) :
    Calls Tryz.prog 130 #[.agg #[.slice A u.length c, .slice B r.length d]] w fun e w' => e = .returned (.bool (stOk u r)) ∧ Below w.heap.size w w' := by
  have hal := (Below.refl w.heap.size w).alloc (Nat.le_refl _) (.cells #[.slice A u.length c, .slice B r.length d] 54)
  have HX := Lib.hid (Blk.new w #[.slice A u.length c, .slice B r.length d] 54)
  have p0 := HX.out.cell 0
  obtain ⟨y, hy⟩ : ∃ y, stFit u = y := ⟨_, rfl⟩
  obtain ⟨z, hz⟩ : ∃ z, stFit r = z := ⟨_, rfl⟩
  have HR := Lib.hid (show stOk u r = (y && z) by unfold stOk; rw [hy, hz])
  have HY := Lib.hid hy
  have HZ := Lib.hid hz
  have HU := Lib.hid (hU.below hal)
  have HV := Lib.hid (hR.below hal)
  clear hy hz hU hR
  go_enter Tryz.func130, Tryz.ntmps130
  go_wp2_with fail
  refine (fitsStack_any A u c _ hu9 HU.out).mono ?_
  rintro e w1 ⟨rfl, hb1⟩
  rw [HY.out]
  have hb9 := below_then hal hb1
  have HX := Lib.hid (HX.out.below hb1)
  have HV := Lib.hid (HV.out.below hb1)
  clear p0 hb1
  cases y
  · go_wp2
    go_ret
    exact ⟨ret_bool HR.out.symm, hb9⟩
  have p1 := HX.out.cell 1
  go_wp2_with fail
  refine (fitsStack_any B r d _ hr9 HV.out).mono ?_
  rintro e w2 ⟨rfl, hb2⟩
  rw [HZ.out]
  have hb9 := below_then hb9 hb2
  clear p1 hb2
  go_wp2
  go_ret
  exact ⟨ret_bool (by rw [HR.out]; cases z <;> rfl), hb9⟩

set_option maxHeartbeats 2000000 in
theorem specStackOk_any (A B : Option Addr) (u r : List Ed) (c d : Nat) (w : World) (hu9 : u.length ≤ 9223372036854775807) (hr9 : r.length ≤ 9223372036854775807) (hU : Es w A u) (hR : Es w B r) :
    Calls Tryz.prog 42 #[.agg #[.slice A u.length c, .slice B r.length d]] w fun e w' => e = .returned (.bool (stOk u r)) ∧ Below w.heap.size w w' := by
  have hal := (Below.refl w.heap.size w).alloc (Nat.le_refl _) (.cells #[.slice A u.length c, .slice B r.length d] 54)
  have HX := Lib.hid (Blk.new w #[.slice A u.length c, .slice B r.length d] 54)
  have p0 := HX.out.cell 0
  obtain ⟨y, hy⟩ : ∃ y, stFit u = y := ⟨_, rfl⟩
  obtain ⟨z, hz⟩ : ∃ z, stFit r = z := ⟨_, rfl⟩
  have HR := Lib.hid (show stOk u r = (y && z) by unfold stOk; rw [hy, hz])
  have HY := Lib.hid hy
  have HZ := Lib.hid hz
  have HU := Lib.hid (hU.below hal)
  have HV := Lib.hid (hR.below hal)
  clear hy hz hU hR
  go_enter Tryz.func42, Tryz.ntmps42
  go_wp2_with fail
  refine (l08All_any A u c _ hu9 HU.out).mono ?_
  rintro e w1 ⟨rfl, hb1⟩
  rw [HY.out]
  have hb9 := below_then hal hb1
  have HX := Lib.hid (HX.out.below hb1)
  have HV := Lib.hid (HV.out.below hb1)
  clear p0 hb1
  cases y
  · go_wp2
    go_ret
    exact ⟨ret_bool HR.out.symm, hb9⟩
  have p1 := HX.out.cell 1
  go_wp2_with fail
  refine (l08All_any B r d _ hr9 HV.out).mono ?_
  rintro e w2 ⟨rfl, hb2⟩
  rw [HZ.out]
  have hb9 := below_then hb9 hb2
  clear p1 hb2
  go_wp2
  go_ret
  exact ⟨ret_bool (by rw [HR.out]; cases z <;> rfl), hb9⟩
end Go.Proofs.YtkplfbhblbinaabGreatDoor

namespace Go.Proofs.YtkplfbhblbinaabGreatDoor
open Go.RowKit P
set_option linter.unusedVariables false
set_option linter.unusedSimpArgs false
set_option maxRecDepth 100000

/-- What a call gives that returns an edit of its own: its numbers, what it puts, and from which block on. -/
def GivesE (d : Ed) (w : World) (e : Ending) (w' : World) : Prop := ∃ v, e = .returned (.agg #[.int .i64 d.1, .int .i64 d.2.1, v]) ∧ Own w' w.heap.size v d.2.2 ∧ Below w.heap.size w w'

/-- What top gives. -/
def Tops (w0 w : World) (base : Nat) (es : List Ed) (e : Ending) (w' : World) : Prop := ∃ v, e = .returned (.tuple #[.agg #[.int .i64 (if 0 < es.length then lastE es else (0, 0, [])).1, .int .i64 (if 0 < es.length then lastE es else (0, 0, [])).2.1, v], .bool (decide (0 < es.length))]) ∧ Own w' base v (if 0 < es.length then lastE es else (0, 0, [])).2.2 ∧ Below w.heap.size w w'

end Go.Proofs.YtkplfbhblbinaabGreatDoor

namespace Go.Proofs.YtkplfbhblbinaabGreatDoor
open Go.RowKit P
set_option linter.unusedVariables false
set_option linter.unusedSimpArgs false
set_option maxRecDepth 100000

end Go.Proofs.YtkplfbhblbinaabGreatDoor

namespace Go.Proofs.YtkplfbhblbinaabGreatDoor
open Go.RowKit P
set_option linter.unusedVariables false
set_option linter.unusedSimpArgs false
set_option maxRecDepth 100000

end Go.Proofs.YtkplfbhblbinaabGreatDoor
