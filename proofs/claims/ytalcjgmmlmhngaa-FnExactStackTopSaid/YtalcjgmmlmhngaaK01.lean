/-
  Chapter 8, StackOk in the program and in the model: contracts. Own work.
-/
import Derived.Test.YtalcjgmmlmhngaaP17
import Derived.Test.YtalcjgmmlmhngaaEs
import Derived.Test.YtalcjgmmlmhngaaJ07
namespace Go.Proofs.Ytalcjgmmlmhngaa
open Go.RowKit P
set_option linter.unusedVariables false
set_option linter.unusedSimpArgs false
set_option maxRecDepth 100000

set_option maxHeartbeats 4000000 in
theorem l08All_any (A : Option Addr) (es : List Ed) (c : Nat) (w : World) (hn9 : es.length ≤ 9223372036854775807) (hE : Es w A es) :
    Calls Try.prog 90 #[.slice A es.length c] w fun e w' => e = .returned (.bool (stFit es)) ∧ Below w.heap.size w w' := by
  by_cases hl : es.length ≤ 6
  · have hg : ¬ (6 : Int) < (es.length : Int) := by omega
    have HYES := Lib.hid (stFit_yes hl)
    go_enter Try.func90, Try.ntmps90
    go_wp2
    go_loopw [3] (fun i wr => ∃ k : Nat, k ≤ es.length ∧ i = .int .i64 k ∧ Hid ((es.take k).all smallE = true) ∧ Below w.heap.size w wr) (fun i _ => es.length - (intOf i).toNat)
    case atStart => exact ⟨0, Nat.zero_le _, rfl, Lib.hid (by simp), Below.refl _ _⟩
    case round =>
      obtain ⟨k, hk, rfl, HALL, hb⟩ := hrel
      by_cases hlt : k < es.length
      · have hki0 : (0 : Int) ≤ (k : Int) := by omega
        have hki : (k : Int) < (es.length : Int) := by omega
        obtain ⟨b, off, a, m, B, p, d, rfl, hbl, hek, k0, k1, k2, ha, hm, hpd, hdm, hBp⟩ := (hE.below hb).at_ k hlt
        have hp9 : p.length ≤ 9223372036854775807 := by unfold maxLen at hdm; omega
        have hnx : (es.take (k + 1)).all smallE = ((es.take k).all smallE && edSmall a m p) := by
          rw [List.take_succ_eq_append_getElem hlt, List.all_append, hek]; simp [smallE]
        have hsm : smallE es[k] = edSmall a m p := by rw [hek]; rfl
        have HNX := Lib.hid hnx
        have HSM := Lib.hid hsm
        obtain ⟨q, hq⟩ : ∃ q, edSmall a m p = q := ⟨_, rfl⟩
        have HQ := Lib.hid hq
        clear hnx hsm hek hq
        go_wp2_with fail
        refine (l05Small_any a m B p d _ hp9).mono ?_
        rintro e w1 ⟨rfl, hb1⟩
        rw [HQ.out]
        have hb9 := below_then hb hb1
        clear k0 k1 k2
        cases q
        · have HN := Lib.hid (stFit_bad hlt (HSM.out.trans HQ.out))
          go_wp2
          go_ret
          exact ⟨ret_bool HN.out.symm, hb9⟩
        · have HN := Lib.hid (show (es.take (k + 1)).all smallE = true by rw [HNX.out, HALL.out, HQ.out]; rfl)
          go_wp2
          go_roundw
          case rel => exact ⟨k + 1, by omega, by go_num, HN, hb9⟩
          case measure => simp [intOf]; omega
      · have e : k = es.length := by omega
        have HN := Lib.hid (show stFit es = true by rw [HYES.out]; have h9 := HALL.out; rw [e, List.take_length] at h9; exact h9)
        have hki : ¬ (k : Int) < (es.length : Int) := by omega
        clear e
        go_wp2
        go_ret
        exact ⟨ret_bool HN.out.symm, hb⟩
  · have hg : (6 : Int) < (es.length : Int) := by omega
    have HN := Lib.hid (stFit_big hl)
    clear hl
    go_enter Try.func90, Try.ntmps90
    go_wp2
    go_ret
    exact ⟨ret_bool HN.out.symm, Below.refl _ _⟩

set_option maxHeartbeats 4000000 in
theorem notSmall_any (a m : Int) (B : Option Addr) (p : List UInt8) (d : Nat) (w : World) (hp9 : p.length ≤ 9223372036854775807) :
    Calls Try.prog 136 #[.agg #[.int .i64 a, .int .i64 m, .slice B p.length d]] w fun e w' => e = .returned (.bool (!edSmall a m p)) ∧ Below w.heap.size w w' := by
  have hal := (Below.refl w.heap.size w).alloc (Nat.le_refl _) (.cells #[.int .i64 a, .int .i64 m, .slice B p.length d] 42)
  have bx := Blk.new w #[.int .i64 a, .int .i64 m, .slice B p.length d] 42
  have p0 := bx.cell 0
  have p1 := bx.cell 1
  have p2 := bx.cell 2
  go_enter Try.func136, Try.ntmps136
  go_wp2_with fail
  refine (isSmall_any a m B p d _ hp9).mono ?_
  rintro e w1 ⟨rfl, hb1⟩
  have hb9 := below_then hal hb1
  go_wp2
  go_ret
  exact ⟨rfl, hb9⟩

set_option maxHeartbeats 4000000 in
theorem ixSmall_any (A : Option Addr) (es : List Ed) (c : Nat) (w : World) (hn9 : es.length ≤ 6) (hE : Es w A es) :
    Calls Try.prog 152 #[.slice A es.length c, .func (.func 136) #[] #[]] w fun e w' => (∃ r : Int, e = .returned (.int .i64 r) ∧ decide (0 ≤ r) = !es.all smallE) ∧ Below w.heap.size w w' := by
  go_enter Try.func152, Try.ntmps152
  go_wp2
  go_loopw [8] (fun i wr => ∃ k : Nat, k ≤ es.length ∧ i = .int .i64 k ∧ Hid ((es.take k).all smallE = true) ∧ Below w.heap.size w wr) (fun i _ => es.length - (intOf i).toNat)
  case atStart => exact ⟨0, Nat.zero_le _, rfl, Lib.hid (by simp), Below.refl _ _⟩
  case round =>
    obtain ⟨k, hk, rfl, HALL, hb⟩ := hrel
    by_cases hlt : k < es.length
    · have hki : (k : Int) < (es.length : Int) := by omega
      obtain ⟨b, off, a, m, B, p, d, rfl, hbl, hek, k0, k1, k2, ha, hm, hpd, hdm, hBp⟩ := (hE.below hb).at_ k hlt
      have hp9 : p.length ≤ 9223372036854775807 := by unfold maxLen at hdm; omega
      have hnx : (es.take (k + 1)).all smallE = ((es.take k).all smallE && edSmall a m p) := by
        rw [List.take_succ_eq_append_getElem hlt, List.all_append, hek]; simp [smallE]
      have hal : edSmall a m p = false → es.all smallE = false := fun h => List.all_eq_false.2 ⟨_, List.getElem_mem hlt, by rw [hek]; show ¬ edSmall a m p = true; rw [h]; simp⟩
      have HNX := Lib.hid hnx
      have HAL := Lib.hid hal
      obtain ⟨q, hq⟩ : ∃ q, edSmall a m p = q := ⟨_, rfl⟩
      have HQ := Lib.hid hq
      clear hnx hal hek hq
      go_wp2_with fail
      refine (notSmall_any a m B p d _ hp9).mono ?_
      rintro e w1 ⟨rfl, hb1⟩
      rw [HQ.out]
      have hb9 := below_then hb hb1
      clear k0 k1 k2
      cases q
      · have HN := Lib.hid (HAL.out HQ.out)
        go_wp2
        go_ret
        exact ⟨⟨_, rfl, by rw [HN.out]; exact decide_eq_true (by omega)⟩, hb9⟩
      · have HN := Lib.hid (show (es.take (k + 1)).all smallE = true by rw [HNX.out, HALL.out, HQ.out]; rfl)
        go_wp2
        go_roundw
        case rel => exact ⟨k + 1, by omega, by go_num, HN, hb9⟩
        case measure => simp [intOf]; omega
    · have e : k = es.length := by omega
      have HN := Lib.hid (show es.all smallE = true by have h9 := HALL.out; rw [e, List.take_length] at h9; exact h9)
      clear e
      go_wp2
      go_ret
      exact ⟨⟨_, rfl, by rw [HN.out]; rfl⟩, hb⟩

set_option maxHeartbeats 4000000 in
theorem hasBig_any (A : Option Addr) (es : List Ed) (c : Nat) (w : World) (hn9 : es.length ≤ 6) (hE : Es w A es) :
    Calls Try.prog 135 #[.slice A es.length c, .func (.func 136) #[] #[]] w fun e w' => e = .returned (.bool (!es.all smallE)) ∧ Below w.heap.size w w' := by
  have hix := Lib.hid (ixSmall_any A es c w hn9 hE)
  clear hE
  go_enter Try.func135, Try.ntmps135
  go_wp2_with fail
  refine hix.out.mono ?_
  rintro e w1 ⟨⟨r, rfl, hr⟩, hb1⟩
  have HR := Lib.hid hr
  clear hr
  go_wp2
  go_ret
  exact ⟨ret_bool (by first | exact HR.out | simpa using HR.out), hb1⟩

set_option maxHeartbeats 2000000 in
theorem fitsStack_any (A : Option Addr) (es : List Ed) (c : Nat) (w : World) (hn9 : es.length ≤ 9223372036854775807) (hE : Es w A es) :
    Calls Try.prog 92 #[.slice A es.length c] w fun e w' => e = .returned (.bool (stFit es)) ∧ Below w.heap.size w w' := by
  by_cases hl : es.length ≤ 6
  · have hg : (es.length : Int) ≤ 6 := by omega
    have HYES := Lib.hid (stFit_yes hl)
    go_enter Try.func92, Try.ntmps92
    go_wp2_with fail
    refine (hasBig_any A es c _ hl hE).mono ?_
    rintro e w1 ⟨rfl, hb1⟩
    obtain ⟨q, hq⟩ : ∃ q, es.all smallE = q := ⟨_, rfl⟩
    rw [hq]
    have HQ := Lib.hid (HYES.out.trans hq)
    clear hq
    cases q
    · go_wp2
      go_ret
      exact ⟨ret_bool HQ.out.symm, hb1⟩
    · go_wp2
      go_ret
      exact ⟨ret_bool HQ.out.symm, hb1⟩
  · have hg : ¬ (es.length : Int) ≤ 6 := by omega
    have HN := Lib.hid (stFit_big hl)
    clear hl
    go_enter Try.func92, Try.ntmps92
    go_wp2
    go_ret
    exact ⟨ret_bool HN.out.symm, Below.refl _ _⟩

set_option maxHeartbeats 2000000 in
theorem implStackOk_any (A B : Option Addr) (u r : List Ed) (c d : Nat) (w : World) (hu9 : u.length ≤ 9223372036854775807) (hr9 : r.length ≤ 9223372036854775807) (hU : Es w A u) (hR : Es w B r) :
    Calls Try.prog 38 #[.agg #[.slice A u.length c, .slice B r.length d]] w fun e w' => e = .returned (.bool (stOk u r)) ∧ Below w.heap.size w w' := by
  have hal := (Below.refl w.heap.size w).alloc (Nat.le_refl _) (.cells #[.slice A u.length c, .slice B r.length d] 56)
  have HX := Lib.hid (Blk.new w #[.slice A u.length c, .slice B r.length d] 56)
  have p0 := HX.out.cell 0
  obtain ⟨y, hy⟩ : ∃ y, stFit u = y := ⟨_, rfl⟩
  obtain ⟨z, hz⟩ : ∃ z, stFit r = z := ⟨_, rfl⟩
  have HR := Lib.hid (show stOk u r = (y && z) by unfold stOk; rw [hy, hz])
  have HY := Lib.hid hy
  have HZ := Lib.hid hz
  have HU := Lib.hid (hU.below hal)
  have HV := Lib.hid (hR.below hal)
  clear hy hz hU hR
  go_enter Try.func38, Try.ntmps38
  go_wp2_with fail
  refine (fitsStack_any A u c _ hu9 HU.out).mono ?_
  rintro e w1 ⟨rfl, hb1⟩
  rw [HY.out]
  have hb9 := below_then hal hb1
  have HX := Lib.hid (HX.out.below hb1)
  have HV := Lib.hid (HV.out.below hb1)
  clear p0 hb1
  cases y
  · go_wp2
    go_ret
    exact ⟨ret_bool HR.out.symm, hb9⟩
  have p1 := HX.out.cell 1
  go_wp2_with fail
  refine (fitsStack_any B r d _ hr9 HV.out).mono ?_
  rintro e w2 ⟨rfl, hb2⟩
  rw [HZ.out]
  have hb9 := below_then hb9 hb2
  clear p1 hb2
  go_wp2
  go_ret
  exact ⟨ret_bool (by rw [HR.out]; cases z <;> rfl), hb9⟩

set_option maxHeartbeats 2000000 in
theorem specStackOk_any (A B : Option Addr) (u r : List Ed) (c d : Nat) (w : World) (hu9 : u.length ≤ 9223372036854775807) (hr9 : r.length ≤ 9223372036854775807) (hU : Es w A u) (hR : Es w B r) :
    Calls Try.prog 36 #[.agg #[.slice A u.length c, .slice B r.length d]] w fun e w' => e = .returned (.bool (stOk u r)) ∧ Below w.heap.size w w' := by
  have hal := (Below.refl w.heap.size w).alloc (Nat.le_refl _) (.cells #[.slice A u.length c, .slice B r.length d] 56)
  have HX := Lib.hid (Blk.new w #[.slice A u.length c, .slice B r.length d] 56)
  have p0 := HX.out.cell 0
  obtain ⟨y, hy⟩ : ∃ y, stFit u = y := ⟨_, rfl⟩
  obtain ⟨z, hz⟩ : ∃ z, stFit r = z := ⟨_, rfl⟩
  have HR := Lib.hid (show stOk u r = (y && z) by unfold stOk; rw [hy, hz])
  have HY := Lib.hid hy
  have HZ := Lib.hid hz
  have HU := Lib.hid (hU.below hal)
  have HV := Lib.hid (hR.below hal)
  clear hy hz hU hR
  go_enter Try.func36, Try.ntmps36
  go_wp2_with fail
  refine (l08All_any A u c _ hu9 HU.out).mono ?_
  rintro e w1 ⟨rfl, hb1⟩
  rw [HY.out]
  have hb9 := below_then hal hb1
  have HX := Lib.hid (HX.out.below hb1)
  have HV := Lib.hid (HV.out.below hb1)
  clear p0 hb1
  cases y
  · go_wp2
    go_ret
    exact ⟨ret_bool HR.out.symm, hb9⟩
  have p1 := HX.out.cell 1
  go_wp2_with fail
  refine (l08All_any B r d _ hr9 HV.out).mono ?_
  rintro e w2 ⟨rfl, hb2⟩
  rw [HZ.out]
  have hb9 := below_then hb9 hb2
  clear p1 hb2
  go_wp2
  go_ret
  exact ⟨ret_bool (by rw [HR.out]; cases z <;> rfl), hb9⟩
end Go.Proofs.Ytalcjgmmlmhngaa
