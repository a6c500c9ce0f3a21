/-
  Chapter 9, the model's ReqOk: contract. Own work.
-/
import Derived.Test.YtgpjjolgpppeeaaDoorN04
import Derived.Test.YtgpjjolgpppeeaaDoorN01
import Derived.Deep.RegionHeld3
import Derived.Deep.DeepCutAuto
namespace Go.Proofs.YtgpjjolgpppeeaaDoor
open Go.RowKit P
set_option linter.unusedVariables false
set_option linter.unusedSimpArgs false
set_option maxRecDepth 100000

theorem rqOk_h1 {k s a b c : Int} {t : List UInt8} (h : ¬ (1 ≤ k ∧ k ≤ 16 ∧ 1 ≤ s ∧ s ≤ 8)) : rqOk k s a b c t = false := by
  unfold rqOk rqHead
  by_cases h1 : 1 ≤ k ∧ k ≤ 16
  · rw [decide_eq_false (show ¬ (1 ≤ s ∧ s ≤ 8) by omega)]; simp
  · rw [decide_eq_false h1]; simp
theorem rqOk_h2 {k s a b c : Int} {t : List UInt8} (h : (isW a && isW b && isW c && isText t && decide (t.length ≤ 100)) = false) : rqOk k s a b c t = false := by
  unfold rqOk rqHead
  revert h
  generalize isW a = x2
  generalize isW b = x3
  generalize isW c = x4
  generalize isText t = x5
  generalize decide (t.length ≤ 100) = x6
  generalize decide (1 ≤ k ∧ k ≤ 16) = y1
  generalize decide (1 ≤ s ∧ s ≤ 8) = y2
  generalize (rqNums k a b c && rqTail k t.length) = y3
  revert x2 x3 x4 x5 x6 y1 y2 y3
  decide
theorem rqOk_h3 {k s a b c : Int} {t : List UInt8} (h1 : 1 ≤ k ∧ k ≤ 16) (h2 : 1 ≤ s ∧ s ≤ 8) (h : (isW a && isW b && isW c && isText t && decide (t.length ≤ 100)) = true) : rqOk k s a b c t = (rqNums k a b c && rqTail k t.length) := by
  unfold rqOk rqHead
  rw [decide_eq_true h1, decide_eq_true h2]
  revert h
  generalize isW a = x2
  generalize isW b = x3
  generalize isW c = x4
  generalize isText t = x5
  generalize decide (t.length ≤ 100) = x6
  generalize (rqNums k a b c && rqTail k t.length) = y3
  revert x2 x3 x4 x5 x6 y3
  decide
theorem kb (k : Int) : rqC k = true → rqB k = true := by unfold rqB; intro h; rw [h]; rfl
theorem ka (k : Int) : rqB k = true → rqA k = true := by unfold rqA; intro h; rw [h]; rfl

set_option maxHeartbeats 16000000 in
theorem specReqOk_any (k s a b c : Int) (A : Option Addr) (t : List UInt8) (d : Nat) (w : World) (hl : t.length ≤ d) (hc9 : d ≤ 9223372036854775807) (hA : Bs w A t) :
    Calls Tryd.prog 35 #[.agg #[.int .i64 k, .int .i64 s, .int .i64 a, .int .i64 b, .int .i64 c, .slice A t.length d]] w fun e w' => e = .returned (.bool (rqOk k s a b c t)) ∧ Below w.heap.size w w' := by
  have hal := (Below.refl w.heap.size w).alloc (Nat.le_refl _) (.cells #[.int .i64 k, .int .i64 s, .int .i64 a, .int .i64 b, .int .i64 c, .slice A t.length d] 29)
  have BX := Lib.hid (Blk.new w #[.int .i64 k, .int .i64 s, .int .i64 a, .int .i64 b, .int .i64 c, .slice A t.length d] 29)
  have hA2 := Lib.hid (hA.below hal)
  have HAL := Lib.hid hal
  clear hal hA
  by_cases h0 : 1 ≤ k
  case neg =>
    rw [rqOk_h1 (fun h => h0 (by omega))]
    clear hA2 BX
    go_enter Tryd.func35, Tryd.ntmps35
    go_wp2
    go_ret
    exact ⟨rfl, HAL.out⟩
  by_cases h1 : k ≤ 16
  case neg =>
    rw [rqOk_h1 (fun h => h1 (by omega))]
    clear hA2 BX
    go_enter Tryd.func35, Tryd.ntmps35
    go_wp2
    go_ret
    exact ⟨rfl, HAL.out⟩
  by_cases h2 : 1 ≤ s
  case neg =>
    rw [rqOk_h1 (fun h => h2 (by omega))]
    clear hA2 BX
    go_enter Tryd.func35, Tryd.ntmps35
    go_wp2
    go_ret
    exact ⟨rfl, HAL.out⟩
  by_cases h3 : s ≤ 8
  case neg =>
    rw [rqOk_h1 (fun h => h3 (by omega))]
    clear hA2 BX
    go_enter Tryd.func35, Tryd.ntmps35
    go_wp2
    go_ret
    exact ⟨rfl, HAL.out⟩
  obtain ⟨qa, hqa⟩ : ∃ q, isW a = q := ⟨_, rfl⟩
  obtain ⟨qb, hqb⟩ : ∃ q, isW b = q := ⟨_, rfl⟩
  obtain ⟨qc, hqc⟩ : ∃ q, isW c = q := ⟨_, rfl⟩
  obtain ⟨qt, hqt⟩ : ∃ q, isText t = q := ⟨_, rfl⟩
  have HQA := Lib.hid hqa
  have HQB := Lib.hid hqb
  have HQC := Lib.hid hqc
  have HQT := Lib.hid hqt
  have HH2 : Hid ((qa && qb && qc && qt && decide (t.length ≤ 100)) = false → rqOk k s a b c t = false) := Lib.hid (fun h => rqOk_h2 (by rw [hqa, hqb, hqc, hqt]; exact h))
  have HH3 : Hid ((qa && qb && qc && qt && decide (t.length ≤ 100)) = true → rqOk k s a b c t = (rqNums k a b c && rqTail k t.length)) := Lib.hid (fun h => rqOk_h3 ⟨h0, h1⟩ ⟨h2, h3⟩ (by rw [hqa, hqb, hqc, hqt]; exact h))
  obtain ⟨R, hR⟩ : ∃ R, rqOk k s a b c t = R := ⟨_, rfl⟩
  rw [hR]
  rw [hR] at HH2 HH3
  clear hqa hqb hqc hqt hR
  go_enter Tryd.func35, Tryd.ntmps35
  go_wp2_with fail
  refine (l09Word_any a _).mono ?_
  rintro e w1 ⟨rfl, rfl⟩
  rw [HQA.out]
  cases qa
  case false =>
    have HZ := Lib.hid (HH2.out rfl)
    clear HH2 HH3
    go_wp2
    go_ret
    exact ⟨ret_bool HZ.out.symm, HAL.out⟩
  go_wp2_with fail
  refine (l09Word_any b _).mono ?_
  rintro e w1 ⟨rfl, rfl⟩
  rw [HQB.out]
  cases qb
  case false =>
    have HZ := Lib.hid (HH2.out rfl)
    clear HH2 HH3
    go_wp2
    go_ret
    exact ⟨ret_bool HZ.out.symm, HAL.out⟩
  go_wp2_with fail
  refine (l09Word_any c _).mono ?_
  rintro e w1 ⟨rfl, rfl⟩
  rw [HQC.out]
  cases qc
  case false =>
    have HZ := Lib.hid (HH2.out rfl)
    clear HH2 HH3
    go_wp2
    go_ret
    exact ⟨ret_bool HZ.out.symm, HAL.out⟩
  go_wp2_with fail
  refine (specTextOk_any A t d _ hl hc9 (by exact hA2.out)).mono ?_
  rintro e w1 ⟨rfl, hb1⟩
  rw [HQT.out]
  have HB := Lib.hid (below_then HAL.out hb1)
  have BX := Lib.hid (BX.out.below hb1)
  have x0 := BX.out.cell 0
  have x1 := BX.out.cell 1
  have x2 := BX.out.cell 2
  have x3 := BX.out.cell 3
  have x4 := BX.out.cell 4
  have x5 := BX.out.cell 5
  clear hb1 HAL
  cases qt
  case false =>
    have HZ := Lib.hid (HH2.out rfl)
    clear HH2 HH3
    go_wp2
    go_ret
    exact ⟨ret_bool HZ.out.symm, HB.out⟩
  by_cases hln : t.length ≤ 100
  case neg =>
    have HZ := Lib.hid (HH2.out (by rw [decide_eq_false hln]; rfl))
    clear HH2 HH3
    go_wp2
    go_ret
    exact ⟨ret_bool HZ.out.symm, HB.out⟩
  have HZ := Lib.hid (HH3.out (by rw [decide_eq_true hln]; rfl))
  clear HH2 HH3 HQA HQB HQC HQT
  obtain ⟨zC, hzC⟩ : ∃ z, rqC k = z := ⟨_, rfl⟩
  obtain ⟨zB, hzB⟩ : ∃ z, rqB k = z := ⟨_, rfl⟩
  obtain ⟨zA, hzA⟩ : ∃ z, rqA k = z := ⟨_, rfl⟩
  obtain ⟨zF, hzF⟩ : ∃ z, rqF k = z := ⟨_, rfl⟩
  obtain ⟨zX, hzX⟩ : ∃ z, rqX k = z := ⟨_, rfl⟩
  have HZ2 : Hid (R = ((zA || decide (a = 0)) && (zB || decide (b = 0)) && (zC || decide (c = 0)) && ((zX || decide (t.length = 0)) && (!zF || decide (0 < t.length))))) := Lib.hid (by
    rw [HZ.out]; unfold rqNums rqTail; rw [hzA, hzB, hzC, hzF, hzX])
  clear HZ
  go_upto_region 5 with fail
  go_cut [3] (fun v wx => v = .bool zC ∧ Below w.heap.size w wx ∧ Blk wx w.heap.size #[.int .i64 k, .int .i64 s, .int .i64 a, .int .i64 b, .int .i64 c, .slice A t.length d] 29)
  case first =>
    have hI := IntsM.of w1 [12, 13]
    have hbn := (Below.refl w1.heap.size w1).alloc (Nat.le_refl _) (.cells (([12, 13] : List Int).map (fun x => Value.int .i64 x)).toArray 3)
    have HI := Lib.hid hI
    have HBN := Lib.hid hbn
    clear hI hbn
    go_wp2_with fail
    refine (l09Is_any k _ [12, 13] 2 _ (by simp) (by exact HI.out)).mono ?_
    rintro e u0 ⟨rfl, rfl⟩
    rw [is_C, hzC]
    go_wp2_with fail
    go_meet
    exact ⟨rfl, below_then HB.out HBN.out, BX.out.below HBN.out⟩
  case rest =>
  obtain ⟨rfl, hb, bx⟩ := hcut
  clear x0 x1 x2 x3 x4 x5 HB BX
  have HB := Lib.hid hb
  have BX := Lib.hid bx
  clear hb bx
  have x0 := BX.out.cell 0
  have x1 := BX.out.cell 1
  have x2 := BX.out.cell 2
  have x3 := BX.out.cell 3
  have x4 := BX.out.cell 4
  have x5 := BX.out.cell 5
  go_upto_region 6 with fail
  go_cut [4] (fun v wx => v = .bool zB ∧ Below w.heap.size w wx ∧ Blk wx w.heap.size #[.int .i64 k, .int .i64 s, .int .i64 a, .int .i64 b, .int .i64 c, .slice A t.length d] 29)
  case first =>
    cases zC
    case true =>
      have hq : zB = true := by rw [← hzB, ← is_B, hzC]; rfl
      subst hq
      go_wp2_with fail
      go_meet
      exact ⟨rfl, HB.out, BX.out⟩
    have hI := IntsM.of wc [4, 5, 6, 10, 11, 14]
    have hbn := (Below.refl wc.heap.size wc).alloc (Nat.le_refl _) (.cells (([4, 5, 6, 10, 11, 14] : List Int).map (fun x => Value.int .i64 x)).toArray 3)
    have HI := Lib.hid hI
    have HBN := Lib.hid hbn
    clear hI hbn
    go_wp2_with fail
    refine (l09Is_any k _ [4, 5, 6, 10, 11, 14] 6 _ (by simp) (by exact HI.out)).mono ?_
    rintro e u0 ⟨rfl, rfl⟩
    have hq : decide (k ∈ [4, 5, 6, 10, 11, 14]) = zB := by rw [← hzB, ← is_B, hzC]; rfl
    rw [hq]
    go_wp2_with fail
    go_meet
    exact ⟨rfl, below_then HB.out HBN.out, BX.out.below HBN.out⟩
  case rest =>
  obtain ⟨rfl, hb, bx⟩ := hcut
  clear x0 x1 x2 x3 x4 x5 HB BX
  have HB := Lib.hid hb
  have BX := Lib.hid bx
  clear hb bx
  have x0 := BX.out.cell 0
  have x1 := BX.out.cell 1
  have x2 := BX.out.cell 2
  have x3 := BX.out.cell 3
  have x4 := BX.out.cell 4
  have x5 := BX.out.cell 5
  go_upto_region 7 with fail
  go_cut [5] (fun v wx => v = .bool zA ∧ Below w.heap.size w wx ∧ Blk wx w.heap.size #[.int .i64 k, .int .i64 s, .int .i64 a, .int .i64 b, .int .i64 c, .slice A t.length d] 29)
  case first =>
    cases zB
    case true =>
      have hq : zA = true := by rw [← hzA, ← is_A, hzB]; rfl
      subst hq
      go_wp2_with fail
      go_meet
      exact ⟨rfl, HB.out, BX.out⟩
    have hI := IntsM.of wc [3, 7, 8, 9]
    have hbn := (Below.refl wc.heap.size wc).alloc (Nat.le_refl _) (.cells (([3, 7, 8, 9] : List Int).map (fun x => Value.int .i64 x)).toArray 3)
    have HI := Lib.hid hI
    have HBN := Lib.hid hbn
    clear hI hbn
    go_wp2_with fail
    refine (l09Is_any k _ [3, 7, 8, 9] 4 _ (by simp) (by exact HI.out)).mono ?_
    rintro e u0 ⟨rfl, rfl⟩
    have hq : decide (k ∈ [3, 7, 8, 9]) = zA := by rw [← hzA, ← is_A, hzB]; rfl
    rw [hq]
    go_wp2_with fail
    go_meet
    exact ⟨rfl, below_then HB.out HBN.out, BX.out.below HBN.out⟩
  case rest =>
  obtain ⟨rfl, hb, bx⟩ := hcut
  clear x0 x1 x2 x3 x4 x5 HB BX
  have HB := Lib.hid hb
  have BX := Lib.hid bx
  clear hb bx
  have x0 := BX.out.cell 0
  have x1 := BX.out.cell 1
  have x2 := BX.out.cell 2
  have x3 := BX.out.cell 3
  have x4 := BX.out.cell 4
  have x5 := BX.out.cell 5
  go_upto_region 8 with fail
  go_cut [6] (fun v wx => v = .bool zF ∧ Below w.heap.size w wx ∧ Blk wx w.heap.size #[.int .i64 k, .int .i64 s, .int .i64 a, .int .i64 b, .int .i64 c, .slice A t.length d] 29)
  case first =>
    have hI := IntsM.of wc [7, 8]
    have hbn := (Below.refl wc.heap.size wc).alloc (Nat.le_refl _) (.cells (([7, 8] : List Int).map (fun x => Value.int .i64 x)).toArray 3)
    have HI := Lib.hid hI
    have HBN := Lib.hid hbn
    clear hI hbn
    go_wp2_with fail
    refine (l09Is_any k _ [7, 8] 2 _ (by simp) (by exact HI.out)).mono ?_
    rintro e u0 ⟨rfl, rfl⟩
    rw [is_F, hzF]
    go_wp2_with fail
    go_meet
    exact ⟨rfl, below_then HB.out HBN.out, BX.out.below HBN.out⟩
  case rest =>
  obtain ⟨rfl, hb, bx⟩ := hcut
  clear x0 x1 x2 x3 x4 x5 HB BX
  have HB := Lib.hid hb
  have BX := Lib.hid bx
  clear hb bx
  have x0 := BX.out.cell 0
  have x1 := BX.out.cell 1
  have x2 := BX.out.cell 2
  have x3 := BX.out.cell 3
  have x4 := BX.out.cell 4
  have x5 := BX.out.cell 5
  go_upto_region 9 with fail
  go_cut [7] (fun v wx => v = .bool zX ∧ Below w.heap.size w wx ∧ Blk wx w.heap.size #[.int .i64 k, .int .i64 s, .int .i64 a, .int .i64 b, .int .i64 c, .slice A t.length d] 29)
  case first =>
    cases zF
    case true =>
      have hq : zX = true := by rw [← hzX, ← is_X, hzF]; rfl
      subst hq
      go_wp2_with fail
      go_meet
      exact ⟨rfl, HB.out, BX.out⟩
    have hI := IntsM.of wc [3, 5]
    have hbn := (Below.refl wc.heap.size wc).alloc (Nat.le_refl _) (.cells (([3, 5] : List Int).map (fun x => Value.int .i64 x)).toArray 3)
    have HI := Lib.hid hI
    have HBN := Lib.hid hbn
    clear hI hbn
    go_wp2_with fail
    refine (l09Is_any k _ [3, 5] 2 _ (by simp) (by exact HI.out)).mono ?_
    rintro e u0 ⟨rfl, rfl⟩
    have hq : decide (k ∈ [3, 5]) = zX := by rw [← hzX, ← is_X, hzF]; rfl
    rw [hq]
    go_wp2_with fail
    go_meet
    exact ⟨rfl, below_then HB.out HBN.out, BX.out.below HBN.out⟩
  case rest =>
  obtain ⟨rfl, hb, bx⟩ := hcut
  clear x0 x1 x2 x3 x4 x5 HB BX
  have HB := Lib.hid hb
  have BX := Lib.hid bx
  clear hb bx
  have x0 := BX.out.cell 0
  have x1 := BX.out.cell 1
  have x2 := BX.out.cell 2
  have x3 := BX.out.cell 3
  have x4 := BX.out.cell 4
  have x5 := BX.out.cell 5
  clear hzA hzB hzC hzF hzX h0 h1 h2 h3 hA2 hln
  revert HZ2
  cases zA
  case true =>
    cases zB
    case true =>
      cases zC
      case true =>
        cases zX
        case true =>
          cases zF
          case false =>
            intro HZ2
            go_wp2
            go_ret
            exact ⟨ret_bool (by rw [HZ2.out]; rfl), HB.out⟩
          case true =>
            by_cases hn : t.length = 0
            · have hn' : decide ((0 : Int) < (t.length : Int)) = false := decide_eq_false (by omega)
              have Hn : Hid (decide (t.length = 0) = true) := Lib.hid (decide_eq_true hn)
              have Hm : Hid (decide (0 < t.length) = false) := Lib.hid (decide_eq_false (by omega))
              have hq : ¬ (0 < t.length) := by omega
              have hq' : ¬ ((0 : Int) < (t.length : Int)) := by omega
              clear hn
              intro HZ2
              go_wp2
              go_ret
              exact ⟨ret_bool (by rw [HZ2.out, Hn.out, Hm.out]; rfl), HB.out⟩
            · have hn' : decide ((0 : Int) < (t.length : Int)) = true := decide_eq_true (by omega)
              have Hn : Hid (decide (t.length = 0) = false) := Lib.hid (decide_eq_false hn)
              have Hm : Hid (decide (0 < t.length) = true) := Lib.hid (decide_eq_true (by omega))
              have hq : 0 < t.length := by omega
              have hq' : (0 : Int) < (t.length : Int) := by omega
              clear hn
              intro HZ2
              go_wp2
              go_ret
              exact ⟨ret_bool (by rw [HZ2.out, Hn.out, Hm.out]; rfl), HB.out⟩
        case false =>
          by_cases hn : t.length = 0
          · have hn' : decide ((0 : Int) < (t.length : Int)) = false := decide_eq_false (by omega)
            have Hn : Hid (decide (t.length = 0) = true) := Lib.hid (decide_eq_true hn)
            have Hm : Hid (decide (0 < t.length) = false) := Lib.hid (decide_eq_false (by omega))
            have hq : ¬ (0 < t.length) := by omega
            have hq' : ¬ ((0 : Int) < (t.length : Int)) := by omega
            clear hn
            cases zF
            case false =>
              intro HZ2
              go_wp2
              go_ret
              exact ⟨ret_bool (by rw [HZ2.out, Hn.out, Hm.out]; rfl), HB.out⟩
            case true =>
              intro HZ2
              go_wp2
              go_ret
              exact ⟨ret_bool (by rw [HZ2.out, Hn.out, Hm.out]; rfl), HB.out⟩
          · have hn' : decide ((0 : Int) < (t.length : Int)) = true := decide_eq_true (by omega)
            have Hn : Hid (decide (t.length = 0) = false) := Lib.hid (decide_eq_false hn)
            have Hm : Hid (decide (0 < t.length) = true) := Lib.hid (decide_eq_true (by omega))
            have hq : 0 < t.length := by omega
            have hq' : (0 : Int) < (t.length : Int) := by omega
            clear hn
            intro HZ2
            go_wp2
            go_ret
            exact ⟨ret_bool (by rw [HZ2.out, Hn.out, Hm.out]; rfl), HB.out⟩
      case false =>
        by_cases hc : c = 0
        · have hc' : (c != 0) = false := by simpa using hc
          have Hc : Hid (decide (c = 0) = true) := Lib.hid (decide_eq_true hc)
          clear hc
          cases zX
          case true =>
            cases zF
            case false =>
              intro HZ2
              go_wp2
              go_ret
              exact ⟨ret_bool (by rw [HZ2.out, Hc.out]; rfl), HB.out⟩
            case true =>
              by_cases hn : t.length = 0
              · have hn' : decide ((0 : Int) < (t.length : Int)) = false := decide_eq_false (by omega)
                have Hn : Hid (decide (t.length = 0) = true) := Lib.hid (decide_eq_true hn)
                have Hm : Hid (decide (0 < t.length) = false) := Lib.hid (decide_eq_false (by omega))
                have hq : ¬ (0 < t.length) := by omega
                have hq' : ¬ ((0 : Int) < (t.length : Int)) := by omega
                clear hn
                intro HZ2
                go_wp2
                go_ret
                exact ⟨ret_bool (by rw [HZ2.out, Hc.out, Hn.out, Hm.out]; rfl), HB.out⟩
              · have hn' : decide ((0 : Int) < (t.length : Int)) = true := decide_eq_true (by omega)
                have Hn : Hid (decide (t.length = 0) = false) := Lib.hid (decide_eq_false hn)
                have Hm : Hid (decide (0 < t.length) = true) := Lib.hid (decide_eq_true (by omega))
                have hq : 0 < t.length := by omega
                have hq' : (0 : Int) < (t.length : Int) := by omega
                clear hn
                intro HZ2
                go_wp2
                go_ret
                exact ⟨ret_bool (by rw [HZ2.out, Hc.out, Hn.out, Hm.out]; rfl), HB.out⟩
          case false =>
            by_cases hn : t.length = 0
            · have hn' : decide ((0 : Int) < (t.length : Int)) = false := decide_eq_false (by omega)
              have Hn : Hid (decide (t.length = 0) = true) := Lib.hid (decide_eq_true hn)
              have Hm : Hid (decide (0 < t.length) = false) := Lib.hid (decide_eq_false (by omega))
              have hq : ¬ (0 < t.length) := by omega
              have hq' : ¬ ((0 : Int) < (t.length : Int)) := by omega
              clear hn
              cases zF
              case false =>
                intro HZ2
                go_wp2
                go_ret
                exact ⟨ret_bool (by rw [HZ2.out, Hc.out, Hn.out, Hm.out]; rfl), HB.out⟩
              case true =>
                intro HZ2
                go_wp2
                go_ret
                exact ⟨ret_bool (by rw [HZ2.out, Hc.out, Hn.out, Hm.out]; rfl), HB.out⟩
            · have hn' : decide ((0 : Int) < (t.length : Int)) = true := decide_eq_true (by omega)
              have Hn : Hid (decide (t.length = 0) = false) := Lib.hid (decide_eq_false hn)
              have Hm : Hid (decide (0 < t.length) = true) := Lib.hid (decide_eq_true (by omega))
              have hq : 0 < t.length := by omega
              have hq' : (0 : Int) < (t.length : Int) := by omega
              clear hn
              intro HZ2
              go_wp2
              go_ret
              exact ⟨ret_bool (by rw [HZ2.out, Hc.out, Hn.out, Hm.out]; rfl), HB.out⟩
        · have hc' : (c != 0) = true := by simpa using hc
          have Hc : Hid (decide (c = 0) = false) := Lib.hid (decide_eq_false hc)
          clear hc
          intro HZ2
          go_wp2
          go_ret
          exact ⟨ret_bool (by rw [HZ2.out, Hc.out]; rfl), HB.out⟩
    case false =>
      by_cases hb : b = 0
      · have hb' : (b != 0) = false := by simpa using hb
        have Hb : Hid (decide (b = 0) = true) := Lib.hid (decide_eq_true hb)
        clear hb
        cases zC
        case true =>
          cases zX
          case true =>
            cases zF
            case false =>
              intro HZ2
              go_wp2
              go_ret
              exact ⟨ret_bool (by rw [HZ2.out, Hb.out]; rfl), HB.out⟩
            case true =>
              by_cases hn : t.length = 0
              · have hn' : decide ((0 : Int) < (t.length : Int)) = false := decide_eq_false (by omega)
                have Hn : Hid (decide (t.length = 0) = true) := Lib.hid (decide_eq_true hn)
                have Hm : Hid (decide (0 < t.length) = false) := Lib.hid (decide_eq_false (by omega))
                have hq : ¬ (0 < t.length) := by omega
                have hq' : ¬ ((0 : Int) < (t.length : Int)) := by omega
                clear hn
                intro HZ2
                go_wp2
                go_ret
                exact ⟨ret_bool (by rw [HZ2.out, Hb.out, Hn.out, Hm.out]; rfl), HB.out⟩
              · have hn' : decide ((0 : Int) < (t.length : Int)) = true := decide_eq_true (by omega)
                have Hn : Hid (decide (t.length = 0) = false) := Lib.hid (decide_eq_false hn)
                have Hm : Hid (decide (0 < t.length) = true) := Lib.hid (decide_eq_true (by omega))
                have hq : 0 < t.length := by omega
                have hq' : (0 : Int) < (t.length : Int) := by omega
                clear hn
                intro HZ2
                go_wp2
                go_ret
                exact ⟨ret_bool (by rw [HZ2.out, Hb.out, Hn.out, Hm.out]; rfl), HB.out⟩
          case false =>
            by_cases hn : t.length = 0
            · have hn' : decide ((0 : Int) < (t.length : Int)) = false := decide_eq_false (by omega)
              have Hn : Hid (decide (t.length = 0) = true) := Lib.hid (decide_eq_true hn)
              have Hm : Hid (decide (0 < t.length) = false) := Lib.hid (decide_eq_false (by omega))
              have hq : ¬ (0 < t.length) := by omega
              have hq' : ¬ ((0 : Int) < (t.length : Int)) := by omega
              clear hn
              cases zF
              case false =>
                intro HZ2
                go_wp2
                go_ret
                exact ⟨ret_bool (by rw [HZ2.out, Hb.out, Hn.out, Hm.out]; rfl), HB.out⟩
              case true =>
                intro HZ2
                go_wp2
                go_ret
                exact ⟨ret_bool (by rw [HZ2.out, Hb.out, Hn.out, Hm.out]; rfl), HB.out⟩
            · have hn' : decide ((0 : Int) < (t.length : Int)) = true := decide_eq_true (by omega)
              have Hn : Hid (decide (t.length = 0) = false) := Lib.hid (decide_eq_false hn)
              have Hm : Hid (decide (0 < t.length) = true) := Lib.hid (decide_eq_true (by omega))
              have hq : 0 < t.length := by omega
              have hq' : (0 : Int) < (t.length : Int) := by omega
              clear hn
              intro HZ2
              go_wp2
              go_ret
              exact ⟨ret_bool (by rw [HZ2.out, Hb.out, Hn.out, Hm.out]; rfl), HB.out⟩
        case false =>
          by_cases hc : c = 0
          · have hc' : (c != 0) = false := by simpa using hc
            have Hc : Hid (decide (c = 0) = true) := Lib.hid (decide_eq_true hc)
            clear hc
            cases zX
            case true =>
              cases zF
              case false =>
                intro HZ2
                go_wp2
                go_ret
                exact ⟨ret_bool (by rw [HZ2.out, Hb.out, Hc.out]; rfl), HB.out⟩
              case true =>
                by_cases hn : t.length = 0
                · have hn' : decide ((0 : Int) < (t.length : Int)) = false := decide_eq_false (by omega)
                  have Hn : Hid (decide (t.length = 0) = true) := Lib.hid (decide_eq_true hn)
                  have Hm : Hid (decide (0 < t.length) = false) := Lib.hid (decide_eq_false (by omega))
                  have hq : ¬ (0 < t.length) := by omega
                  have hq' : ¬ ((0 : Int) < (t.length : Int)) := by omega
                  clear hn
                  intro HZ2
                  go_wp2
                  go_ret
                  exact ⟨ret_bool (by rw [HZ2.out, Hb.out, Hc.out, Hn.out, Hm.out]; rfl), HB.out⟩
                · have hn' : decide ((0 : Int) < (t.length : Int)) = true := decide_eq_true (by omega)
                  have Hn : Hid (decide (t.length = 0) = false) := Lib.hid (decide_eq_false hn)
                  have Hm : Hid (decide (0 < t.length) = true) := Lib.hid (decide_eq_true (by omega))
                  have hq : 0 < t.length := by omega
                  have hq' : (0 : Int) < (t.length : Int) := by omega
                  clear hn
                  intro HZ2
                  go_wp2
                  go_ret
                  exact ⟨ret_bool (by rw [HZ2.out, Hb.out, Hc.out, Hn.out, Hm.out]; rfl), HB.out⟩
            case false =>
              by_cases hn : t.length = 0
              · have hn' : decide ((0 : Int) < (t.length : Int)) = false := decide_eq_false (by omega)
                have Hn : Hid (decide (t.length = 0) = true) := Lib.hid (decide_eq_true hn)
                have Hm : Hid (decide (0 < t.length) = false) := Lib.hid (decide_eq_false (by omega))
                have hq : ¬ (0 < t.length) := by omega
                have hq' : ¬ ((0 : Int) < (t.length : Int)) := by omega
                clear hn
                cases zF
                case false =>
                  intro HZ2
                  go_wp2
                  go_ret
                  exact ⟨ret_bool (by rw [HZ2.out, Hb.out, Hc.out, Hn.out, Hm.out]; rfl), HB.out⟩
                case true =>
                  intro HZ2
                  go_wp2
                  go_ret
                  exact ⟨ret_bool (by rw [HZ2.out, Hb.out, Hc.out, Hn.out, Hm.out]; rfl), HB.out⟩
              · have hn' : decide ((0 : Int) < (t.length : Int)) = true := decide_eq_true (by omega)
                have Hn : Hid (decide (t.length = 0) = false) := Lib.hid (decide_eq_false hn)
                have Hm : Hid (decide (0 < t.length) = true) := Lib.hid (decide_eq_true (by omega))
                have hq : 0 < t.length := by omega
                have hq' : (0 : Int) < (t.length : Int) := by omega
                clear hn
                intro HZ2
                go_wp2
                go_ret
                exact ⟨ret_bool (by rw [HZ2.out, Hb.out, Hc.out, Hn.out, Hm.out]; rfl), HB.out⟩
          · have hc' : (c != 0) = true := by simpa using hc
            have Hc : Hid (decide (c = 0) = false) := Lib.hid (decide_eq_false hc)
            clear hc
            intro HZ2
            go_wp2
            go_ret
            exact ⟨ret_bool (by rw [HZ2.out, Hb.out, Hc.out]; rfl), HB.out⟩
      · have hb' : (b != 0) = true := by simpa using hb
        have Hb : Hid (decide (b = 0) = false) := Lib.hid (decide_eq_false hb)
        clear hb
        intro HZ2
        go_wp2
        go_ret
        exact ⟨ret_bool (by rw [HZ2.out, Hb.out]; rfl), HB.out⟩
  case false =>
    by_cases ha : a = 0
    · have ha' : (a != 0) = false := by simpa using ha
      have Ha : Hid (decide (a = 0) = true) := Lib.hid (decide_eq_true ha)
      clear ha
      cases zB
      case true =>
        cases zC
        case true =>
          cases zX
          case true =>
            cases zF
            case false =>
              intro HZ2
              go_wp2
              go_ret
              exact ⟨ret_bool (by rw [HZ2.out, Ha.out]; rfl), HB.out⟩
            case true =>
              by_cases hn : t.length = 0
              · have hn' : decide ((0 : Int) < (t.length : Int)) = false := decide_eq_false (by omega)
                have Hn : Hid (decide (t.length = 0) = true) := Lib.hid (decide_eq_true hn)
                have Hm : Hid (decide (0 < t.length) = false) := Lib.hid (decide_eq_false (by omega))
                have hq : ¬ (0 < t.length) := by omega
                have hq' : ¬ ((0 : Int) < (t.length : Int)) := by omega
                clear hn
                intro HZ2
                go_wp2
                go_ret
                exact ⟨ret_bool (by rw [HZ2.out, Ha.out, Hn.out, Hm.out]; rfl), HB.out⟩
              · have hn' : decide ((0 : Int) < (t.length : Int)) = true := decide_eq_true (by omega)
                have Hn : Hid (decide (t.length = 0) = false) := Lib.hid (decide_eq_false hn)
                have Hm : Hid (decide (0 < t.length) = true) := Lib.hid (decide_eq_true (by omega))
                have hq : 0 < t.length := by omega
                have hq' : (0 : Int) < (t.length : Int) := by omega
                clear hn
                intro HZ2
                go_wp2
                go_ret
                exact ⟨ret_bool (by rw [HZ2.out, Ha.out, Hn.out, Hm.out]; rfl), HB.out⟩
          case false =>
            by_cases hn : t.length = 0
            · have hn' : decide ((0 : Int) < (t.length : Int)) = false := decide_eq_false (by omega)
              have Hn : Hid (decide (t.length = 0) = true) := Lib.hid (decide_eq_true hn)
              have Hm : Hid (decide (0 < t.length) = false) := Lib.hid (decide_eq_false (by omega))
              have hq : ¬ (0 < t.length) := by omega
              have hq' : ¬ ((0 : Int) < (t.length : Int)) := by omega
              clear hn
              cases zF
              case false =>
                intro HZ2
                go_wp2
                go_ret
                exact ⟨ret_bool (by rw [HZ2.out, Ha.out, Hn.out, Hm.out]; rfl), HB.out⟩
              case true =>
                intro HZ2
                go_wp2
                go_ret
                exact ⟨ret_bool (by rw [HZ2.out, Ha.out, Hn.out, Hm.out]; rfl), HB.out⟩
            · have hn' : decide ((0 : Int) < (t.length : Int)) = true := decide_eq_true (by omega)
              have Hn : Hid (decide (t.length = 0) = false) := Lib.hid (decide_eq_false hn)
              have Hm : Hid (decide (0 < t.length) = true) := Lib.hid (decide_eq_true (by omega))
              have hq : 0 < t.length := by omega
              have hq' : (0 : Int) < (t.length : Int) := by omega
              clear hn
              intro HZ2
              go_wp2
              go_ret
              exact ⟨ret_bool (by rw [HZ2.out, Ha.out, Hn.out, Hm.out]; rfl), HB.out⟩
        case false =>
          by_cases hc : c = 0
          · have hc' : (c != 0) = false := by simpa using hc
            have Hc : Hid (decide (c = 0) = true) := Lib.hid (decide_eq_true hc)
            clear hc
            cases zX
            case true =>
              cases zF
              case false =>
                intro HZ2
                go_wp2
                go_ret
                exact ⟨ret_bool (by rw [HZ2.out, Ha.out, Hc.out]; rfl), HB.out⟩
              case true =>
                by_cases hn : t.length = 0
                · have hn' : decide ((0 : Int) < (t.length : Int)) = false := decide_eq_false (by omega)
                  have Hn : Hid (decide (t.length = 0) = true) := Lib.hid (decide_eq_true hn)
                  have Hm : Hid (decide (0 < t.length) = false) := Lib.hid (decide_eq_false (by omega))
                  have hq : ¬ (0 < t.length) := by omega
                  have hq' : ¬ ((0 : Int) < (t.length : Int)) := by omega
                  clear hn
                  intro HZ2
                  go_wp2
                  go_ret
                  exact ⟨ret_bool (by rw [HZ2.out, Ha.out, Hc.out, Hn.out, Hm.out]; rfl), HB.out⟩
                · have hn' : decide ((0 : Int) < (t.length : Int)) = true := decide_eq_true (by omega)
                  have Hn : Hid (decide (t.length = 0) = false) := Lib.hid (decide_eq_false hn)
                  have Hm : Hid (decide (0 < t.length) = true) := Lib.hid (decide_eq_true (by omega))
                  have hq : 0 < t.length := by omega
                  have hq' : (0 : Int) < (t.length : Int) := by omega
                  clear hn
                  intro HZ2
                  go_wp2
                  go_ret
                  exact ⟨ret_bool (by rw [HZ2.out, Ha.out, Hc.out, Hn.out, Hm.out]; rfl), HB.out⟩
            case false =>
              by_cases hn : t.length = 0
              · have hn' : decide ((0 : Int) < (t.length : Int)) = false := decide_eq_false (by omega)
                have Hn : Hid (decide (t.length = 0) = true) := Lib.hid (decide_eq_true hn)
                have Hm : Hid (decide (0 < t.length) = false) := Lib.hid (decide_eq_false (by omega))
                have hq : ¬ (0 < t.length) := by omega
                have hq' : ¬ ((0 : Int) < (t.length : Int)) := by omega
                clear hn
                cases zF
                case false =>
                  intro HZ2
                  go_wp2
                  go_ret
                  exact ⟨ret_bool (by rw [HZ2.out, Ha.out, Hc.out, Hn.out, Hm.out]; rfl), HB.out⟩
                case true =>
                  intro HZ2
                  go_wp2
                  go_ret
                  exact ⟨ret_bool (by rw [HZ2.out, Ha.out, Hc.out, Hn.out, Hm.out]; rfl), HB.out⟩
              · have hn' : decide ((0 : Int) < (t.length : Int)) = true := decide_eq_true (by omega)
                have Hn : Hid (decide (t.length = 0) = false) := Lib.hid (decide_eq_false hn)
                have Hm : Hid (decide (0 < t.length) = true) := Lib.hid (decide_eq_true (by omega))
                have hq : 0 < t.length := by omega
                have hq' : (0 : Int) < (t.length : Int) := by omega
                clear hn
                intro HZ2
                go_wp2
                go_ret
                exact ⟨ret_bool (by rw [HZ2.out, Ha.out, Hc.out, Hn.out, Hm.out]; rfl), HB.out⟩
          · have hc' : (c != 0) = true := by simpa using hc
            have Hc : Hid (decide (c = 0) = false) := Lib.hid (decide_eq_false hc)
            clear hc
            intro HZ2
            go_wp2
            go_ret
            exact ⟨ret_bool (by rw [HZ2.out, Ha.out, Hc.out]; rfl), HB.out⟩
      case false =>
        by_cases hb : b = 0
        · have hb' : (b != 0) = false := by simpa using hb
          have Hb : Hid (decide (b = 0) = true) := Lib.hid (decide_eq_true hb)
          clear hb
          cases zC
          case true =>
            cases zX
            case true =>
              cases zF
              case false =>
                intro HZ2
                go_wp2
                go_ret
                exact ⟨ret_bool (by rw [HZ2.out, Ha.out, Hb.out]; rfl), HB.out⟩
              case true =>
                by_cases hn : t.length = 0
                · have hn' : decide ((0 : Int) < (t.length : Int)) = false := decide_eq_false (by omega)
                  have Hn : Hid (decide (t.length = 0) = true) := Lib.hid (decide_eq_true hn)
                  have Hm : Hid (decide (0 < t.length) = false) := Lib.hid (decide_eq_false (by omega))
                  have hq : ¬ (0 < t.length) := by omega
                  have hq' : ¬ ((0 : Int) < (t.length : Int)) := by omega
                  clear hn
                  intro HZ2
                  go_wp2
                  go_ret
                  exact ⟨ret_bool (by rw [HZ2.out, Ha.out, Hb.out, Hn.out, Hm.out]; rfl), HB.out⟩
                · have hn' : decide ((0 : Int) < (t.length : Int)) = true := decide_eq_true (by omega)
                  have Hn : Hid (decide (t.length = 0) = false) := Lib.hid (decide_eq_false hn)
                  have Hm : Hid (decide (0 < t.length) = true) := Lib.hid (decide_eq_true (by omega))
                  have hq : 0 < t.length := by omega
                  have hq' : (0 : Int) < (t.length : Int) := by omega
                  clear hn
                  intro HZ2
                  go_wp2
                  go_ret
                  exact ⟨ret_bool (by rw [HZ2.out, Ha.out, Hb.out, Hn.out, Hm.out]; rfl), HB.out⟩
            case false =>
              by_cases hn : t.length = 0
              · have hn' : decide ((0 : Int) < (t.length : Int)) = false := decide_eq_false (by omega)
                have Hn : Hid (decide (t.length = 0) = true) := Lib.hid (decide_eq_true hn)
                have Hm : Hid (decide (0 < t.length) = false) := Lib.hid (decide_eq_false (by omega))
                have hq : ¬ (0 < t.length) := by omega
                have hq' : ¬ ((0 : Int) < (t.length : Int)) := by omega
                clear hn
                cases zF
                case false =>
                  intro HZ2
                  go_wp2
                  go_ret
                  exact ⟨ret_bool (by rw [HZ2.out, Ha.out, Hb.out, Hn.out, Hm.out]; rfl), HB.out⟩
                case true =>
                  intro HZ2
                  go_wp2
                  go_ret
                  exact ⟨ret_bool (by rw [HZ2.out, Ha.out, Hb.out, Hn.out, Hm.out]; rfl), HB.out⟩
              · have hn' : decide ((0 : Int) < (t.length : Int)) = true := decide_eq_true (by omega)
                have Hn : Hid (decide (t.length = 0) = false) := Lib.hid (decide_eq_false hn)
                have Hm : Hid (decide (0 < t.length) = true) := Lib.hid (decide_eq_true (by omega))
                have hq : 0 < t.length := by omega
                have hq' : (0 : Int) < (t.length : Int) := by omega
                clear hn
                intro HZ2
                go_wp2
                go_ret
                exact ⟨ret_bool (by rw [HZ2.out, Ha.out, Hb.out, Hn.out, Hm.out]; rfl), HB.out⟩
          case false =>
            by_cases hc : c = 0
            · have hc' : (c != 0) = false := by simpa using hc
              have Hc : Hid (decide (c = 0) = true) := Lib.hid (decide_eq_true hc)
              clear hc
              cases zX
              case true =>
                cases zF
                case false =>
                  intro HZ2
                  go_wp2
                  go_ret
                  exact ⟨ret_bool (by rw [HZ2.out, Ha.out, Hb.out, Hc.out]; rfl), HB.out⟩
                case true =>
                  by_cases hn : t.length = 0
                  · have hn' : decide ((0 : Int) < (t.length : Int)) = false := decide_eq_false (by omega)
                    have Hn : Hid (decide (t.length = 0) = true) := Lib.hid (decide_eq_true hn)
                    have Hm : Hid (decide (0 < t.length) = false) := Lib.hid (decide_eq_false (by omega))
                    have hq : ¬ (0 < t.length) := by omega
                    have hq' : ¬ ((0 : Int) < (t.length : Int)) := by omega
                    clear hn
                    intro HZ2
                    go_wp2
                    go_ret
                    exact ⟨ret_bool (by rw [HZ2.out, Ha.out, Hb.out, Hc.out, Hn.out, Hm.out]; rfl), HB.out⟩
                  · have hn' : decide ((0 : Int) < (t.length : Int)) = true := decide_eq_true (by omega)
                    have Hn : Hid (decide (t.length = 0) = false) := Lib.hid (decide_eq_false hn)
                    have Hm : Hid (decide (0 < t.length) = true) := Lib.hid (decide_eq_true (by omega))
                    have hq : 0 < t.length := by omega
                    have hq' : (0 : Int) < (t.length : Int) := by omega
                    clear hn
                    intro HZ2
                    go_wp2
                    go_ret
                    exact ⟨ret_bool (by rw [HZ2.out, Ha.out, Hb.out, Hc.out, Hn.out, Hm.out]; rfl), HB.out⟩
              case false =>
                by_cases hn : t.length = 0
                · have hn' : decide ((0 : Int) < (t.length : Int)) = false := decide_eq_false (by omega)
                  have Hn : Hid (decide (t.length = 0) = true) := Lib.hid (decide_eq_true hn)
                  have Hm : Hid (decide (0 < t.length) = false) := Lib.hid (decide_eq_false (by omega))
                  have hq : ¬ (0 < t.length) := by omega
                  have hq' : ¬ ((0 : Int) < (t.length : Int)) := by omega
                  clear hn
                  cases zF
                  case false =>
                    intro HZ2
                    go_wp2
                    go_ret
                    exact ⟨ret_bool (by rw [HZ2.out, Ha.out, Hb.out, Hc.out, Hn.out, Hm.out]; rfl), HB.out⟩
                  case true =>
                    intro HZ2
                    go_wp2
                    go_ret
                    exact ⟨ret_bool (by rw [HZ2.out, Ha.out, Hb.out, Hc.out, Hn.out, Hm.out]; rfl), HB.out⟩
                · have hn' : decide ((0 : Int) < (t.length : Int)) = true := decide_eq_true (by omega)
                  have Hn : Hid (decide (t.length = 0) = false) := Lib.hid (decide_eq_false hn)
                  have Hm : Hid (decide (0 < t.length) = true) := Lib.hid (decide_eq_true (by omega))
                  have hq : 0 < t.length := by omega
                  have hq' : (0 : Int) < (t.length : Int) := by omega
                  clear hn
                  intro HZ2
                  go_wp2
                  go_ret
                  exact ⟨ret_bool (by rw [HZ2.out, Ha.out, Hb.out, Hc.out, Hn.out, Hm.out]; rfl), HB.out⟩
            · have hc' : (c != 0) = true := by simpa using hc
              have Hc : Hid (decide (c = 0) = false) := Lib.hid (decide_eq_false hc)
              clear hc
              intro HZ2
              go_wp2
              go_ret
              exact ⟨ret_bool (by rw [HZ2.out, Ha.out, Hb.out, Hc.out]; rfl), HB.out⟩
        · have hb' : (b != 0) = true := by simpa using hb
          have Hb : Hid (decide (b = 0) = false) := Lib.hid (decide_eq_false hb)
          clear hb
          intro HZ2
          go_wp2
          go_ret
          exact ⟨ret_bool (by rw [HZ2.out, Ha.out, Hb.out]; rfl), HB.out⟩
    · have ha' : (a != 0) = true := by simpa using ha
      have Ha : Hid (decide (a = 0) = false) := Lib.hid (decide_eq_false ha)
      clear ha
      intro HZ2
      go_wp2
      go_ret
      exact ⟨ret_bool (by rw [HZ2.out, Ha.out]; rfl), HB.out⟩
end Go.Proofs.YtgpjjolgpppeeaaDoor
