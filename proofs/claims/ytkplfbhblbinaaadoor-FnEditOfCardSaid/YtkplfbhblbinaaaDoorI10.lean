/-
  Chapter 5, EditOf of the program: contracts. Own work.
  Chapter 5, EditOf of the model: contract. Own work.
-/
import Derived.Test.YtkplfbhblbinaaaDoorI08
import Derived.Test.YtkplfbhblbinaaaDoorP08b
import Derived.BigQuiet
import Derived.Deep.QuietTactic
import Derived.Deep.DeepCutAuto
namespace Go.Proofs.YtkplfbhblbinaaaDoor
open Go.RowKit P
set_option linter.unusedVariables false
set_option linter.unusedSimpArgs false
set_option maxRecDepth 100000

set_option maxHeartbeats 4000000 in
theorem sameStart_any (A B : Option Addr) (l r : List UInt8) (c d : Nat) (w : World) (hl4 : l.length ≤ 400) (hr4 : r.length ≤ 400) (hok : okS 0 l = true) (hA : Bs w A l) (hB : Bs w B r) :
    Calls Tryd.prog 65 #[.slice A l.length c, .slice B r.length d] w fun e w' => e = .returned (.int .i64 (ofAt l r : Nat)) ∧ ∃ n, w' = w.drewN n := by
  have hmin : (min (l.length : Int) (r.length : Int)) = ((min l.length r.length : Nat) : Int) := by omega
  obtain ⟨mn, hmn⟩ : ∃ mn, min l.length r.length = mn := ⟨_, rfl⟩
  rw [hmn] at hmin
  have hmn1 : mn ≤ l.length ∧ mn ≤ r.length := by omega
  have hmn2 : mn = l.length ∨ mn = r.length := by omega
  obtain ⟨q, hq⟩ : ∃ q, lcp l r = q := ⟨_, rfl⟩
  have hqm : q ≤ mn := by have := lcp_le l r; omega
  have hstep : ∀ k (h1 : k < l.length) (h2 : k < r.length), k ≤ q → (l[k] = r[k] ↔ k + 1 ≤ q) := fun k h1 h2 h3 => by rw [← hq] at h3 ⊢; exact lcp_step h1 h2 h3
  have h0 := isBound_zero l hok
  have he : ofAt l r = cutTo l q := by unfold ofAt; rw [hq]
  have HE := Lib.hid he
  have HS := Lib.hid hstep
  have H0 := Lib.hid h0
  have HM := Lib.hid hmin
  rw [he]
  clear hq hmn he hstep h0 hok hmin
  go_enter Tryd.func65, Tryd.ntmps65
  go_wp2
  go_loopw [5] (fun i wr => ∃ k : Nat, i = .int .i64 k ∧ k ≤ q ∧ ∃ n, wr = w.drewN n) (fun i _ => mn - (intOf i).toNat)
  case atStart => exact ⟨0, rfl, Nat.zero_le _, 0, rfl⟩
  case round =>
    obtain ⟨k, rfl, hk, n, rfl⟩ := hrel
    have hmin := HM.out
    by_cases hlt : k < mn
    · obtain ⟨b, off, rfl, hbl, hc⟩ := hA k (by omega)
      obtain ⟨b2, off2, rfl, hbl2, hc2⟩ := hB k (by omega)
      have hk1 : k < l.length := by omega
      have hk2 : k < r.length := by omega
      have hst := HS.out k hk1 hk2 hk
      have HST := Lib.hid hst
      have hg : decide ((k : Int) < (mn : Int)) = true := by simp; omega
      clear hst
      by_cases heq : l[k] = r[k]
      · have hne : (((l[k]).toNat : Int) == ((r[k]).toNat : Int)) = true := by simp [heq]
        have HQ := Lib.hid heq
        clear heq
        go_wp2
        go_quiet (fail)
        go_wp2
        go_roundw
        case rel => exact ⟨k + 1, by go_num, HST.out.1 HQ.out, _, rfl⟩
        case measure => simp [intOf]; omega
      · have hne : (((l[k]).toNat : Int) == ((r[k]).toNat : Int)) = false := by
          rw [beq_eq_false_iff_ne]
          intro e
          exact heq (UInt8.toNat_inj.1 (by omega))
        have HQ := Lib.hid heq
        clear heq
        go_wp2
        go_quiet (fail)
        obtain rfl : k = q := by
          have : ¬ k + 1 ≤ q := fun h => HQ.out (HST.out.2 h)
          omega
        clear HST HQ
        go_wp2
        go_loopw [5] (fun i wr => ∃ j : Nat, i = .int .i64 j ∧ j ≤ k ∧ Hid (cutTo l j = cutTo l k) ∧ ∃ n, wr = w.drewN n) (fun i _ => (intOf i).toNat)
        case atStart => exact ⟨k, rfl, Nat.le_refl _, Lib.hid rfl, _, World.drewN_drewN _ _ _⟩
        case round =>
          obtain ⟨j, rfl, hj, HJ, n9, rfl⟩ := hrel
          obtain ⟨z, hz⟩ : ∃ z, isBound l (j : Int) = z := ⟨_, rfl⟩
          have HZ := Lib.hid hz
          clear hz
          go_wp2_with fail
          refine (isBoundary_any _ l c (j : Int) _ (by omega) (by exact hA.drewN n9)).mono ?_
          rintro e w5 ⟨rfl, rfl⟩
          rw [HZ.out]
          cases z
          · obtain ⟨j', rfl⟩ : ∃ j', j = j' + 1 := by
              cases j with
              | zero => have := HZ.out; rw [H0.out] at this; cases this
              | succ j' => exact ⟨j', rfl⟩
            go_wp2
            go_roundw
            case rel => exact ⟨j', rfl, by omega, Lib.hid ((cutTo_next l j' HZ.out).symm.trans HJ.out), _, rfl⟩
            case measure => simp [intOf]
          · have hh := cutTo_here l j HZ.out
            have HH := Lib.hid hh
            clear hh
            go_wp2
            go_ret
            exact ⟨ret_int (congrArg (fun x : Nat => (x : Int)) (HH.out.symm.trans HJ.out)), _, rfl⟩
    · have hmn3 : ¬ (k : Int) < (mn : Int) := by omega
      have hg : decide ((k : Int) < (mn : Int)) = false := by simp; omega
      obtain rfl : k = q := by omega
      go_wp2
      go_quiet (fail)
      go_wp2
      go_loopw [5] (fun i wr => ∃ j : Nat, i = .int .i64 j ∧ j ≤ k ∧ Hid (cutTo l j = cutTo l k) ∧ ∃ n, wr = w.drewN n) (fun i _ => (intOf i).toNat)
      case atStart => exact ⟨k, rfl, Nat.le_refl _, Lib.hid rfl, _, World.drewN_drewN _ _ _⟩
      case round =>
        obtain ⟨j, rfl, hj, HJ, n9, rfl⟩ := hrel
        obtain ⟨z, hz⟩ : ∃ z, isBound l (j : Int) = z := ⟨_, rfl⟩
        have HZ := Lib.hid hz
        clear hz
        go_wp2_with fail
        refine (isBoundary_any _ l c (j : Int) _ (by omega) (by exact hA.drewN n9)).mono ?_
        rintro e w5 ⟨rfl, rfl⟩
        rw [HZ.out]
        cases z
        · obtain ⟨j', rfl⟩ : ∃ j', j = j' + 1 := by
            cases j with
            | zero => have := HZ.out; rw [H0.out] at this; cases this
            | succ j' => exact ⟨j', rfl⟩
          go_wp2
          go_roundw
          case rel => exact ⟨j', rfl, by omega, Lib.hid ((cutTo_next l j' HZ.out).symm.trans HJ.out), _, rfl⟩
          case measure => simp [intOf]
        · have hh := cutTo_here l j HZ.out
          have HH := Lib.hid hh
          clear hh
          go_wp2
          go_ret
          exact ⟨ret_int (congrArg (fun x : Nat => (x : Int)) (HH.out.symm.trans HJ.out)), _, rfl⟩


set_option maxHeartbeats 4000000 in
theorem sameEnd_any (A B : Option Addr) (l r : List UInt8) (c d : Nat) (w : World) (hl4 : l.length ≤ 400) (hr4 : r.length ≤ 400) (hA : Bs w A l) (hB : Bs w B r) :
    Calls Tryd.prog 66 #[.slice A l.length c, .slice B r.length d] w fun e w' => e = .returned (.int .i64 (sufTo l (lcs l r) : Nat)) ∧ ∃ n, w' = w.drewN n := by
  have hmin : (min (l.length : Int) (r.length : Int)) = ((min l.length r.length : Nat) : Int) := by omega
  obtain ⟨mn, hmn⟩ : ∃ mn, min l.length r.length = mn := ⟨_, rfl⟩
  rw [hmn] at hmin
  have hmn1 : mn ≤ l.length ∧ mn ≤ r.length := by omega
  have hmn2 : mn = l.length ∨ mn = r.length := by omega
  obtain ⟨q, hq⟩ : ∃ q, lcs l r = q := ⟨_, rfl⟩
  have hqm : q ≤ mn := by have := lcs_le l r; omega
  have hstep : ∀ k (h1 : k < l.length) (h2 : k < r.length), k ≤ q → (l[l.length - 1 - k] = r[r.length - 1 - k] ↔ k + 1 ≤ q) := fun k h1 h2 h3 => by rw [← hq] at h3 ⊢; exact lcs_step h1 h2 h3
  have HS := Lib.hid hstep
  have HM := Lib.hid hmin
  rw [hq]
  clear hq hmn hstep hmin
  go_enter Tryd.func66, Tryd.ntmps66
  go_wp2
  go_loopw [5] (fun i wr => ∃ k : Nat, i = .int .i64 k ∧ k ≤ q ∧ ∃ n, wr = w.drewN n) (fun i _ => mn - (intOf i).toNat)
  case atStart => exact ⟨0, rfl, Nat.zero_le _, 0, rfl⟩
  case round =>
    obtain ⟨k, rfl, hk, n, rfl⟩ := hrel
    have hmin := HM.out
    by_cases hlt : k < mn
    · obtain ⟨b, off, rfl, hbl, hc0⟩ := hA (l.length - 1 - k) (by omega)
      obtain ⟨b2, off2, rfl, hbl2, hc20⟩ := hB (r.length - 1 - k) (by omega)
      obtain ⟨i1, hi1⟩ : ∃ i1, l.length - 1 - k = i1 := ⟨_, rfl⟩
      obtain ⟨i2, hi2⟩ : ∃ i2, r.length - 1 - k = i2 := ⟨_, rfl⟩
      have hj1 : (l.length : Int) - 1 - (k : Int) = (i1 : Int) := by omega
      have hj2 : (r.length : Int) - 1 - (k : Int) = (i2 : Int) := by omega
      have hi1l : i1 < l.length := by omega
      have hi2l : i2 < r.length := by omega
      obtain ⟨X, hX⟩ : ∃ X, l[l.length - 1 - k]'(by omega) = X := ⟨_, rfl⟩
      obtain ⟨Y, hY⟩ : ∃ Y, r[r.length - 1 - k]'(by omega) = Y := ⟨_, rfl⟩
      rw [hX] at hc0
      rw [hY] at hc20
      rw [hi1] at hc0
      rw [hi2] at hc20
      have hk1 : k < l.length := by omega
      have hk2 : k < r.length := by omega
      have hst := HS.out k hk1 hk2 hk
      rw [hX, hY] at hst
      have HI1 := Lib.hid hi1
      have HI2 := Lib.hid hi2
      clear hX hY hi1 hi2
      have HST := Lib.hid hst
      have hg : decide ((k : Int) < (mn : Int)) = true := by simp; omega
      clear hst
      by_cases heq : X = Y
      · have hne : ((X.toNat : Int) == (Y.toNat : Int)) = true := by simp [heq]
        have HQ := Lib.hid heq
        clear heq
        go_wp2
        go_quiet (fail)
        go_wp2
        go_roundw
        case rel => exact ⟨k + 1, by go_num, HST.out.1 HQ.out, _, rfl⟩
        case measure => simp [intOf]; omega
      · have hne : ((X.toNat : Int) == (Y.toNat : Int)) = false := by
          rw [beq_eq_false_iff_ne]
          intro e
          exact heq (UInt8.toNat_inj.1 (by omega))
        have HQ := Lib.hid heq
        clear heq
        go_wp2
        go_quiet (fail)
        obtain rfl : k = q := by
          have : ¬ k + 1 ≤ q := fun h => HQ.out (HST.out.2 h)
          omega
        clear HST HQ
        go_wp2
        go_loopw [5] (fun i wr => ∃ j : Nat, i = .int .i64 j ∧ j ≤ k ∧ Hid (sufTo l j = sufTo l k) ∧ ∃ n, wr = w.drewN n) (fun i _ => (intOf i).toNat)
        case atStart => exact ⟨k, rfl, Nat.le_refl _, Lib.hid rfl, _, World.drewN_drewN _ _ _⟩
        case round =>
          obtain ⟨j, rfl, hj, HJ, n9, rfl⟩ := hrel
          obtain ⟨z, hz⟩ : ∃ z, isBound l ((l.length : Int) - (j : Int)) = z := ⟨_, rfl⟩
          have HZ := Lib.hid hz
          clear hz
          go_wp2_with fail
          refine (isBoundary_any _ l c ((l.length : Int) - (j : Int)) _ (by omega) (by exact hA.drewN n9)).mono ?_
          rintro e w5 ⟨rfl, rfl⟩
          rw [HZ.out]
          cases z
          · obtain ⟨j', rfl⟩ : ∃ j', j = j' + 1 := by
              cases j with
              | zero => have := HZ.out; rw [show (l.length : Int) - ((0 : Nat) : Int) = (l.length : Int) by omega, isBound_end] at this; cases this
              | succ j' => exact ⟨j', rfl⟩
            go_wp2
            go_roundw
            case rel => exact ⟨j', rfl, by omega, Lib.hid ((sufTo_next l j' HZ.out).symm.trans HJ.out), _, rfl⟩
            case measure => simp [intOf]
          · have hh := sufTo_here l j HZ.out
            have HH := Lib.hid hh
            clear hh
            go_wp2
            go_ret
            exact ⟨ret_int (congrArg (fun x : Nat => (x : Int)) (HH.out.symm.trans HJ.out)), _, rfl⟩
    · have hmn3 : ¬ (k : Int) < (mn : Int) := by omega
      have hg : decide ((k : Int) < (mn : Int)) = false := by simp; omega
      obtain rfl : k = q := by omega
      go_wp2
      go_quiet (fail)
      go_wp2
      go_loopw [5] (fun i wr => ∃ j : Nat, i = .int .i64 j ∧ j ≤ k ∧ Hid (sufTo l j = sufTo l k) ∧ ∃ n, wr = w.drewN n) (fun i _ => (intOf i).toNat)
      case atStart => exact ⟨k, rfl, Nat.le_refl _, Lib.hid rfl, _, World.drewN_drewN _ _ _⟩
      case round =>
        obtain ⟨j, rfl, hj, HJ, n9, rfl⟩ := hrel
        obtain ⟨z, hz⟩ : ∃ z, isBound l ((l.length : Int) - (j : Int)) = z := ⟨_, rfl⟩
        have HZ := Lib.hid hz
        clear hz
        go_wp2_with fail
        refine (isBoundary_any _ l c ((l.length : Int) - (j : Int)) _ (by omega) (by exact hA.drewN n9)).mono ?_
        rintro e w5 ⟨rfl, rfl⟩
        rw [HZ.out]
        cases z
        · obtain ⟨j', rfl⟩ : ∃ j', j = j' + 1 := by
            cases j with
            | zero => have := HZ.out; rw [show (l.length : Int) - ((0 : Nat) : Int) = (l.length : Int) by omega, isBound_end] at this; cases this
            | succ j' => exact ⟨j', rfl⟩
          go_wp2
          go_roundw
          case rel => exact ⟨j', rfl, by omega, Lib.hid ((sufTo_next l j' HZ.out).symm.trans HJ.out), _, rfl⟩
          case measure => simp [intOf]
        · have hh := sufTo_here l j HZ.out
          have HH := Lib.hid hh
          clear hh
          go_wp2
          go_ret
          exact ⟨ret_int (congrArg (fun x : Nat => (x : Int)) (HH.out.symm.trans HJ.out)), _, rfl⟩

set_option maxHeartbeats 8000000 in
theorem implEditOf_any (A B : Option Addr) (l r : List UInt8) (c d : Nat) (w : World) (hl : l.length ≤ c) (hc9 : c ≤ 9223372036854775807) (hr : r.length ≤ d) (hd9 : d ≤ 9223372036854775807) (hP : Pl A c) (hQ : Pl B d) (hT : Tab w) (hA : Bs w A l) (hB : Bs w B r) :
    Calls Tryd.prog 23 #[.slice A l.length c, .slice B r.length d] w (MakesEd (ofA l r) (ofM l r) (ofP l r) (ofOk l r) w) := by
  have hal := (Below.refl w.heap.size w).alloc (Nat.le_refl _) (.cells #[.int .i64 0, .int .i64 0, .slice none 0 0] 25)
  have bR := EBox.new w 0 0 none 0 0
  obtain ⟨q1, hq1⟩ : ∃ q, isText l = q := ⟨_, rfl⟩
  obtain ⟨q2, hq2⟩ : ∃ q, isText r = q := ⟨_, rfl⟩
  have hok : ofOk l r = (q1 && q2) := by unfold ofOk; rw [hq1, hq2]
  obtain ⟨ra, hra⟩ : ∃ z, ofA l r = z := ⟨_, rfl⟩
  obtain ⟨rm, hrm⟩ : ∃ z, ofM l r = z := ⟨_, rfl⟩
  obtain ⟨R, hR⟩ : ∃ z, ofP l r = z := ⟨_, rfl⟩
  have hz : (q1 && q2) = false → ra = 0 ∧ rm = 0 ∧ R = [] := fun h => by
    rw [← hra, ← hrm, ← hR]
    unfold ofA ofM ofP
    rw [hok, h]
    exact ⟨rfl, rfl, rfl⟩
  have hn : (q1 && q2) = true → ra = (ofAt l r : Int) ∧ rm = (l.length : Int) - ofAt l r - ofEnd l r ∧ R = (r.drop (ofAt l r)).take (r.length - ofAt l r - ofEnd l r) := fun h => by
    rw [← hra, ← hrm, ← hR]
    unfold ofA ofM ofP
    rw [hok, h]
    exact ⟨rfl, rfl, rfl⟩
  have HQ1 := Lib.hid hq1
  have HQ2 := Lib.hid hq2
  have HZ := Lib.hid hz
  have HN := Lib.hid hn
  rw [hra, hrm, hR, hok]
  clear hq1 hq2 hok hra hrm hR hz hn
  go_enter Tryd.func23, Tryd.ntmps23
  go_wp2_with fail
  generalize w.alloc (.cells #[.int .i64 0, .int .i64 0, .slice none 0 0] 25) = W1 at *
  refine (textOk_any A l c _ hl hc9 (by exact hT.below hal) (by exact hA.below hal)).mono ?_
  rintro e w2 ⟨rfl, n2, rfl⟩
  rw [HQ1.out]
  have hb1 := below_of_drewN W1 n2
  have bR := bR.below hb1
  have hb2 := below_then hal hb1
  generalize W1.drewN n2 = w2 at *
  clear hal hb1
  cases q1
  · obtain ⟨e1, e2, e3⟩ := HZ.out rfl
    have r0 := bR.c0
    have r1 := bR.c1
    have r2 := bR.c2
    have f0 := bR.blk.frozen 0
    have f1 := bR.blk.frozen 1
    have f2 := bR.blk.frozen 2
    subst e1; subst e2; subst e3
    go_wp2
    refine bodyPost_ret (v := .tuple #[.agg #[.int .i64 0, .int .i64 0, .slice none 0 0], .bool false]) (by simp [results, Tryd.results23, go_sem, r0, r1, r2]) rfl ⟨.slice none 0 0, rfl, Own.nil _ _, ?_⟩
    (repeat (first | exact Below.refl _ _ | assumption | refine Below.setCell ?_ (by first | (simp; done) | (simp; omega) | omega) _ | refine Below.drew ?_ | refine below_drewN ?_ _ | refine Below.alloc ?_ (by first | (simp; done) | (simp; omega) | omega) _))
  go_wp2_with fail
  refine (textOk_any B r d _ hr hd9 (by exact hT.below hb2) (by exact hB.below hb2)).mono ?_
  rintro e w3 ⟨rfl, n3, rfl⟩
  rw [HQ2.out]
  have hb1 := below_of_drewN w2 n3
  have bR := bR.below hb1
  have hb3 := below_then hb2 hb1
  generalize w2.drewN n3 = w3 at *
  clear hb2 hb1
  cases q2
  · obtain ⟨e1, e2, e3⟩ := HZ.out rfl
    have r0 := bR.c0
    have r1 := bR.c1
    have r2 := bR.c2
    have f0 := bR.blk.frozen 0
    have f1 := bR.blk.frozen 1
    have f2 := bR.blk.frozen 2
    subst e1; subst e2; subst e3
    go_wp2
    refine bodyPost_ret (v := .tuple #[.agg #[.int .i64 0, .int .i64 0, .slice none 0 0], .bool false]) (by simp [results, Tryd.results23, go_sem, r0, r1, r2]) rfl ⟨.slice none 0 0, rfl, Own.nil _ _, ?_⟩
    (repeat (first | exact Below.refl _ _ | assumption | refine Below.setCell ?_ (by first | (simp; done) | (simp; omega) | omega) _ | refine Below.drew ?_ | refine below_drewN ?_ _ | refine Below.alloc ?_ (by first | (simp; done) | (simp; omega) | omega) _))
  obtain ⟨e1, e2, e3⟩ := HN.out rfl
  have hl4 := isText_len HQ1.out
  have hr4 := isText_len HQ2.out
  have h1 := ofAt_le l r
  have h2 := ofEnd_le l r
  have he : ofEnd l r = sufTo (l.drop (ofAt l r)) (lcs (l.drop (ofAt l r)) (r.drop (ofAt l r))) := rfl
  have HOK := Lib.hid (isText_ok HQ1.out)
  obtain ⟨k, hk⟩ : ∃ k, ofAt l r = k := ⟨_, rfl⟩
  obtain ⟨s, hs⟩ : ∃ s, ofEnd l r = s := ⟨_, rfl⟩
  rw [hs] at he
  rw [hk] at he h1 h2 e1 e2 e3
  rw [hs] at h2 e2 e3
  obtain ⟨X, hX⟩ : ∃ X, l.drop k = X := ⟨_, rfl⟩
  obtain ⟨Y, hY⟩ : ∃ Y, r.drop k = Y := ⟨_, rfl⟩
  have hXl : l.length - k = X.length := by rw [← hX, List.length_drop]
  have hYl : r.length - k = Y.length := by rw [← hY, List.length_drop]
  obtain ⟨A2, hs2', hB2, _, _⟩ := slc_tail A l.length c k w3 l hP.1 hP.2 rfl h1.1 hl hc9 (hA.below hb3)
  obtain ⟨A3, hs3', hB3, _, _⟩ := slc_tail B r.length d k w3 r hQ.1 hQ.2 rfl h1.2 hr hd9 (hB.below hb3)
  obtain ⟨A4, hs4', hB4⟩ := slc_mid B r.length d k (r.length - k - s) w3 r hQ.1 hQ.2 rfl (by omega) hr hd9 (hB.below hb3)
  rw [← e3] at hB4
  have hRl : r.length - k - s = R.length := by rw [e3, List.length_take, List.length_drop]; omega
  have hs4 : ∀ W, (Instr.slice 22 (.slice B r.length d) (some (.int .i64 (k : Int))) (some (.int .i64 ((r.length : Int) - (s : Int)))) none).run Tryd.prog W = .ok (.slice A4 R.length (d - k)) W := fun W => by
    have := hs4' W
    rw [hRl, show (k : Int) + (R.length : Int) = (r.length : Int) - (s : Int) by omega] at this
    exact this
  rw [hX] at hB2 he
  rw [hY] at hB3 he
  rw [hXl] at hs2'
  rw [hYl] at hs3'
  have hX4 : X.length ≤ 400 := by omega
  have hY4 : Y.length ≤ 400 := by omega
  have hs9 : s ≤ X.length ∧ s ≤ r.length ∧ k ≤ 400 := by omega
  have hR4 : R.length ≤ 1000000 := by omega
  have HE1 := Lib.hid e1
  have HE2 := Lib.hid e2
  have HHE := Lib.hid he.symm
  have HK := Lib.hid hk
  have HB2 := Lib.hid hB2
  have HB3 := Lib.hid hB3
  have HB4 := Lib.hid hB4
  clear e1 e2 e3 he hk hs hX hY hXl hYl hs4' hB2 hB3 hB4 hRl
  go_wp2_with fail
  refine (sameStart_any A B l r c d _ hl4 hr4 HOK.out (by exact hA.below hb3) (by exact hB.below hb3)).mono ?_
  rintro e w4 ⟨rfl, n4, rfl⟩
  rw [HK.out]
  have hb4 := below_of_drewN w3 n4
  have bR := bR.below hb4
  have HB2 := Lib.hid (HB2.out.below hb4)
  have HB3 := Lib.hid (HB3.out.below hb4)
  have HB4 := Lib.hid (HB4.out.below hb4)
  have hb4 := below_then hb3 hb4
  generalize w3.drewN n4 = w4 at *
  clear hb3
  go_wp2_with fail
  go_region_held3 (fun V => True) (trivial) (first
    | (go_at_call 66; refine (sameEnd_any A2 A3 X Y _ _ _ hX4 hY4 (by exact HB2.out) (by exact HB3.out)).mono ?_; rintro e w5 ⟨rfl, n5, rfl⟩; rw [HHE.out]))
  have hb5 := below_of_drewN w4 (1 + n5)
  have bR := bR.below hb5
  have HB4 := Lib.hid (HB4.out.below hb5)
  have hb5 := below_then hb4 hb5
  generalize w4.drewN (1 + n5) = w5 at *
  clear HB2 HB3 hb4
  have r0 := bR.c0
  have r1 := bR.c1
  have r2 := bR.c2
  go_wp2_with fail
  refine (bytesClone_opt A4 R R.length (d - k) _ rfl hR4 (by exact HB4.out)).mono ?_
  rintro e w6 ⟨v6, rfl, hown6, hb6⟩
  obtain ⟨A6, c6, rfl, _, _, _⟩ := hown6.form
  have hlt0 := bR.lt
  have bR := bR.below hb6
  have hz5 := hb5.size
  have hb6 := below_then hb5 hb6
  clear r0 r1 r2
  have r0 := bR.c0
  have r1 := bR.c1
  have r2 := bR.c2
  have f0 := bR.blk.frozen 0
  have f1 := bR.blk.frozen 1
  have f2 := bR.blk.frozen 2
  have hlt := bR.lt
  go_wp2
  refine bodyPost_ret (v := .tuple #[.agg #[.int .i64 (k : Int), .int .i64 ((l.length : Int) - (k : Int) - (s : Int)), .slice A6 R.length c6], .bool true]) (by simp [results, Tryd.results23, go_sem, r0, r1, r2]) rfl ⟨.slice A6 R.length c6, by rw [HE1.out, HE2.out]; rfl, ?_, ?_⟩
  · have h9 : ∀ (W : World) (i : Nat) (u : Value), Own W w5.heap.size (.slice A6 R.length c6) R → Own (W.setCell ⟨w.heap.size, i, none⟩ u) w5.heap.size (.slice A6 R.length c6) R := fun W i u h => h.setBelow (by simpa using hlt0) u
    exact (h9 _ _ _ (h9 _ _ _ (h9 _ _ _ hown6))).mono hz5
  · (repeat (first | exact Below.refl _ _ | assumption | refine Below.setCell ?_ (by first | (simp; done) | (simp; omega) | omega) _ | refine Below.drew ?_ | refine below_drewN ?_ _ | refine Below.alloc ?_ (by first | (simp; done) | (simp; omega) | omega) _))
end Go.Proofs.YtkplfbhblbinaaaDoor

namespace Go.Proofs.YtkplfbhblbinaaaDoor
open Go.RowKit P
set_option linter.unusedVariables false
set_option linter.unusedSimpArgs false
set_option maxRecDepth 100000

set_option maxHeartbeats 8000000 in
theorem specEditOf_any (A B : Option Addr) (l r : List UInt8) (c d : Nat) (w : World) (hl : l.length ≤ c) (hc9 : c ≤ 9223372036854775807) (hr : r.length ≤ d) (hd9 : d ≤ 9223372036854775807) (hP : Pl A c) (hQ : Pl B d) (hA : Bs w A l) (hB : Bs w B r) :
    Calls Tryd.prog 22 #[.slice A l.length c, .slice B r.length d] w (MakesEd (ofA l r) (ofM l r) (ofP l r) (ofOk l r) w) := by
  have hal := (Below.refl w.heap.size w).alloc (Nat.le_refl _) (.cells #[.int .i64 0, .int .i64 0, .slice none 0 0] 25)
  have bR := EBox.new w 0 0 none 0 0
  obtain ⟨q1, hq1⟩ : ∃ q, isText l = q := ⟨_, rfl⟩
  obtain ⟨q2, hq2⟩ : ∃ q, isText r = q := ⟨_, rfl⟩
  have hok : ofOk l r = (q1 && q2) := by unfold ofOk; rw [hq1, hq2]
  obtain ⟨ra, hra⟩ : ∃ z, ofA l r = z := ⟨_, rfl⟩
  obtain ⟨rm, hrm⟩ : ∃ z, ofM l r = z := ⟨_, rfl⟩
  obtain ⟨R, hR⟩ : ∃ z, ofP l r = z := ⟨_, rfl⟩
  have hz : (q1 && q2) = false → ra = 0 ∧ rm = 0 ∧ R = [] := fun h => by
    rw [← hra, ← hrm, ← hR]
    unfold ofA ofM ofP
    rw [hok, h]
    exact ⟨rfl, rfl, rfl⟩
  have hn : (q1 && q2) = true → ra = (ofAt l r : Int) ∧ rm = (l.length : Int) - ofAt l r - ofEnd l r ∧ R = (r.drop (ofAt l r)).take (r.length - ofAt l r - ofEnd l r) := fun h => by
    rw [← hra, ← hrm, ← hR]
    unfold ofA ofM ofP
    rw [hok, h]
    exact ⟨rfl, rfl, rfl⟩
  have HQ1 := Lib.hid hq1
  have HQ2 := Lib.hid hq2
  have HZ := Lib.hid hz
  have HN := Lib.hid hn
  rw [hra, hrm, hR, hok]
  clear hq1 hq2 hok hra hrm hR hz hn
  go_enter Tryd.func22, Tryd.ntmps22
  go_wp2_with fail
  generalize w.alloc (.cells #[.int .i64 0, .int .i64 0, .slice none 0 0] 25) = W1 at *
  refine (specTextOk_any A l c _ hl hc9 (by exact hA.below hal)).mono ?_
  rintro e w2 ⟨rfl, hb1⟩
  rw [HQ1.out]
  have bR := bR.below hb1
  have hb2 := below_then hal hb1
  clear hal hb1
  cases q1
  · obtain ⟨e1, e2, e3⟩ := HZ.out rfl
    have r0 := bR.c0
    have r1 := bR.c1
    have r2 := bR.c2
    have f0 := bR.blk.frozen 0
    have f1 := bR.blk.frozen 1
    have f2 := bR.blk.frozen 2
    subst e1; subst e2; subst e3
    go_wp2
    refine bodyPost_ret (v := .tuple #[.agg #[.int .i64 0, .int .i64 0, .slice none 0 0], .bool false]) (by simp [results, Tryd.results22, go_sem, r0, r1, r2]) rfl ⟨.slice none 0 0, rfl, Own.nil _ _, ?_⟩
    (repeat (first | exact Below.refl _ _ | assumption | refine Below.setCell ?_ (by first | (simp; done) | (simp; omega) | omega) _ | refine Below.drew ?_ | refine below_drewN ?_ _ | refine Below.alloc ?_ (by first | (simp; done) | (simp; omega) | omega) _))
  go_wp2_with fail
  refine (specTextOk_any B r d _ hr hd9 (by exact hB.below hb2)).mono ?_
  rintro e w3 ⟨rfl, hb1⟩
  rw [HQ2.out]
  have bR := bR.below hb1
  have hb3 := below_then hb2 hb1
  clear hb2 hb1
  cases q2
  · obtain ⟨e1, e2, e3⟩ := HZ.out rfl
    have r0 := bR.c0
    have r1 := bR.c1
    have r2 := bR.c2
    have f0 := bR.blk.frozen 0
    have f1 := bR.blk.frozen 1
    have f2 := bR.blk.frozen 2
    subst e1; subst e2; subst e3
    go_wp2
    refine bodyPost_ret (v := .tuple #[.agg #[.int .i64 0, .int .i64 0, .slice none 0 0], .bool false]) (by simp [results, Tryd.results22, go_sem, r0, r1, r2]) rfl ⟨.slice none 0 0, rfl, Own.nil _ _, ?_⟩
    (repeat (first | exact Below.refl _ _ | assumption | refine Below.setCell ?_ (by first | (simp; done) | (simp; omega) | omega) _ | refine Below.drew ?_ | refine below_drewN ?_ _ | refine Below.alloc ?_ (by first | (simp; done) | (simp; omega) | omega) _))
  have hN := HN.out rfl
  have HNN := Lib.hid hN
  have hl4 := isText_len HQ1.out
  have hr4 := isText_len HQ2.out
  have HO1 := Lib.hid (isText_ok HQ1.out)
  have HO2 := Lib.hid (isText_ok HQ2.out)
  obtain ⟨q, hq⟩ : ∃ q, lcp l r = q := ⟨_, rfl⟩
  have hqm : q ≤ l.length ∧ q ≤ r.length := by have := lcp_le l r; omega
  have htk : ∀ k, k ≤ l.length → k ≤ r.length → (l.take k = r.take k ↔ k ≤ q) := fun k h1 h2 => by rw [← hq]; exact take_lcp l r k h1 h2
  have hca : ofAt l r = cutTo l q := by unfold ofAt; rw [hq]
  have HTK := Lib.hid htk
  have HCA := Lib.hid hca
  have hA3 := hA.below hb3
  have hB3 := hB.below hb3
  clear hN hq htk hca
  go_wp2
  go_loopw [6, 7] (fun at_ i wr => ∃ k : Nat, i = .int .i64 k ∧ at_ = .int .i64 (cutTo l (k - 1) : Nat) ∧ k ≤ q + 1 ∧ Below w3.heap.size w3 wr) (fun _ i _ => q + 2 - (intOf i).toNat)
  case atStart => exact ⟨0, rfl, rfl, by omega, Below.refl _ _⟩
  case round =>
    obtain ⟨k, rfl, rfl, hk, hb⟩ := hrel
    go_upto_region 5 with fail
    go_cut [41] (fun s wx => s = .bool (decide (k ≤ q)) ∧ ∃ n, wx = wr.drewN n)
    case first =>
      by_cases h1 : k ≤ l.length
      · have g1 : decide ((k : Int) ≤ (l.length : Int)) = true := by simp; omega
        by_cases h2 : k ≤ r.length
        · have g2 : decide ((k : Int) ≤ (r.length : Int)) = true := by simp; omega
          have hs1 := slc_head A l.length c k hP.1 hP.2 (by omega)
          have hs2 := slc_head B r.length d k hQ.1 hQ.2 (by omega)
          obtain ⟨X, hX⟩ : ∃ X, l.take k = X := ⟨_, rfl⟩
          obtain ⟨Y, hY⟩ : ∃ Y, r.take k = Y := ⟨_, rfl⟩
          have hXl : k = X.length := by rw [← hX, List.length_take]; omega
          have hYl : k = Y.length := by rw [← hY, List.length_take]; omega
          have bX : Bs wr A X := by rw [← hX]; exact (hA3.below hb).head9 k h1
          have bY : Bs wr B Y := by rw [← hY]; exact (hB3.below hb).head9 k h2
          have hcv1 : ∀ n, (convert 22 9 (.slice A k c)).run Tryd.prog (wr.drewN n) = .ok (.string ⟨X.toArray⟩) (wr.drewN n) := fun n => run_conv_bs c k hXl bX
          have hcv2 : ∀ n, (convert 22 9 (.slice B k d)).run Tryd.prog (wr.drewN n) = .ok (.string ⟨Y.toArray⟩) (wr.drewN n) := fun n => run_conv_bs d k hYl bY
          have hXY : (X == Y) = decide (k ≤ q) := by rw [Bool.eq_iff_iff, ← hX, ← hY]; simp [HTK.out k h1 h2]
          have HXY := Lib.hid hXY
          clear hX hY hXl hYl bX bY hXY
          go_wp2
          go_quiet (fail)
          go_wp2
          go_meet
          exact ⟨by rw [HXY.out], _, rfl⟩
        · have g2 : decide ((k : Int) ≤ (r.length : Int)) = false := by simp; omega
          go_wp2
          go_quiet (fail)
          go_wp2
          go_meet
          exact ⟨by rw [decide_eq_false (by omega)], _, rfl⟩
      · have g1 : decide ((k : Int) ≤ (l.length : Int)) = false := by simp; omega
        go_wp2
        go_quiet (fail)
        go_wp2
        go_meet
        exact ⟨by rw [decide_eq_false (by omega)], _, rfl⟩
    case rest =>
      obtain ⟨rfl, n, rfl⟩ := hcut
      have hb := below_drewN hb n
      generalize wr.drewN n = wr at *
      by_cases hkq : k ≤ q
      · have hd : decide (k ≤ q) = true := decide_eq_true hkq
        rw [hd]
        clear hd
        have h1 : k ≤ l.length := by omega
        have h2 : k ≤ r.length := by omega
        have c1 : cutOk l (k : Int) = isBound l (k : Int) := by unfold cutOk; rw [HQ1.out]; rfl
        have c2 : cutOk r (k : Int) = isBound r (k : Int) := by unfold cutOk; rw [HQ2.out]; rfl
        obtain ⟨z, hz⟩ : ∃ z, isBound l (k : Int) = z := ⟨_, rfl⟩
        have hbb : z = true → isBound r (k : Int) = true := fun h => bound_both HO1.out HO2.out h1 h2 ((HTK.out k h1 h2).2 hkq) (hz.trans h)
        have HZ := Lib.hid hz
        have HC1 := Lib.hid (c1.trans hz)
        have HC2 := Lib.hid c2
        have HBB := Lib.hid hbb
        clear hz hbb c1 c2
        go_wp2_with fail
        refine (specCutOk_any A l c (k : Int) _ hl hc9 (by exact hA3.below hb)).mono ?_
        rintro e w5 ⟨rfl, hb5⟩
        rw [HC1.out]
        have hb := below_then hb hb5
        cases z
        · go_wp2
          go_roundw
          case rel => exact ⟨k + 1, by go_num, by
            cases k with
            | zero => exact absurd (HZ.out.symm.trans (isBound_zero l HO1.out)) (by decide)
            | succ j => rw [show j + 1 + 1 - 1 = j + 1 by omega, cutTo_next l j HZ.out]; rfl, by omega, hb⟩
          case measure => first | (simp [intOf]; done) | (simp [intOf]; omega)
        · have hc2 := HC2.out.trans (HBB.out rfl)
          have HC2 := Lib.hid hc2
          clear hc2
          go_wp2_with fail
          refine (specCutOk_any B r d (k : Int) _ hr hd9 (by exact hB3.below hb)).mono ?_
          rintro e w6 ⟨rfl, hb6⟩
          rw [HC2.out]
          have hb := below_then hb hb6
          go_wp2
          go_roundw
          case rel => exact ⟨k + 1, by go_num, by rw [show k + 1 - 1 = k by omega, cutTo_here l k HZ.out], by omega, hb⟩
          case measure => first | (simp [intOf]; done) | (simp [intOf]; omega)
      · have hd : decide (k ≤ q) = false := decide_eq_false hkq
        rw [hd]
        have hkk : k - 1 = q := by omega
        rw [hkk]
        have bR := (bR.below hb)
        have hb4 := below_then hb3 hb
        have hlt0 := bR.lt
        have hcut1 : isBound l (cutTo l q : Int) = true := cutTo_bound l HO1.out q
        have hcut2 := cutTo_le l q
        have hHC := HCA.out
        have hN2 := HNN.out
        have hEnd := ofEnd_le l r
        obtain ⟨t, ht⟩ : ∃ t, cutTo l q = t := ⟨_, rfl⟩
        rw [ht] at hcut1 hcut2 hHC ⊢
        have hEq : ofEnd l r = sufTo (l.drop t) (lcs (l.drop t) (r.drop t)) := by unfold ofEnd; rw [hHC]
        rw [hHC] at hN2 hEnd
        have hcut3 := bound_both HO1.out HO2.out (show t ≤ l.length by omega) (show t ≤ r.length by omega) ((HTK.out t (by omega) (by omega)).2 hcut2) hcut1
        have hX1 := isText_drop HQ1.out (show t ≤ l.length by omega) hcut1
        have hY1 := isText_drop HQ2.out (show t ≤ r.length by omega) hcut3
        obtain ⟨A2, hs2, hB2, hp2, hp2'⟩ := slc_tail A l.length c t wr l hP.1 hP.2 rfl (by omega) hl hc9 (hA3.below hb)
        obtain ⟨A3, hs3, hB3', hp3, hp3'⟩ := slc_tail B r.length d t wr r hQ.1 hQ.2 rfl (by omega) hr hd9 (hB3.below hb)
        obtain ⟨X, hX⟩ : ∃ X, l.drop t = X := ⟨_, rfl⟩
        obtain ⟨Y, hY⟩ : ∃ Y, r.drop t = Y := ⟨_, rfl⟩
        have hXl : l.length - t = X.length := by rw [← hX, List.length_drop]
        have hYl : r.length - t = Y.length := by rw [← hY, List.length_drop]
        have hXc : X.length ≤ c - t := by omega
        have hYc : Y.length ≤ d - t := by omega
        rw [hX] at hX1 hB2 hEq
        rw [hY] at hY1 hB3' hEq hN2
        rw [hXl] at hs2 hEnd
        rw [hYl] at hs3 hEnd
        obtain ⟨s, hs⟩ : ∃ s, lcs X Y = s := ⟨_, rfl⟩
        rw [hs] at hEq
        have hsl : s ≤ X.length ∧ s ≤ Y.length := by have := lcs_le X Y; omega
        have hdl : ∀ j, j ≤ X.length → j ≤ Y.length → (X.drop (X.length - j) = Y.drop (Y.length - j) ↔ j ≤ s) := fun j h1 h2 => by rw [← hs]; exact drop_lcs X Y j h1 h2
        obtain ⟨f, hf⟩ : ∃ f, ofEnd l r = f := ⟨_, rfl⟩
        rw [hf] at hEq hN2 hEnd
        have hX4 : X.length ≤ 400 := by omega
        have hY4 : Y.length ≤ 400 := by omega
        have hXt : (X.length : Int) = (l.length : Int) - (t : Int) := by omega
        have hYt : Y.length = r.length - t := hYl.symm
        have hR1 : R = Y.take (Y.length - f) := by rw [hN2.2.2, hYl]
        have hrm1 : rm = (X.length : Int) - (f : Int) := by rw [hN2.2.1]; omega
        have HRA := Lib.hid hN2.1
        have HRM := Lib.hid hrm1
        have HR1 := Lib.hid hR1
        have HX1 := Lib.hid hX1
        have HY1 := Lib.hid hY1
        have HDL := Lib.hid hdl
        have HEQ := Lib.hid hEq
        have HB2 := Lib.hid hB2
        have HB3 := Lib.hid hB3'
        clear hd hkk ht hX hY hXl hYl hs hf hcut1 hcut3 hHC hN2 hEq hX1 hY1 hdl hB2 hB3' hXt hYt hR1 hrm1 HTK HCA HNN HN HZ
        obtain ⟨wo, rfl⟩ : ∃ wo, wo = wr := ⟨_, rfl⟩
        go_wp2
        go_loopw [10, 11] (fun at_ i wx => ∃ k : Nat, i = .int .i64 k ∧ at_ = .int .i64 (sufTo X (k - 1) : Nat) ∧ k ≤ s + 1 ∧ Below wo.heap.size wo wx) (fun _ i _ => s + 2 - (intOf i).toNat)
        case atStart => exact ⟨0, rfl, rfl, by omega, Below.refl _ _⟩
        case round =>
          obtain ⟨k, rfl, rfl, hk, hbx⟩ := hrel
          have hBX := HB2.out.below hbx
          have hBY := HB3.out.below hbx
          go_upto_region 13 with fail
          go_cut [85] (fun v wy => v = .bool (decide (k ≤ s)) ∧ ∃ n, wy = wr.drewN n)
          case first =>
            by_cases h1 : k ≤ X.length
            · have g1 : decide ((k : Int) ≤ (X.length : Int)) = true := by simp; omega
              by_cases h2 : k ≤ Y.length
              · have g2 : decide ((k : Int) ≤ (Y.length : Int)) = true := by simp; omega
                obtain ⟨A5, hs5', hB5, _, _⟩ := slc_tail A2 X.length (c - t) (X.length - k) wr X hp2 hp2' rfl (by omega) hXc (by omega) hBX
                obtain ⟨A6, hs6', hB6, _, _⟩ := slc_tail A3 Y.length (d - t) (Y.length - k) wr Y hp3 hp3' rfl (by omega) hYc (by omega) hBY
                obtain ⟨U, hU⟩ : ∃ U, X.drop (X.length - k) = U := ⟨_, rfl⟩
                obtain ⟨V, hV⟩ : ∃ V, Y.drop (Y.length - k) = V := ⟨_, rfl⟩
                have hUl : k = U.length := by rw [← hU, List.length_drop]; omega
                have hVl : k = V.length := by rw [← hV, List.length_drop]; omega
                have i1 : (X.length : Int) - (k : Int) = ((X.length - k : Nat) : Int) := by omega
                have i2 : (Y.length : Int) - (k : Int) = ((Y.length - k : Nat) : Int) := by omega
                have hs5 : ∀ W, (Instr.slice 22 (.slice A2 X.length (c - t)) (some (.int .i64 ((X.length : Int) - (k : Int)))) none none).run Tryd.prog W = .ok (.slice A5 k (c - t - (X.length - k))) W := fun W => by
                  rw [i1, hs5' W, show X.length - (X.length - k) = k by omega]
                have hs6 : ∀ W, (Instr.slice 22 (.slice A3 Y.length (d - t)) (some (.int .i64 ((Y.length : Int) - (k : Int)))) none none).run Tryd.prog W = .ok (.slice A6 k (d - t - (Y.length - k))) W := fun W => by
                  rw [i2, hs6' W, show Y.length - (Y.length - k) = k by omega]
                rw [hU] at hB5
                rw [hV] at hB6
                have hcv1 : ∀ n, (convert 22 9 (.slice A5 k (c - t - (X.length - k)))).run Tryd.prog (wr.drewN n) = .ok (.string ⟨U.toArray⟩) (wr.drewN n) := fun n => run_conv_bs _ k hUl hB5
                have hcv2 : ∀ n, (convert 22 9 (.slice A6 k (d - t - (Y.length - k)))).run Tryd.prog (wr.drewN n) = .ok (.string ⟨V.toArray⟩) (wr.drewN n) := fun n => run_conv_bs _ k hVl hB6
                have hUV : (U == V) = decide (k ≤ s) := by rw [Bool.eq_iff_iff, ← hU, ← hV]; simp [HDL.out k h1 h2]
                have HUV := Lib.hid hUV
                clear hU hV hUl hVl hB5 hB6 hUV i1 i2 hs5' hs6'
                go_wp2
                go_quiet (fail)
                go_wp2
                go_meet
                exact ⟨by rw [HUV.out], _, rfl⟩
              · have g2 : decide ((k : Int) ≤ (Y.length : Int)) = false := by simp; omega
                go_wp2
                go_quiet (fail)
                go_wp2
                go_meet
                exact ⟨by rw [decide_eq_false (by omega)], _, rfl⟩
            · have g1 : decide ((k : Int) ≤ (X.length : Int)) = false := by simp; omega
              go_wp2
              go_quiet (fail)
              go_wp2
              go_meet
              exact ⟨by rw [decide_eq_false (by omega)], _, rfl⟩
          case rest =>
            obtain ⟨rfl, n, rfl⟩ := hcut
            have hbx := below_drewN hbx n
            have hBX := hBX.drewN n
            have hBY := hBY.drewN n
            generalize wr.drewN n = wr at *
            by_cases hks : k ≤ s
            · have hd : decide (k ≤ s) = true := decide_eq_true hks
              rw [hd]
              clear hd
              have h1 : k ≤ X.length := by omega
              have h2 : k ≤ Y.length := by omega
              have c1 : cutOk X ((X.length : Int) - (k : Int)) = isBound X ((X.length : Int) - (k : Int)) := by unfold cutOk; rw [HX1.out]; rfl
              have c2 : cutOk Y ((Y.length : Int) - (k : Int)) = isBound Y ((Y.length : Int) - (k : Int)) := by unfold cutOk; rw [HY1.out]; rfl
              have hbd := bound_ends h1 h2 ((HDL.out k h1 h2).2 hks)
              obtain ⟨z, hz⟩ : ∃ z, isBound X ((X.length : Int) - (k : Int)) = z := ⟨_, rfl⟩
              have HZ := Lib.hid hz
              have HC1 := Lib.hid (c1.trans hz)
              have HC2 := Lib.hid (c2.trans (hbd.symm.trans hz))
              clear hz hbd c1 c2
              go_wp2_with fail
              refine (specCutOk_any A2 X (c - t) ((X.length : Int) - (k : Int)) _ hXc (by omega) (by exact hBX)).mono ?_
              rintro e w5 ⟨rfl, hb5⟩
              rw [HC1.out]
              have hbx := below_then hbx hb5
              have hBY := hBY.below hb5
              cases z
              · go_wp2
                go_roundw
                case rel => exact ⟨k + 1, by go_num, by
                  cases k with
                  | zero => exact absurd (HZ.out.symm.trans (show isBound X ((X.length : Int) - ((0 : Nat) : Int)) = true by simpa using isBound_end X)) Bool.false_ne_true
                  | succ j => rw [show j + 1 + 1 - 1 = j + 1 by omega, sufTo_next X j HZ.out]; rfl, by omega, hbx⟩
                case measure => first | (simp [intOf]; done) | (simp [intOf]; omega)
              · go_wp2_with fail
                refine (specCutOk_any A3 Y (d - t) ((Y.length : Int) - (k : Int)) _ hYc (by omega) (by exact hBY)).mono ?_
                rintro e w6 ⟨rfl, hb6⟩
                rw [HC2.out]
                have hbx := below_then hbx hb6
                go_wp2
                go_roundw
                case rel => exact ⟨k + 1, by go_num, by rw [show k + 1 - 1 = k by omega, sufTo_here X k HZ.out], by omega, hbx⟩
                case measure => first | (simp [intOf]; done) | (simp [intOf]; omega)
            · have hd : decide (k ≤ s) = false := decide_eq_false hks
              rw [hd]
              have hkk : k - 1 = s := by omega
              rw [hkk, ← HEQ.out]
              clear hd hkk
              have bR := bR.below hbx
              have hb5 := below_then hb4 hbx
              have hz5 := hb5.size
              have hB3R := HB3.out.below hbx
              have hRl : Y.length - f = R.length := by rw [HR1.out, List.length_take]; omega
              have bR3 : Bs wr A3 R := by rw [HR1.out]; exact hB3R.head9 (Y.length - f) (by omega)
              have hs7 : ∀ W, (Instr.slice 22 (.slice A3 Y.length (d - t)) none (some (.int .i64 ((Y.length : Int) - (f : Int)))) none).run Tryd.prog W = .ok (.slice A3 R.length (d - t)) W := fun W => by
                have := slc_head A3 Y.length (d - t) (Y.length - f) hp3 hp3' (by omega) W
                rw [hRl] at this
                rw [show (Y.length : Int) - (f : Int) = (R.length : Int) by omega]
                exact this
              have hR9 : R.length ≤ 400 := by omega
              have hfX : f ≤ X.length ∧ f ≤ Y.length := by omega
              have hown0 : Own (wr.alloc (.cells #[] 5)) wr.heap.size (.slice (some ⟨wr.heap.size, 0, none⟩) 0 0) [] := World.ownsRow_made wr #[] 0 (Nat.le_refl _) (by unfold maxLen; omega) rfl
              have hal := (Below.refl wr.heap.size wr).alloc (Nat.le_refl _) (.cells #[] 5)
              have bR3 := bR3.below hal
              have HAL := Lib.hid hal
              have HO0 := Lib.hid hown0
              have HRL := Lib.hid hRl
              have hltr := bR.lt
              have HBR := Lib.hid bR
              clear hal hown0 hRl hB3R
              go_wp2_with (at_builtin; go_must (refine wpList_app_bytes rfl _ _ rfl wr.heap.size _ [] R A3 R.length (d - t) rfl rfl rfl HO0.out bR3 ?c1 ?c2 ?_))
              case c1 => simp; omega
              case c2 => simp
              intro v9 w9 hown9 hg9 _
              have hb9 := HAL.out.grown hg9 (by simp) (fun x hx => (World.ownsRow.lt HO0.out x hx).1)
              have bR := HBR.out.below hb9
              have hb9 := below_then hb5 hb9
              obtain ⟨A9, c9, rfl, _, _, _⟩ := hown9.form
              have r0 := bR.c0
              have r1 := bR.c1
              have r2 := bR.c2
              have f0 := bR.blk.frozen 0
              have f1 := bR.blk.frozen 1
              have f2 := bR.blk.frozen 2
              have hlt := bR.lt
              go_wp2
              refine bodyPost_ret (v := .tuple #[.agg #[.int .i64 (t : Int), .int .i64 ((X.length : Int) - (f : Int)), .slice A9 R.length c9], .bool true]) (by simp [results, Tryd.results22, go_sem, r0, r1, r2]) rfl ⟨.slice A9 R.length c9, by rw [HRA.out, HRM.out]; rfl, ?_, ?_⟩
              · have h9 : ∀ (W : World) (i : Nat) (u : Value), Own W wr.heap.size (.slice A9 R.length c9) R → Own (W.setCell ⟨w.heap.size, i, none⟩ u) wr.heap.size (.slice A9 R.length c9) R := fun W i u h => h.setBelow (by simpa using hltr) u
                exact (h9 _ _ _ (h9 _ _ _ (h9 _ _ _ hown9))).mono hz5
              · (repeat (first | exact Below.refl _ _ | assumption | refine Below.setCell ?_ (by first | (simp; done) | (simp; omega) | omega) _ | refine Below.drew ?_ | refine below_drewN ?_ _ | refine Below.alloc ?_ (by first | (simp; done) | (simp; omega) | omega) _))
end Go.Proofs.YtkplfbhblbinaaaDoor
