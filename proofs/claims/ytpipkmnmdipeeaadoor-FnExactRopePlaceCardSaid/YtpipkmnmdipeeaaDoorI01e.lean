/-
  Chapter 1, the program's CutOk, RunesTo, RuneCount, PlaceOf: contracts. Own work.
-/
import Derived.Test.YtpipkmnmdipeeaaDoorI01d
namespace Go.Proofs.YtpipkmnmdipeeaaDoor
open Go.RowKit P
set_option linter.unusedVariables false

set_option maxHeartbeats 400000 in
theorem cutOk_any (A : Option Addr) (l : List UInt8) (c : Nat) (at_ : Int) (w : World) (hl : l.length ≤ c) (hc9 : c ≤ 9223372036854775807) (hT : Tab w) (hA : Bs w A l) :
    Calls Tryd.prog 120 #[.slice A l.length c, .int .i64 at_] w fun e w' => e = .returned (.bool (cutOk l at_)) ∧ ∃ n, w' = w.drewN n := by
  unfold cutOk
  generalize ht : isText l = t
  have HT := Lib.hid ht
  clear ht
  cases t
  · go_enter Tryd.func120, Tryd.ntmps120
    go_wp2_with (go_at_call 57; refine (textOk_any A l c _ hl hc9 (by exact hT) (by exact hA)).mono ?_; rintro e w1 ⟨rfl, n, rfl⟩; rw [HT.out])
    go_ret
    exact ⟨rfl, _, rfl⟩
  · go_enter Tryd.func120, Tryd.ntmps120
    go_wp2_with fail
    refine (textOk_any A l c _ hl hc9 (by exact hT) (by exact hA)).mono ?_
    rintro e w1 ⟨rfl, n, rfl⟩
    rw [HT.out]
    go_wp2_with fail
    refine (isBoundary_any A l c at_ _ (by omega) (by exact hA)).mono ?_
    rintro e w1 ⟨rfl, rfl⟩
    go_wp2
    go_ret
    exact ⟨rfl, n, rfl⟩

theorem runesBefore_succ (l : List UInt8) (k : Nat) : runesBefore l (k + 1) = runesBefore l k + if isBound l k = true then 1 else 0 := by
  unfold runesBefore
  rw [List.range_succ, List.filter_append, List.length_append]
  congr 1
  by_cases h : isBound l k = true <;> simp [h]

theorem runesBefore_le (l : List UInt8) (k : Nat) : runesBefore l k ≤ k := by
  unfold runesBefore
  have := List.length_filter_le (fun k : Nat => isBound l k) (List.range k)
  simpa using this

set_option maxHeartbeats 800000 in
theorem runesTo_any (A : Option Addr) (l : List UInt8) (c : Nat) (at_ : Int) (w : World) (hl : l.length ≤ c) (hc9 : c ≤ 9223372036854775807) (hT : Tab w) (hA : Bs w A l) :
    Calls Tryd.prog 108 #[.slice A l.length c, .int .i64 at_] w fun e w' => e = .returned (.int .i64 (runesTo l at_)) ∧ ∃ n, w' = w.drewN n := by
  generalize hq : cutOk l at_ = q
  have HQ := Lib.hid hq
  cases q
  · have hres : runesTo l at_ = -1 := by unfold runesTo; rw [if_neg]; intro h; unfold cutOk at hq; rw [h.1, h.2] at hq; simp at hq
    have HR := Lib.hid hres
    clear hres hq
    go_enter Tryd.func108, Tryd.ntmps108
    go_wp2_with (go_at_call 120; refine (cutOk_any A l c at_ _ hl hc9 (by exact hT) (by exact hA)).mono ?_; rintro e w1 ⟨rfl, n, rfl⟩; rw [HQ.out])
    go_ret
    exact ⟨ret_int HR.out.symm, _, rfl⟩
  · have hb : isText l = true ∧ isBound l at_ = true := by unfold cutOk at hq; simpa using hq
    have hlen : 0 ≤ at_ ∧ at_ ≤ l.length := by
      have := hb.2; unfold isBound at this; simp only [Bool.and_eq_true, decide_eq_true_eq] at this; exact this.1
    obtain ⟨m, rfl⟩ := Int.eq_ofNat_of_zero_le hlen.1
    have hm : m ≤ l.length := by omega
    have hres : runesTo l (m : Int) = runesBefore l m := by unfold runesTo; rw [if_pos hb, Int.toNat_natCast]
    have HR := Lib.hid hres
    clear hres hq hb hlen
    go_enter Tryd.func108, Tryd.ntmps108
    go_wp2_with (go_at_call 120; refine (cutOk_any A l c m _ hl hc9 (by exact hT) (by exact hA)).mono ?_; rintro e w1 ⟨rfl, n, rfl⟩; rw [HQ.out])
    go_loopw [5, 12] (fun cnt i wr => ∃ k n : Nat, k ≤ m ∧ i = .int .i64 k ∧ cnt = .int .i64 (runesBefore l k) ∧ wr = w.drewN n) (fun _ i _ => m - (intOf i).toNat)
    case atStart => exact ⟨0, n, Nat.zero_le _, rfl, rfl, rfl⟩
    case round =>
      obtain ⟨k, n', hkm, rfl, rfl, rfl⟩ := hrel
      by_cases hlt : k < m
      · have hs := runesBefore_succ l k
        have hle := runesBefore_le l k
        have HS := Lib.hid hs
        clear hs
        generalize hbk : isBound l (k : Int) = q2
        have HB := Lib.hid hbk
        clear hbk
        cases q2
        · go_wp2_with (go_at_call 95; refine (isBoundary_any A l c k _ (by omega) (by exact hA)).mono ?_; rintro e w1 ⟨rfl, rfl⟩; rw [HB.out])
          go_roundw
          case rel => exact ⟨k + 1, n', by omega, by go_num, by rw [HS.out, HB.out]; simp, rfl⟩
          case measure => simp [intOf]; omega
        · go_wp2_with (go_at_call 95; refine (isBoundary_any A l c k _ (by omega) (by exact hA)).mono ?_; rintro e w1 ⟨rfl, rfl⟩; rw [HB.out])
          go_roundw
          case rel => exact ⟨k + 1, n', by omega, by go_num, by rw [HS.out, HB.out]; simp, rfl⟩
          case measure => simp [intOf]; omega
      · have e : k = m := by omega
        subst e
        go_wp2
        go_ret
        exact ⟨ret_int HR.out.symm, n', rfl⟩

set_option maxHeartbeats 400000 in
theorem runeCount_any (A : Option Addr) (l : List UInt8) (c : Nat) (w : World) (hl : l.length ≤ c) (hc9 : c ≤ 9223372036854775807) (hT : Tab w) (hA : Bs w A l) :
    Calls Tryd.prog 79 #[.slice A l.length c] w fun e w' => e = .returned (.int .i64 (runeCount l)) ∧ ∃ n, w' = w.drewN n := by
  unfold runeCount
  go_enter Tryd.func79, Tryd.ntmps79
  go_wp2_with fail
  refine (runesTo_any A l c _ _ hl hc9 (by exact hT) (by exact hA)).mono ?_
  rintro e w1 ⟨rfl, n, rfl⟩
  go_wp2
  go_ret
  exact ⟨rfl, n, rfl⟩

/-- The boundaries from k on, the n-th of them. -/
theorem cuts_split (l : List UInt8) (k : Nat) (hk : k ≤ l.length + 1) : cuts l = (List.range k).filter (fun j : Nat => isBound l j) ++ ((List.range (l.length + 1 - k)).map (k + ·)).filter (fun j : Nat => isBound l j) := by
  unfold cuts
  have e : l.length + 1 = k + (l.length + 1 - k) := by omega
  conv => lhs; rw [e, List.range_add, List.filter_append]

set_option maxHeartbeats 800000 in
theorem placeOf_any (A : Option Addr) (l : List UInt8) (c : Nat) (n : Int) (w : World) (hn9 : n ≤ 9223372036854775807) (hl : l.length ≤ c) (hc9 : c ≤ 9223372036854775807) (hT : Tab w) (hA : Bs w A l) :
    Calls Tryd.prog 82 #[.slice A l.length c, .int .i64 n] w fun e w' => e = .returned (.int .i64 (placeOf l n)) ∧ ∃ m, w' = w.drewN m := by
  by_cases hn : n < 0
  · have hres : placeOf l n = -1 := by unfold placeOf; rw [if_neg]; omega
    have HR := Lib.hid hres
    clear hres
    go_enter Tryd.func82, Tryd.ntmps82
    go_wp2
    go_ret
    exact ⟨ret_int HR.out.symm, 0, rfl⟩
  · obtain ⟨m, rfl⟩ := Int.eq_ofNat_of_zero_le (show 0 ≤ n by omega)
    generalize hq : isText l = q
    have HQ := Lib.hid hq
    cases q
    · have hres : placeOf l (m : Int) = -1 := by unfold placeOf; rw [if_neg]; rw [hq]; simp
      have HR := Lib.hid hres
      clear hres hq
      go_enter Tryd.func82, Tryd.ntmps82
      go_wp2_with (go_at_call 57; refine (textOk_any A l c _ hl hc9 (by exact hT) (by exact hA)).mono ?_; rintro e w1 ⟨rfl, n, rfl⟩; rw [HQ.out])
      go_ret
      exact ⟨ret_int HR.out.symm, _, rfl⟩
    · have hlen : l.length ≤ 400 := by unfold isText at hq; simp at hq; exact hq.1
      have hres : placeOf l (m : Int) = placeIn (cuts l)[m]? := by
        unfold placeOf; rw [if_pos ⟨hq, by omega⟩, Int.toNat_natCast]
      have HR := Lib.hid hres
      clear hres hq
      go_enter Tryd.func82, Tryd.ntmps82
      go_wp2_with (go_at_call 57; refine (textOk_any A l c _ hl hc9 (by exact hT) (by exact hA)).mono ?_; rintro e w1 ⟨rfl, n, rfl⟩; rw [HQ.out])
      go_loopw [1, 16] (fun nn i wr => ∃ k j n : Nat, k ≤ l.length + 1 ∧ i = .int .i64 k ∧ nn = .int .i64 j ∧ m = runesBefore l k + j ∧ wr = w.drewN n) (fun _ i _ => l.length + 1 - (intOf i).toNat)
      case atStart => exact ⟨0, m, n, by omega, rfl, rfl, by simp [runesBefore], rfl⟩
      case round =>
        obtain ⟨k, j, n', hkm, rfl, rfl, hm, rfl⟩ := hrel
        have HM := Lib.hid hm
        by_cases hlt : k < l.length + 1
        · have hs := runesBefore_succ l k
          have hspl := cuts_split l k (by omega)
          have HS := Lib.hid hs
          have HP := Lib.hid hspl
          clear hs hspl hm
          generalize hbk : isBound l (k : Int) = q2
          have HB := Lib.hid hbk
          clear hbk
          cases q2
          · go_wp2_with (go_at_call 95; refine (isBoundary_any A l c k _ (by omega) (by exact hA)).mono ?_; rintro e w1 ⟨rfl, rfl⟩; rw [HB.out])
            go_roundw
            case rel => exact ⟨k + 1, j, n', by omega, by go_num, rfl, by rw [HS.out, HB.out]; simpa using HM.out, rfl⟩
            case measure => simp [intOf]; omega
          · by_cases hj : j = 0
            · have HJ := Lib.hid hj
              have hj0 : ((j : Int) == 0) = true := by simp [hj]
              clear hj
              go_wp2_with (go_at_call 95; refine (isBoundary_any A l c k _ (by omega) (by exact hA)).mono ?_; rintro e w1 ⟨rfl, rfl⟩; rw [HB.out])
              go_ret
              refine ⟨ret_int ?_, n', rfl⟩
              rw [HR.out, HP.out, HM.out, HJ.out]
              have e1 : l.length + 1 - k = (l.length - k) + 1 := by omega
              rw [e1, List.range_succ_eq_map]
              rw [List.getElem?_append_right (by unfold runesBefore; omega)]
              have e2 : runesBefore l k + 0 - (List.filter (fun j : Nat => isBound l j) (List.range k)).length = 0 := by unfold runesBefore; omega
              rw [e2]
              simp [HB.out, placeIn]
            · have hj0 : ((j : Int) == 0) = false := by simp; omega
              have HJ := Lib.hid hj
              have hj1 : 1 ≤ j := by omega
              have hj2 : (j : Int) ≤ 9223372036854775807 := by have := HM.out; omega
              clear hj
              go_wp2_with (go_at_call 95; refine (isBoundary_any A l c k _ (by omega) (by exact hA)).mono ?_; rintro e w1 ⟨rfl, rfl⟩; rw [HB.out])
              go_roundw
              case rel => exact ⟨k + 1, j - 1, n', by omega, by go_num, by go_num, by rw [HS.out, HB.out]; have := HM.out; simp; omega, rfl⟩
              case measure => simp [intOf]; omega
        · have e : k = l.length + 1 := by omega
          subst e
          clear hm
          go_wp2
          go_ret
          refine ⟨ret_int ?_, n', rfl⟩
          rw [HR.out]
          have : (cuts l)[m]? = none := by
            rw [List.getElem?_eq_none]
            have := HM.out
            unfold runesBefore at this
            unfold cuts
            omega
          rw [this]
          rfl
end Go.Proofs.YtpipkmnmdipeeaaDoor
