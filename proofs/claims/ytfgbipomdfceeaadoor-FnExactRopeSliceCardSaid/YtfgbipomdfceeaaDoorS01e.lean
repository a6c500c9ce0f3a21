/-
  Chapter 1, the model's TextOk, RuneCount, PlaceOf, RunesTo, CutOk: contracts. Own work.
-/
import Derived.Test.YtfgbipomdfceeaaDoorS01d
namespace Go.Proofs.YtfgbipomdfceeaaDoor
open Go.RowKit P
set_option linter.unusedVariables false

theorem cutsOr_le (l : List UInt8) : (cutsOr l).length ≤ 401 := by
  unfold cutsOr
  split
  · rename_i h
    have h4 : l.length ≤ 400 := by unfold isText at h; simp at h; exact h.1
    rw [cuts_length]
    have := runesBefore_le l l.length
    omega
  · simp

set_option maxHeartbeats 400000 in
theorem specTextOk_any (A : Option Addr) (l : List UInt8) (c : Nat) (w : World) (hl : l.length ≤ c) (hc9 : c ≤ 9223372036854775807) (hA : Bs w A l) :
    Calls Tryd.prog 53 #[.slice A l.length c] w fun e w' => e = .returned (.bool (isText l)) ∧ Below w.heap.size w w' := by
  have ht := isText_cuts l
  have hle := cutsOr_le l
  have HT := Lib.hid ht
  clear ht
  go_enter Tryd.func53, Tryd.ntmps53
  go_wp2_with fail
  refine (l01Cuts_any A l c _ hl hc9 (by exact hA)).mono ?_
  rintro e w1 ⟨v, rfl, hown, hb⟩
  obtain ⟨A1, c1, rfl, _, _, _⟩ := hown.form
  go_wp2
  go_ret
  exact ⟨ret_bool (by rw [HT.out]), hb⟩

set_option maxHeartbeats 400000 in
theorem specRuneCount_any (A : Option Addr) (l : List UInt8) (c : Nat) (w : World) (hl : l.length ≤ c) (hc9 : c ≤ 9223372036854775807) (hA : Bs w A l) :
    Calls Tryd.prog 68 #[.slice A l.length c] w fun e w' => e = .returned (.int .i64 (runeCount l)) ∧ Below w.heap.size w w' := by
  have ht := runeCount_cuts l
  have hle := cutsOr_le l
  have HT := Lib.hid ht
  clear ht
  go_enter Tryd.func68, Tryd.ntmps68
  go_wp2_with fail
  refine (l01Cuts_any A l c _ hl hc9 (by exact hA)).mono ?_
  rintro e w1 ⟨v, rfl, hown, hb⟩
  obtain ⟨A1, c1, rfl, _, _, _⟩ := hown.form
  go_wp2
  go_ret
  exact ⟨ret_int (by rw [HT.out]), hb⟩

set_option maxHeartbeats 800000 in
theorem specRunesTo_any (A : Option Addr) (l : List UInt8) (c : Nat) (a : Int) (w : World) (hl : l.length ≤ c) (hc9 : c ≤ 9223372036854775807) (hA : Bs w A l) :
    Calls Tryd.prog 95 #[.slice A l.length c, .int .i64 a] w fun e w' => e = .returned (.int .i64 (runesTo l a)) ∧ Below w.heap.size w w' := by
  have hle := cutsOr_le l
  have hf := runesTo_found l
  have hn := runesTo_none l a
  have HF := Lib.hid hf
  have HN := Lib.hid hn
  clear hf hn
  go_enter Tryd.func95, Tryd.ntmps95
  go_wp2_with fail
  refine (l01Cuts_any A l c _ hl hc9 (by exact hA)).mono ?_
  rintro e w1 ⟨v, rfl, hown, hb⟩
  obtain ⟨A1, c1, rfl, _, _, hcell⟩ := hown.form
  generalize hL : cutsOr l = L at *
  have HC := Lib.hid hcell
  clear hcell hL
  go_wp2
  go_loop [6] (fun i => ∃ k : Nat, k ≤ L.length ∧ i = .int .i64 k ∧ Hid (∀ j (h : j < L.length), j < k → ((L[j] : Nat) : Int) ≠ a)) (fun i => L.length - (intOf i).toNat)
  case atStart => exact ⟨0, Nat.zero_le _, rfl, fun j _ h => by omega⟩
  case round =>
    obtain ⟨k, hk, rfl, hno⟩ := hrel
    by_cases hlt : k < L.length
    · obtain ⟨b, off, rfl, hc⟩ := HC.out k hlt
      by_cases he : ((L[k] : Nat) : Int) = a
      · have het : (((L[k] : Nat) : Int) == a) = true := by simp [he]
        have HE := Lib.hid he
        clear he
        go_wp2
        go_ret
        refine ⟨ret_int ?_, hb⟩
        have := HF.out k hlt
        rw [HE.out] at this
        exact this.symm
      · have het : (((L[k] : Nat) : Int) == a) = false := by simp [he]
        have HE := Lib.hid he
        clear he
        go_wp2
        go_round
        case rel =>
          refine ⟨k + 1, by omega, by go_num, fun j h1 h2 => ?_⟩
          by_cases e : j = k
          · subst e; exact HE.out
          · exact hno j h1 (by omega)
        case measure => simp [intOf]; omega
    · have e : k = L.length := by omega
      subst e
      go_wp2
      go_ret
      exact ⟨ret_int (HN.out fun i h => hno i h h).symm, hb⟩

set_option maxHeartbeats 400000 in
theorem specCutOk_any (A : Option Addr) (l : List UInt8) (c : Nat) (a : Int) (w : World) (hl : l.length ≤ c) (hc9 : c ≤ 9223372036854775807) (hA : Bs w A l) :
    Calls Tryd.prog 52 #[.slice A l.length c, .int .i64 a] w fun e w' => e = .returned (.bool (cutOk l a)) ∧ Below w.heap.size w w' := by
  rw [cutOk_runesTo]
  go_enter Tryd.func52, Tryd.ntmps52
  go_wp2_with fail
  refine (specRunesTo_any A l c a _ hl hc9 (by exact hA)).mono ?_
  rintro e w1 ⟨rfl, hb⟩
  go_wp2
  go_ret
  exact ⟨rfl, hb⟩
end Go.Proofs.YtfgbipomdfceeaaDoor
