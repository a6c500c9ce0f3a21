/-
  Chapter 1, the model's TextOk, RuneCount, PlaceOf, RunesTo, CutOk: contracts. Own work.
-/
import Derived.Test.YtpgeanombiociaaDoorS01d
namespace Go.Proofs.YtpgeanombiociaaDoor
open Go.RowKit P
set_option linter.unusedVariables false

theorem cutsOr_le (l : List UInt8) : (cutsOr l).length ≤ 401 := by
  unfold cutsOr
  split
  · rename_i h
    have h4 : l.length ≤ 400 := by unfold isText at h; simp at h; exact h.1
    rw [cuts_length]
    have := runesBefore_le l l.length
    omega
  · simp

set_option maxHeartbeats 400000 in
theorem specTextOk_any (A : Option Addr) (l : List UInt8) (c : Nat) (w : World) (hl : l.length ≤ c) (hc9 : c ≤ 9223372036854775807) (hA : Bs w A l) :
    Calls Tryd.prog 24 #[.slice A l.length c] w fun e w' => e = .returned (.bool (isText l)) ∧ Below w.heap.size w w' := by
  have ht := isText_cuts l
  have hle := cutsOr_le l
  have HT := Lib.hid ht
  clear ht
  go_enter Tryd.func24, Tryd.ntmps24
  go_wp2_with fail
  refine (l01Cuts_any A l c _ hl hc9 (by exact hA)).mono ?_
  rintro e w1 ⟨v, rfl, hown, hb⟩
  obtain ⟨A1, c1, rfl, _, _, _⟩ := hown.form
  go_wp2
  go_ret
  exact ⟨ret_bool (by rw [HT.out]), hb⟩

set_option maxHeartbeats 400000 in
theorem specRuneCount_any (A : Option Addr) (l : List UInt8) (c : Nat) (w : World) (hl : l.length ≤ c) (hc9 : c ≤ 9223372036854775807) (hA : Bs w A l) :
    Calls Tryd.prog 71 #[.slice A l.length c] w fun e w' => e = .returned (.int .i64 (runeCount l)) ∧ Below w.heap.size w w' := by
  have ht := runeCount_cuts l
  have hle := cutsOr_le l
  have HT := Lib.hid ht
  clear ht
  go_enter Tryd.func71, Tryd.ntmps71
  go_wp2_with fail
  refine (l01Cuts_any A l c _ hl hc9 (by exact hA)).mono ?_
  rintro e w1 ⟨v, rfl, hown, hb⟩
  obtain ⟨A1, c1, rfl, _, _, _⟩ := hown.form
  go_wp2
  go_ret
  exact ⟨ret_int (by rw [HT.out]), hb⟩

end Go.Proofs.YtpgeanombiociaaDoor
