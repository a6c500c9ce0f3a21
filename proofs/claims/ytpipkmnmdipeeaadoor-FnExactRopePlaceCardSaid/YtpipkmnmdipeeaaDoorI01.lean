/-
  Chapter 1, the program's functions: contracts. Own work.
-/
import Derived.Test.YtpipkmnmdipeeaaDoorP01
import Derived.Test.YtpipkmnmdipeeaaDoorBs
namespace Go.Proofs.YtpipkmnmdipeeaaDoor
open Go.RowKit P
set_option linter.unusedVariables false


set_option maxHeartbeats 400000 in
theorem codeSize_any (r : Int) (w : World) : Calls Tryd.prog 112 #[.int .i64 r] w fun e w' => e = .returned (.int .i64 (codeSz r)) ∧ w' = w := by
  go_enter Tryd.func112, Tryd.ntmps112
  go_wp2
  all_goals go_ret
  all_goals refine ⟨ret_int ?_, rfl⟩
  all_goals (unfold codeSz; (repeat' split) <;> omega)

set_option maxHeartbeats 400000 in
theorem formSize_any (b : Int) (h0 : 0 ≤ b) (h1 : b ≤ 255) (w : World) : Calls Tryd.prog 123 #[.int .u8 b] w fun e w' => e = .returned (.int .i64 (formSz b.toNat)) ∧ w' = w := by
  go_enter Tryd.func123, Tryd.ntmps123
  go_wp2
  all_goals go_ret
  all_goals refine ⟨ret_int ?_, rfl⟩
  all_goals (unfold formSz; (repeat' split) <;> omega)

theorem isCont_all : ∀ n : Fin 256, (bits .andNot .u8 (n.1 : Int) 63 == 128) = isCont n.1 := by decide +kernel
theorem cont_all : ∀ n : Fin 64, bits .or .u8 128 (n.1 : Int) = 128 + (n.1 : Int) := by decide +kernel
theorem low6_all : ∀ n : Fin 256, bits .and .u8 (n.1 : Int) 63 = (n.1 : Int) % 64 := by decide +kernel

theorem ofInt_i64 (a : Nat) (ha : a < 9223372036854775808) : (BitVec.ofInt 64 (a : Int)).toNat = a := by
  rw [BitVec.ofInt_natCast, BitVec.toNat_ofNat]; exact Nat.mod_eq_of_lt (by omega)
theorem i64_and63 (r : Int) (h : 0 ≤ r) (h2 : r ≤ 1114111) : bits .and .i64 r 63 = r % 64 := by
  obtain ⟨a, rfl⟩ := Int.eq_ofNat_of_zero_le h
  show IntKind.i64.wrap ((BitVec.ofInt 64 (a : Int) &&& BitVec.ofInt 64 ((63 : Nat) : Int)).toNat : Int) = _
  rw [BitVec.toNat_and, ofInt_i64 a (by omega), ofInt_i64 63 (by omega), IntKind.wrap_i64]
  have : a &&& 63 = a % 64 := Nat.and_two_pow_sub_one_eq_mod a 6
  rw [this]
  omega
theorem i64_or (a b : Nat) (ha : a < 9223372036854775808) (hb : b < 9223372036854775808) : bits .or .i64 (a : Int) (b : Int) = ((a ||| b : Nat) : Int) := by
  have hx : a ||| b < 2 ^ 63 := Nat.or_lt_two_pow (by omega) (by omega)
  show IntKind.i64.wrap ((BitVec.ofInt 64 (a : Int) ||| BitVec.ofInt 64 (b : Int)).toNat : Int) = _
  rw [BitVec.toNat_or, ofInt_i64 a ha, ofInt_i64 b hb, IntKind.wrap_i64]
  omega
/-- a shifted by six, with six low bits more -/
theorem or6 (a b : Int) (h0 : 0 ≤ a) (h1 : a ≤ 1000000000) (h2 : 0 ≤ b) (h3 : b ≤ 63) : bits .or .i64 (a * 64) b = a * 64 + b := by
  obtain ⟨m, rfl⟩ := Int.eq_ofNat_of_zero_le h0
  obtain ⟨n, rfl⟩ := Int.eq_ofNat_of_zero_le h2
  have e : ((m : Int) * 64) = ((m * 64 : Nat) : Int) := by omega
  rw [e, i64_or _ _ (by omega) (by omega)]
  have : m * 64 ||| n = m * 64 + n := by
    have := (Nat.two_pow_add_eq_or_of_lt (i := 6) (b := n) (by omega) m).symm
    rw [Nat.mul_comm] at this
    exact this
  rw [this]
  omega

set_option maxHeartbeats 400000 in
theorem isContinuation_any (b : Int) (h0 : 0 ≤ b) (h1 : b ≤ 255) (w : World) : Calls Tryd.prog 116 #[.int .u8 b] w fun e w' => e = .returned (.bool (isCont b.toNat)) ∧ w' = w := by
  go_enter Tryd.func116, Tryd.ntmps116
  go_wp2
  go_ret
  refine ⟨ret_bool ?_, rfl⟩
  obtain ⟨n, rfl⟩ := Int.eq_ofNat_of_zero_le h0
  exact isCont_all ⟨n, by omega⟩

set_option maxHeartbeats 400000 in
theorem isBoundary_any (A : Option Addr) (l : List UInt8) (c : Nat) (at_ : Int) (w : World) (hl : l.length ≤ 9223372036854775807) (hA : Bs w A l) :
    Calls Tryd.prog 95 #[.slice A l.length c, .int .i64 at_] w fun e w' => e = .returned (.bool (isBound l at_)) ∧ w' = w := by
  by_cases h1 : at_ < 0 ∨ (l.length : Int) < at_
  · have hr := isBound_out l at_ h1
    have HR := Lib.hid hr
    clear hr
    go_enter Tryd.func95, Tryd.ntmps95
    go_wp2
    all_goals go_ret
    all_goals exact ⟨ret_bool HR.out.symm, rfl⟩
  · have h2 : ¬ at_ < 0 := by omega
    have h3 : ¬ (l.length : Int) < at_ := by omega
    obtain ⟨k, rfl⟩ := Int.eq_ofNat_of_zero_le (show 0 ≤ at_ by omega)
    by_cases h4 : k < l.length
    · obtain ⟨b, off, rfl, hlt, hc⟩ := hA k h4
      have h5 : ((k : Int) == (l.length : Int)) = false := by simp; omega
      have hu := (l[k]).toNat_lt
      have hr := isBound_lt l k h4
      have HR := Lib.hid hr
      clear hr
      go_enter Tryd.func95, Tryd.ntmps95
      go_wp2_with (go_at_call 116; refine (isContinuation_any _ (by omega) (by omega) _).mono ?_; rintro e w' ⟨rfl, rfl⟩)
      go_ret
      exact ⟨ret_bool (by rw [HR.out]), rfl⟩
    · have h5 : ((k : Int) == (l.length : Int)) = true := by simp; omega
      have hr : isBound l k = true := by
        obtain rfl : k = l.length := by omega
        exact isBound_end l
      have HR := Lib.hid hr
      clear hr
      go_enter Tryd.func95, Tryd.ntmps95
      go_wp2
      go_ret
      exact ⟨ret_bool HR.out.symm, rfl⟩

end Go.Proofs.YtpipkmnmdipeeaaDoor
