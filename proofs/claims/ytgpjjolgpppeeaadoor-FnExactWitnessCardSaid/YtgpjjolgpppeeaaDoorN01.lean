/-
  Chapter 9, small functions of both sides: contracts. Own work.
-/
import Derived.Test.YtgpjjolgpppeeaaDoorP18
import Derived.Test.YtgpjjolgpppeeaaDoorN00
import Derived.Test.YtgpjjolgpppeeaaDoorI01
import Derived.Test.YtgpjjolgpppeeaaDoorS01
import Derived.Test.YtgpjjolgpppeeaaDoorOwn
namespace Go.Proofs.YtgpjjolgpppeeaaDoor
open Go.RowKit P
set_option linter.unusedVariables false
set_option linter.unusedSimpArgs false

set_option maxHeartbeats 400000 in
theorem fitsWord_any (n : Int) (w : World) : Calls Tryd.prog 105 #[.int .i64 n] w fun e w' => e = .returned (.bool (isW n)) ∧ w' = w := by
  by_cases h : 0 ≤ n
  · go_enter Tryd.func105, Tryd.ntmps105
    go_wp2
    go_ret
    exact ⟨ret_bool (by unfold isW; simp [h]), rfl⟩
  · have HF : Hid (isW n = false) := Lib.hid (by unfold isW; simp; omega)
    go_enter Tryd.func105, Tryd.ntmps105
    go_wp2
    go_ret
    exact ⟨ret_bool HF.out.symm, rfl⟩

set_option maxHeartbeats 400000 in
theorem l09Word_any (n : Int) (w : World) : Calls Tryd.prog 78 #[.int .i64 n] w fun e w' => e = .returned (.bool (isW n)) ∧ w' = w := by
  by_cases h : 0 ≤ n
  · go_enter Tryd.func78, Tryd.ntmps78
    go_wp2
    go_ret
    exact ⟨ret_bool (by unfold isW; simp [h]), rfl⟩
  · have HF : Hid (isW n = false) := Lib.hid (by unfold isW; simp; omega)
    go_enter Tryd.func78, Tryd.ntmps78
    go_wp2
    go_ret
    exact ⟨ret_bool HF.out.symm, rfl⟩

theorem gb_get (l : List UInt8) (k : Nat) (h : k < l.length) : gb l k = ((l[k]).toNat : Int) := by
  unfold gb; rw [List.getD_eq_getElem?_getD, List.getElem?_eq_getElem h, Option.getD_some]
theorem wd_get (l : List UInt8) (k : Nat) (h : k + 1 < l.length) : wd l k = 256 * ((l[k]).toNat : Int) + ((l[k + 1]).toNat : Int) := by
  unfold wd
  rw [List.getD_eq_getElem?_getD, List.getElem?_eq_getElem (show k < l.length by omega), Option.getD_some, List.getD_eq_getElem?_getD, List.getElem?_eq_getElem h, Option.getD_some]

set_option maxHeartbeats 800000 in
theorem l09At_any (A : Option Addr) (l : List UInt8) (c k : Nat) (w : World) (hl : l.length ≤ 9223372036854775807) (hk : k + 1 < l.length) (hA : Bs w A l) :
    Calls Tryd.prog 97 #[.slice A l.length c, .int .i64 k] w fun e w' => e = .returned (.int .i64 (wd l k)) ∧ ∃ n, w' = w.drewN n := by
  have hw := wd_get l k hk
  have HW := Lib.hid hw
  clear hw
  have hu1 := (l[k]).toNat_lt
  have hu2 := (l[k + 1]).toNat_lt
  obtain ⟨b, off, rfl, hlt, hc1⟩ := hA k (by omega)
  obtain ⟨b2, off2, he, hlt2, hc2⟩ := hA (k + 1) hk
  cases he
  have hk1 : k < l.length := by omega
  have hki : ((k : Int) + 1) < (l.length : Int) := by omega
  have hwr : IntKind.i64.wrap ((k : Int) + 1) = ((k + 1 : Nat) : Int) := by rw [IntWalk.i64_in _ ⟨by omega, by omega⟩]; rfl
  go_enter Tryd.func97, Tryd.ntmps97
  go_wp2
  go_quiet (fail)
  go_wp2
  go_ret
  exact ⟨ret_int (by rw [HW.out]), _, rfl⟩

/-- A byte's room and a byte. -/
theorem or8 (a b : Int) (h0 : 0 ≤ a) (h1 : a ≤ 1000000000) (h2 : 0 ≤ b) (h3 : b ≤ 255) : bits .or .i64 (a * 256) b = a * 256 + b := by
  obtain ⟨m, rfl⟩ := Int.eq_ofNat_of_zero_le h0
  obtain ⟨n, rfl⟩ := Int.eq_ofNat_of_zero_le h2
  have e : ((m : Int) * 256) = ((m * 256 : Nat) : Int) := by omega
  rw [e, i64_or _ _ (by omega) (by omega)]
  have : m * 256 ||| n = m * 256 + n := by
    have := (Nat.two_pow_add_eq_or_of_lt (i := 8) (b := n) (by omega) m).symm
    rw [Nat.mul_comm] at this
    exact this
  rw [this]
  omega

set_option maxHeartbeats 800000 in
theorem wordAt_any (A : Option Addr) (l : List UInt8) (c k : Nat) (w : World) (hl : l.length ≤ 9223372036854775807) (hk : k + 1 < l.length) (hA : Bs w A l) :
    Calls Tryd.prog 81 #[.slice A l.length c, .int .i64 k] w fun e w' => e = .returned (.int .i64 (wd l k)) ∧ ∃ n, w' = w.drewN n := by
  have hw := wd_get l k hk
  have HW := Lib.hid hw
  clear hw
  have hu1 := (l[k]).toNat_lt
  have hu2 := (l[k + 1]).toNat_lt
  obtain ⟨b, off, rfl, hlt, hc1⟩ := hA k (by omega)
  obtain ⟨b2, off2, he, hlt2, hc2⟩ := hA (k + 1) hk
  cases he
  have hk1 : k < l.length := by omega
  have hki : ((k : Int) + 1) < (l.length : Int) := by omega
  go_enter Tryd.func81, Tryd.ntmps81
  go_wp2
  go_quiet (fail)
  go_wp2
  go_ret
  exact ⟨ret_int (by rw [HW.out, or8 _ _ (by omega) (by omega) (by omega) (by omega)]; omega), _, rfl⟩
end Go.Proofs.YtgpjjolgpppeeaaDoor
