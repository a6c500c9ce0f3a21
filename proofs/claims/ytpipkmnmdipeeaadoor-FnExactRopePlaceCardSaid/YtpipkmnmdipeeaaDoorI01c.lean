/-
  Chapter 1, the program's RuneAt: contracts, one a form. Own work.
-/
import Derived.Test.YtpipkmnmdipeeaaDoorI01b
namespace Go.Proofs.YtpipkmnmdipeeaaDoor
open Go.RowKit P
set_option linter.unusedVariables false

set_option maxHeartbeats 400000 in
theorem runeAt_two (A : Option Addr) (l : List UInt8) (c k : Nat) (x : UInt8) (v r : Int) (w : World) (hl : l.length ≤ c) (hc9 : c ≤ 9223372036854775807) (hT : Tab w) (hA : Bs w A l) (hk : k + 2 ≤ l.length)
    (hs : formSz (l[k]).toNat = 2) (h1 : 192 ≤ (l[k]).toNat) (hx : (l.drop (k + 1)).take 1 = [x]) (hr : addC ((l[k]).toNat - 192) x.toNat = r) (hv : (codeSz r = 2 ∧ v = r) ∨ (codeSz r ≠ 2 ∧ v = -1)) :
    Calls Tryd.prog 113 #[.slice A l.length c, .int .i64 k] w fun e w' => e = .returned (.int .i64 v) ∧ ∃ n, w' = w.drewN n := by
  obtain ⟨b, off, rfl, hlt, hc⟩ := hA k (by omega)
  have hu := (l[k]).toNat_lt
  have HS := Lib.hid hs
  clear hs
  have HX := Lib.hid hx
  clear hx
  have hg := hT.c2
  have h1' : 192 ≤ ((l[k]).toNat : Int) := by omega
  have hsub := hA.sub (k + 1) 1
  rw [HX.out] at hsub
  have hcap : ¬ c = k + 1 := by omega
  have hv2 : (v = r ∧ ((codeSz r : Int) != 2) = false) ∨ (v = -1 ∧ ((codeSz r : Int) != 2) = true) := by
    rcases hv with ⟨h, e⟩ | ⟨h, e⟩
    · exact .inl ⟨e, by simp [h]⟩
    · exact .inr ⟨e, by simp; omega⟩
  clear hv
  have HV := Lib.hid hv2
  clear hv2
  have HR := Lib.hid hr
  clear hr
  go_enter Tryd.func113, Tryd.ntmps113
  go_wp2_with (go_at_call 123; refine (formSize_any _ (by omega) (by omega) _).mono ?_; rintro e w' ⟨rfl, rfl⟩; rw [Int.toNat_natCast, HS.out])
  go_quiet (fail)
  go_wp2_with fail
  refine (addContinuation_any _ x [] _ _ _ _ (by simp) (by omega) (by omega) (by omega) (by exact hsub)).mono ?_
  rintro e w1 ⟨A0, m0, rfl, hb0, rfl⟩
  have hd0 := addC_bd ((l[k]).toNat - 192 : Int) x.toNat 63 (by omega) (by omega)
  rw [HR.out]
  go_wp2_with fail
  refine (codeSize_any _ _).mono ?_
  rintro e w1 ⟨rfl, rfl⟩
  rcases HV.out with ⟨rfl, hne⟩ | ⟨rfl, hne⟩
  · go_wp2
    go_ret
    exact ⟨rfl, _, rfl⟩
  · go_wp2
    go_ret
    exact ⟨rfl, _, rfl⟩

set_option maxHeartbeats 400000 in
theorem runeAt_three (A : Option Addr) (l : List UInt8) (c k : Nat) (x y : UInt8) (v r : Int) (w : World) (hl : l.length ≤ c) (hc9 : c ≤ 9223372036854775807) (hT : Tab w) (hA : Bs w A l) (hk : k + 3 ≤ l.length)
    (hs : formSz (l[k]).toNat = 3) (h1 : 224 ≤ (l[k]).toNat) (hx : (l.drop (k + 1)).take 2 = [x, y]) (hr : addC (addC ((l[k]).toNat - 224) x.toNat) y.toNat = r) (hv : (codeSz r = 3 ∧ v = r) ∨ (codeSz r ≠ 3 ∧ v = -1)) :
    Calls Tryd.prog 113 #[.slice A l.length c, .int .i64 k] w fun e w' => e = .returned (.int .i64 v) ∧ ∃ n, w' = w.drewN n := by
  obtain ⟨b, off, rfl, hlt, hc⟩ := hA k (by omega)
  have hu := (l[k]).toNat_lt
  have HS := Lib.hid hs
  clear hs
  have HX := Lib.hid hx
  clear hx
  have hg := hT.c3
  have h1' : 224 ≤ ((l[k]).toNat : Int) := by omega
  have hsub := hA.sub (k + 1) 2
  rw [HX.out] at hsub
  have hcap : ¬ c = k + 1 := by omega
  have hv2 : (v = r ∧ ((codeSz r : Int) != 3) = false) ∨ (v = -1 ∧ ((codeSz r : Int) != 3) = true) := by
    rcases hv with ⟨h, e⟩ | ⟨h, e⟩
    · exact .inl ⟨e, by simp [h]⟩
    · exact .inr ⟨e, by simp; omega⟩
  clear hv
  have HV := Lib.hid hv2
  clear hv2
  have HR := Lib.hid hr
  clear hr
  go_enter Tryd.func113, Tryd.ntmps113
  go_wp2_with (go_at_call 123; refine (formSize_any _ (by omega) (by omega) _).mono ?_; rintro e w' ⟨rfl, rfl⟩; rw [Int.toNat_natCast, HS.out])
  go_quiet (fail)
  go_wp2_with fail
  refine (addContinuation_any _ x [y] _ _ _ _ (by simp) (by omega) (by omega) (by omega) (by exact hsub)).mono ?_
  rintro e w1 ⟨A0, m0, rfl, hb0, rfl⟩
  have hd0 := addC_bd ((l[k]).toNat - 224 : Int) x.toNat 31 (by omega) (by omega)
  go_wp2_with fail
  refine (addContinuation_any _ y [] _ _ _ _ (by simp) (by omega) (by omega) (by omega) (by exact hb0)).mono ?_
  rintro e w1 ⟨A1, m1, rfl, hb1, rfl⟩
  have hd1 := addC_bd _ y.toNat (64 * 31 + 63) (by omega) hd0
  rw [HR.out]
  go_wp2_with fail
  refine (codeSize_any _ _).mono ?_
  rintro e w1 ⟨rfl, rfl⟩
  rcases HV.out with ⟨rfl, hne⟩ | ⟨rfl, hne⟩
  · go_wp2
    go_ret
    exact ⟨rfl, _, rfl⟩
  · go_wp2
    go_ret
    exact ⟨rfl, _, rfl⟩

set_option maxHeartbeats 400000 in
theorem runeAt_four (A : Option Addr) (l : List UInt8) (c k : Nat) (x y z : UInt8) (v r : Int) (w : World) (hl : l.length ≤ c) (hc9 : c ≤ 9223372036854775807) (hT : Tab w) (hA : Bs w A l) (hk : k + 4 ≤ l.length)
    (hs : formSz (l[k]).toNat = 4) (h1 : 240 ≤ (l[k]).toNat) (hx : (l.drop (k + 1)).take 3 = [x, y, z]) (hr : addC (addC (addC ((l[k]).toNat - 240) x.toNat) y.toNat) z.toNat = r) (hv : (codeSz r = 4 ∧ v = r) ∨ (codeSz r ≠ 4 ∧ v = -1)) :
    Calls Tryd.prog 113 #[.slice A l.length c, .int .i64 k] w fun e w' => e = .returned (.int .i64 v) ∧ ∃ n, w' = w.drewN n := by
  obtain ⟨b, off, rfl, hlt, hc⟩ := hA k (by omega)
  have hu := (l[k]).toNat_lt
  have HS := Lib.hid hs
  clear hs
  have HX := Lib.hid hx
  clear hx
  have hg := hT.c4
  have h1' : 240 ≤ ((l[k]).toNat : Int) := by omega
  have hsub := hA.sub (k + 1) 3
  rw [HX.out] at hsub
  have hcap : ¬ c = k + 1 := by omega
  have hv2 : (v = r ∧ ((codeSz r : Int) != 4) = false) ∨ (v = -1 ∧ ((codeSz r : Int) != 4) = true) := by
    rcases hv with ⟨h, e⟩ | ⟨h, e⟩
    · exact .inl ⟨e, by simp [h]⟩
    · exact .inr ⟨e, by simp; omega⟩
  clear hv
  have HV := Lib.hid hv2
  clear hv2
  have HR := Lib.hid hr
  clear hr
  go_enter Tryd.func113, Tryd.ntmps113
  go_wp2_with (go_at_call 123; refine (formSize_any _ (by omega) (by omega) _).mono ?_; rintro e w' ⟨rfl, rfl⟩; rw [Int.toNat_natCast, HS.out])
  go_quiet (fail)
  go_wp2_with fail
  refine (addContinuation_any _ x [y, z] _ _ _ _ (by simp) (by omega) (by omega) (by omega) (by exact hsub)).mono ?_
  rintro e w1 ⟨A0, m0, rfl, hb0, rfl⟩
  have hd0 := addC_bd ((l[k]).toNat - 240 : Int) x.toNat 15 (by omega) (by omega)
  go_wp2_with fail
  refine (addContinuation_any _ y [z] _ _ _ _ (by simp) (by omega) (by omega) (by omega) (by exact hb0)).mono ?_
  rintro e w1 ⟨A1, m1, rfl, hb1, rfl⟩
  have hd1 := addC_bd _ y.toNat (64 * 15 + 63) (by omega) hd0
  go_wp2_with fail
  refine (addContinuation_any _ z [] _ _ _ _ (by simp) (by omega) (by omega) (by omega) (by exact hb1)).mono ?_
  rintro e w1 ⟨A2, m2, rfl, hb2, rfl⟩
  have hd2 := addC_bd _ z.toNat (64 * (64 * 15 + 63) + 63) (by omega) hd1
  rw [HR.out]
  go_wp2_with fail
  refine (codeSize_any _ _).mono ?_
  rintro e w1 ⟨rfl, rfl⟩
  rcases HV.out with ⟨rfl, hne⟩ | ⟨rfl, hne⟩
  · go_wp2
    go_ret
    exact ⟨rfl, _, rfl⟩
  · go_wp2
    go_ret
    exact ⟨rfl, _, rfl⟩

end Go.Proofs.YtpipkmnmdipeeaaDoor
