/-
  Chapter 1, the program's functions: contracts. Own work.
  Chapter 1, the program's functions: contracts, the second part. Own work.
  Chapter 1, the program's RuneAt: contracts, one a form. Own work.
  Chapter 1, the program's RuneAt whole, RuneSize, TextOk, CutOk, RunesTo, RuneCount, PlaceOf: contracts. Own work.
  Chapter 1, the program's CutOk, RunesTo, RuneCount, PlaceOf: contracts. Own work.
-/
import Derived.Test.YtgpjjolgpppeeaaDoorP01
import Derived.Test.YtgpjjolgpppeeaaDoorBs
namespace Go.Proofs.YtgpjjolgpppeeaaDoor
open Go.RowKit P
set_option linter.unusedVariables false


set_option maxHeartbeats 400000 in
theorem codeSize_any (r : Int) (w : World) : Calls Tryd.prog 116 #[.int .i64 r] w fun e w' => e = .returned (.int .i64 (codeSz r)) ∧ w' = w := by
  go_enter Tryd.func116, Tryd.ntmps116
  go_wp2
  all_goals go_ret
  all_goals refine ⟨ret_int ?_, rfl⟩
  all_goals (unfold codeSz; (repeat' split) <;> omega)

set_option maxHeartbeats 400000 in
theorem formSize_any (b : Int) (h0 : 0 ≤ b) (h1 : b ≤ 255) (w : World) : Calls Tryd.prog 119 #[.int .u8 b] w fun e w' => e = .returned (.int .i64 (formSz b.toNat)) ∧ w' = w := by
  go_enter Tryd.func119, Tryd.ntmps119
  go_wp2
  all_goals go_ret
  all_goals refine ⟨ret_int ?_, rfl⟩
  all_goals (unfold formSz; (repeat' split) <;> omega)

theorem isCont_all : ∀ n : Fin 256, (bits .andNot .u8 (n.1 : Int) 63 == 128) = isCont n.1 := by decide +kernel
theorem cont_all : ∀ n : Fin 64, bits .or .u8 128 (n.1 : Int) = 128 + (n.1 : Int) := by decide +kernel
theorem low6_all : ∀ n : Fin 256, bits .and .u8 (n.1 : Int) 63 = (n.1 : Int) % 64 := by decide +kernel

theorem ofInt_i64 (a : Nat) (ha : a < 9223372036854775808) : (BitVec.ofInt 64 (a : Int)).toNat = a := by
  rw [BitVec.ofInt_natCast, BitVec.toNat_ofNat]; exact Nat.mod_eq_of_lt (by omega)
theorem i64_and63 (r : Int) (h : 0 ≤ r) (h2 : r ≤ 1114111) : bits .and .i64 r 63 = r % 64 := by
  obtain ⟨a, rfl⟩ := Int.eq_ofNat_of_zero_le h
  show IntKind.i64.wrap ((BitVec.ofInt 64 (a : Int) &&& BitVec.ofInt 64 ((63 : Nat) : Int)).toNat : Int) = _
  rw [BitVec.toNat_and, ofInt_i64 a (by omega), ofInt_i64 63 (by omega), IntKind.wrap_i64]
  have : a &&& 63 = a % 64 := Nat.and_two_pow_sub_one_eq_mod a 6
  rw [this]
  omega
theorem i64_or (a b : Nat) (ha : a < 9223372036854775808) (hb : b < 9223372036854775808) : bits .or .i64 (a : Int) (b : Int) = ((a ||| b : Nat) : Int) := by
  have hx : a ||| b < 2 ^ 63 := Nat.or_lt_two_pow (by omega) (by omega)
  show IntKind.i64.wrap ((BitVec.ofInt 64 (a : Int) ||| BitVec.ofInt 64 (b : Int)).toNat : Int) = _
  rw [BitVec.toNat_or, ofInt_i64 a ha, ofInt_i64 b hb, IntKind.wrap_i64]
  omega
/-- a shifted by six, with six low bits more -/
theorem or6 (a b : Int) (h0 : 0 ≤ a) (h1 : a ≤ 1000000000) (h2 : 0 ≤ b) (h3 : b ≤ 63) : bits .or .i64 (a * 64) b = a * 64 + b := by
  obtain ⟨m, rfl⟩ := Int.eq_ofNat_of_zero_le h0
  obtain ⟨n, rfl⟩ := Int.eq_ofNat_of_zero_le h2
  have e : ((m : Int) * 64) = ((m * 64 : Nat) : Int) := by omega
  rw [e, i64_or _ _ (by omega) (by omega)]
  have : m * 64 ||| n = m * 64 + n := by
    have := (Nat.two_pow_add_eq_or_of_lt (i := 6) (b := n) (by omega) m).symm
    rw [Nat.mul_comm] at this
    exact this
  rw [this]
  omega

set_option maxHeartbeats 400000 in
theorem isContinuation_any (b : Int) (h0 : 0 ≤ b) (h1 : b ≤ 255) (w : World) : Calls Tryd.prog 121 #[.int .u8 b] w fun e w' => e = .returned (.bool (isCont b.toNat)) ∧ w' = w := by
  go_enter Tryd.func121, Tryd.ntmps121
  go_wp2
  go_ret
  refine ⟨ret_bool ?_, rfl⟩
  obtain ⟨n, rfl⟩ := Int.eq_ofNat_of_zero_le h0
  exact isCont_all ⟨n, by omega⟩

end Go.Proofs.YtgpjjolgpppeeaaDoor

namespace Go.Proofs.YtgpjjolgpppeeaaDoor
open Go.RowKit P
set_option linter.unusedVariables false

theorem Bs.tail_ {w : World} {A : Option Addr} {x : UInt8} {t : List UInt8} (h : Bs w A (x :: t)) {A' : Option Addr}
    (hA : ∀ b off, A = some ⟨b, off, none⟩ → t ≠ [] → A' = some ⟨b, off + 1, none⟩) : Bs w A' t := by
  intro k hk
  obtain ⟨b, off, rfl, hlt, hc⟩ := h (k + 1) (by simp; omega)
  refine ⟨b, off + 1, hA b off rfl (by intro e; subst e; simp at hk), hlt, ?_⟩
  have : off + 1 + k = off + (k + 1) := by omega
  rw [this]
  simpa using hc

set_option maxHeartbeats 400000 in
theorem addContinuation_any (A : Option Addr) (x : UInt8) (t : List UInt8) (n c : Nat) (r : Int) (w : World) (hn : n = t.length + 1) (hl : n ≤ c) (hc9 : c ≤ 9223372036854775807) (hr1 : r ≤ 1000000000) (hA : Bs w A (x :: t)) :
    Calls Tryd.prog 120 #[.int .i64 r, .slice A n c] w fun e w' => ∃ A' m, e = .returned (.tuple #[.int .i64 (addC r x.toNat), .slice A' t.length (c - 1)]) ∧ Bs w A' t ∧ w' = w.drewN m := by
  subst hn
  obtain ⟨b, off, rfl, hlt, hc⟩ := hA 0 (by simp)
  simp only [List.getElem_cons_zero, Nat.add_zero] at hc
  have hu := x.toNat_lt
  obtain ⟨A', hA', hsl⟩ : ∃ A' : Option Addr, (∀ b' off', some (⟨b, off, none⟩ : Addr) = some ⟨b', off', none⟩ → t ≠ [] → A' = some ⟨b', off' + 1, none⟩) ∧
      (if c = 1 then some (⟨b, off, none⟩ : Addr) else some ⟨b, off + 1, none⟩) = A' := by
    refine ⟨_, ?_, rfl⟩
    intro b' off' e ht
    cases e
    have : t.length ≠ 0 := by intro e; exact ht (List.eq_nil_of_length_eq_zero e)
    rw [if_neg (by omega)]
  have hb := hA.tail_ hA'
  by_cases hneg : r < 0
  · have hr : addC r x.toNat = -1 := by unfold addC; simp [hneg]
    have HR := Lib.hid hr
    clear hr
    go_enter Tryd.func120, Tryd.ntmps120
    go_wp2
    go_quiet (fail)
    go_wp2
    go_ret2
    exact ⟨A', nq, by rw [HR.out]; rfl, hb, rfl⟩
  · cases hcx : isCont x.toNat
    · have hr : addC r x.toNat = -1 := by unfold addC; simp [hcx]
      have HR := Lib.hid hr
      clear hr
      go_enter Tryd.func120, Tryd.ntmps120
      go_wp2_with (go_at_call 121; refine (isContinuation_any _ (by omega) (by omega) _).mono ?_; rintro e w' ⟨rfl, rfl⟩)
      go_quiet (fail)
      go_wp2
      go_ret2
      exact ⟨A', nq, by rw [HR.out]; rfl, hb, rfl⟩
    · have hr : addC r x.toNat = bits .or .i64 (r * 64) ((x.toNat : Int) % 64) := by
        rw [or6 _ _ (by omega) (by omega) (by omega) (by omega)]
        unfold addC; simp [hcx, hneg]
      have HR := Lib.hid hr
      clear hr
      go_enter Tryd.func120, Tryd.ntmps120
      go_wp2_with (go_at_call 121; refine (isContinuation_any _ (by omega) (by omega) _).mono ?_; rintro e w' ⟨rfl, rfl⟩)
      go_quiet (fail)
      go_wp2
      go_ret2
      exact ⟨A', nq, by rw [HR.out]; rfl, hb, rfl⟩

/-- The program's table of the lead bytes' marks. -/
def Tab (w : World) : Prop :=
  0 < w.heap.size ∧ w.cell? ⟨0, 0, none⟩ = some (.int .u8 0) ∧ w.cell? ⟨0, 1, none⟩ = some (.int .u8 0) ∧ w.cell? ⟨0, 2, none⟩ = some (.int .u8 192) ∧
  w.cell? ⟨0, 3, none⟩ = some (.int .u8 224) ∧ w.cell? ⟨0, 4, none⟩ = some (.int .u8 240)
theorem Tab.c1 {w : World} (h : Tab w) : w.cell? ⟨0, 1, none⟩ = some (.int .u8 0) := h.2.2.1
theorem Tab.c2 {w : World} (h : Tab w) : w.cell? ⟨0, 2, none⟩ = some (.int .u8 192) := h.2.2.2.1
theorem Tab.c3 {w : World} (h : Tab w) : w.cell? ⟨0, 3, none⟩ = some (.int .u8 224) := h.2.2.2.2.1
theorem Tab.c4 {w : World} (h : Tab w) : w.cell? ⟨0, 4, none⟩ = some (.int .u8 240) := h.2.2.2.2.2

theorem Tab.below {w w' : World} (h : Tab w) (hb : Below w.heap.size w w') : Tab w' := by
  have k : ∀ i v, w.cell? ⟨0, i, none⟩ = some v → w'.cell? ⟨0, i, none⟩ = some v := fun i v e => (hb.cell (p := ⟨0, i, none⟩) h.1).trans e
  exact ⟨Nat.lt_of_lt_of_le h.1 hb.size, k _ _ h.2.1, k _ _ h.2.2.1, k _ _ h.2.2.2.1, k _ _ h.2.2.2.2.1, k _ _ h.2.2.2.2.2⟩

theorem Bs.sub {w : World} {b off : Nat} {l : List UInt8} (h : Bs w (some ⟨b, off, none⟩) l) (i j : Nat) : Bs w (some ⟨b, off + i, none⟩) ((l.drop i).take j) := by
  intro k hk
  have hk2 : i + k < l.length := by simp at hk; omega
  obtain ⟨b', off', e, hlt, hc⟩ := h (i + k) hk2
  cases e
  refine ⟨b, off + i, rfl, hlt, ?_⟩
  have e : off + i + k = off + (i + k) := by omega
  rw [e, hc]
  simp

set_option maxHeartbeats 400000 in
theorem runeAt_out (A : Option Addr) (l : List UInt8) (c : Nat) (at_ : Int) (w : World) (h : at_ < 0 ∨ (l.length : Int) ≤ at_) :
    Calls Tryd.prog 117 #[.slice A l.length c, .int .i64 at_] w fun e w' => e = .returned (.int .i64 (-1)) ∧ w' = w := by
  go_enter Tryd.func117, Tryd.ntmps117
  go_wp2
  all_goals go_ret
  all_goals exact ⟨rfl, rfl⟩

set_option maxHeartbeats 400000 in
theorem runeAt_short (A : Option Addr) (l : List UInt8) (c k s : Nat) (w : World) (hl : l.length ≤ 9223372036854775807) (hA : Bs w A l) (hk : k < l.length) (hs : formSz (l[k]).toNat = s) (h : s = 0 ∨ l.length - k < s) :
    Calls Tryd.prog 117 #[.slice A l.length c, .int .i64 k] w fun e w' => e = .returned (.int .i64 (-1)) ∧ w' = w := by
  obtain ⟨b, off, rfl, hlt, hc⟩ := hA k hk
  have hu := (l[k]).toNat_lt
  have HS := Lib.hid hs
  clear hs
  rcases h with rfl | h
  · go_enter Tryd.func117, Tryd.ntmps117
    go_wp2_with (go_at_call 119; refine (formSize_any _ (by omega) (by omega) _).mono ?_; rintro e w' ⟨rfl, rfl⟩; rw [Int.toNat_natCast, HS.out])
    go_ret
    exact ⟨rfl, rfl⟩
  · have h0 : ((s : Int) == 0) = false := by simp; omega
    have h1 : (l.length : Int) - (k : Int) < (s : Int) := by omega
    go_enter Tryd.func117, Tryd.ntmps117
    go_wp2_with (go_at_call 119; refine (formSize_any _ (by omega) (by omega) _).mono ?_; rintro e w' ⟨rfl, rfl⟩; rw [Int.toNat_natCast, HS.out])
    go_ret
    exact ⟨rfl, rfl⟩

set_option maxHeartbeats 400000 in
theorem runeAt_one (A : Option Addr) (l : List UInt8) (c k : Nat) (w : World) (hl : l.length ≤ c) (hc9 : c ≤ 9223372036854775807) (hT : Tab w) (hA : Bs w A l) (hk : k < l.length) (hs : formSz (l[k]).toNat = 1) (hcs : codeSz (l[k]).toNat = 1) :
    Calls Tryd.prog 117 #[.slice A l.length c, .int .i64 k] w fun e w' => e = .returned (.int .i64 (l[k]).toNat) ∧ ∃ n, w' = w.drewN n := by
  obtain ⟨b, off, rfl, hlt, hc⟩ := hA k hk
  have hu := (l[k]).toNat_lt
  have HS := Lib.hid hs
  clear hs
  have HC := Lib.hid hcs
  clear hcs
  have hg := hT.c1
  obtain ⟨A', hsl⟩ : ∃ A' : Option Addr, (if c = k + 1 then some (⟨b, off, none⟩ : Addr) else some ⟨b, off + (k + 1), none⟩) = A' := ⟨_, rfl⟩
  go_enter Tryd.func117, Tryd.ntmps117
  go_wp2_with (go_at_call 119; refine (formSize_any _ (by omega) (by omega) _).mono ?_; rintro e w' ⟨rfl, rfl⟩; rw [Int.toNat_natCast, HS.out])
  go_quiet (fail)
  go_wp2_with (go_at_call 116; refine (codeSize_any _ _).mono ?_; rintro e w' ⟨rfl, rfl⟩; rw [HC.out])
  go_ret
  exact ⟨rfl, _, rfl⟩

end Go.Proofs.YtgpjjolgpppeeaaDoor

namespace Go.Proofs.YtgpjjolgpppeeaaDoor
open Go.RowKit P
set_option linter.unusedVariables false

set_option maxHeartbeats 400000 in
theorem runeAt_two (A : Option Addr) (l : List UInt8) (c k : Nat) (x : UInt8) (v r : Int) (w : World) (hl : l.length ≤ c) (hc9 : c ≤ 9223372036854775807) (hT : Tab w) (hA : Bs w A l) (hk : k + 2 ≤ l.length)
    (hs : formSz (l[k]).toNat = 2) (h1 : 192 ≤ (l[k]).toNat) (hx : (l.drop (k + 1)).take 1 = [x]) (hr : addC ((l[k]).toNat - 192) x.toNat = r) (hv : (codeSz r = 2 ∧ v = r) ∨ (codeSz r ≠ 2 ∧ v = -1)) :
    Calls Tryd.prog 117 #[.slice A l.length c, .int .i64 k] w fun e w' => e = .returned (.int .i64 v) ∧ ∃ n, w' = w.drewN n := by
  obtain ⟨b, off, rfl, hlt, hc⟩ := hA k (by omega)
  have hu := (l[k]).toNat_lt
  have HS := Lib.hid hs
  clear hs
  have HX := Lib.hid hx
  clear hx
  have hg := hT.c2
  have h1' : 192 ≤ ((l[k]).toNat : Int) := by omega
  have hsub := hA.sub (k + 1) 1
  rw [HX.out] at hsub
  have hcap : ¬ c = k + 1 := by omega
  have hv2 : (v = r ∧ ((codeSz r : Int) != 2) = false) ∨ (v = -1 ∧ ((codeSz r : Int) != 2) = true) := by
    rcases hv with ⟨h, e⟩ | ⟨h, e⟩
    · exact .inl ⟨e, by simp [h]⟩
    · exact .inr ⟨e, by simp; omega⟩
  clear hv
  have HV := Lib.hid hv2
  clear hv2
  have HR := Lib.hid hr
  clear hr
  go_enter Tryd.func117, Tryd.ntmps117
  go_wp2_with (go_at_call 119; refine (formSize_any _ (by omega) (by omega) _).mono ?_; rintro e w' ⟨rfl, rfl⟩; rw [Int.toNat_natCast, HS.out])
  go_quiet (fail)
  go_wp2_with fail
  refine (addContinuation_any _ x [] _ _ _ _ (by simp) (by omega) (by omega) (by omega) (by exact hsub)).mono ?_
  rintro e w1 ⟨A0, m0, rfl, hb0, rfl⟩
  have hd0 := addC_bd ((l[k]).toNat - 192 : Int) x.toNat 63 (by omega) (by omega)
  rw [HR.out]
  go_wp2_with fail
  refine (codeSize_any _ _).mono ?_
  rintro e w1 ⟨rfl, rfl⟩
  rcases HV.out with ⟨rfl, hne⟩ | ⟨rfl, hne⟩
  · go_wp2
    go_ret
    exact ⟨rfl, _, rfl⟩
  · go_wp2
    go_ret
    exact ⟨rfl, _, rfl⟩

set_option maxHeartbeats 400000 in
theorem runeAt_three (A : Option Addr) (l : List UInt8) (c k : Nat) (x y : UInt8) (v r : Int) (w : World) (hl : l.length ≤ c) (hc9 : c ≤ 9223372036854775807) (hT : Tab w) (hA : Bs w A l) (hk : k + 3 ≤ l.length)
    (hs : formSz (l[k]).toNat = 3) (h1 : 224 ≤ (l[k]).toNat) (hx : (l.drop (k + 1)).take 2 = [x, y]) (hr : addC (addC ((l[k]).toNat - 224) x.toNat) y.toNat = r) (hv : (codeSz r = 3 ∧ v = r) ∨ (codeSz r ≠ 3 ∧ v = -1)) :
    Calls Tryd.prog 117 #[.slice A l.length c, .int .i64 k] w fun e w' => e = .returned (.int .i64 v) ∧ ∃ n, w' = w.drewN n := by
  obtain ⟨b, off, rfl, hlt, hc⟩ := hA k (by omega)
  have hu := (l[k]).toNat_lt
  have HS := Lib.hid hs
  clear hs
  have HX := Lib.hid hx
  clear hx
  have hg := hT.c3
  have h1' : 224 ≤ ((l[k]).toNat : Int) := by omega
  have hsub := hA.sub (k + 1) 2
  rw [HX.out] at hsub
  have hcap : ¬ c = k + 1 := by omega
  have hv2 : (v = r ∧ ((codeSz r : Int) != 3) = false) ∨ (v = -1 ∧ ((codeSz r : Int) != 3) = true) := by
    rcases hv with ⟨h, e⟩ | ⟨h, e⟩
    · exact .inl ⟨e, by simp [h]⟩
    · exact .inr ⟨e, by simp; omega⟩
  clear hv
  have HV := Lib.hid hv2
  clear hv2
  have HR := Lib.hid hr
  clear hr
  go_enter Tryd.func117, Tryd.ntmps117
  go_wp2_with (go_at_call 119; refine (formSize_any _ (by omega) (by omega) _).mono ?_; rintro e w' ⟨rfl, rfl⟩; rw [Int.toNat_natCast, HS.out])
  go_quiet (fail)
  go_wp2_with fail
  refine (addContinuation_any _ x [y] _ _ _ _ (by simp) (by omega) (by omega) (by omega) (by exact hsub)).mono ?_
  rintro e w1 ⟨A0, m0, rfl, hb0, rfl⟩
  have hd0 := addC_bd ((l[k]).toNat - 224 : Int) x.toNat 31 (by omega) (by omega)
  go_wp2_with fail
  refine (addContinuation_any _ y [] _ _ _ _ (by simp) (by omega) (by omega) (by omega) (by exact hb0)).mono ?_
  rintro e w1 ⟨A1, m1, rfl, hb1, rfl⟩
  have hd1 := addC_bd _ y.toNat (64 * 31 + 63) (by omega) hd0
  rw [HR.out]
  go_wp2_with fail
  refine (codeSize_any _ _).mono ?_
  rintro e w1 ⟨rfl, rfl⟩
  rcases HV.out with ⟨rfl, hne⟩ | ⟨rfl, hne⟩
  · go_wp2
    go_ret
    exact ⟨rfl, _, rfl⟩
  · go_wp2
    go_ret
    exact ⟨rfl, _, rfl⟩

set_option maxHeartbeats 400000 in
theorem runeAt_four (A : Option Addr) (l : List UInt8) (c k : Nat) (x y z : UInt8) (v r : Int) (w : World) (hl : l.length ≤ c) (hc9 : c ≤ 9223372036854775807) (hT : Tab w) (hA : Bs w A l) (hk : k + 4 ≤ l.length)
    (hs : formSz (l[k]).toNat = 4) (h1 : 240 ≤ (l[k]).toNat) (hx : (l.drop (k + 1)).take 3 = [x, y, z]) (hr : addC (addC (addC ((l[k]).toNat - 240) x.toNat) y.toNat) z.toNat = r) (hv : (codeSz r = 4 ∧ v = r) ∨ (codeSz r ≠ 4 ∧ v = -1)) :
    Calls Tryd.prog 117 #[.slice A l.length c, .int .i64 k] w fun e w' => e = .returned (.int .i64 v) ∧ ∃ n, w' = w.drewN n := by
  obtain ⟨b, off, rfl, hlt, hc⟩ := hA k (by omega)
  have hu := (l[k]).toNat_lt
  have HS := Lib.hid hs
  clear hs
  have HX := Lib.hid hx
  clear hx
  have hg := hT.c4
  have h1' : 240 ≤ ((l[k]).toNat : Int) := by omega
  have hsub := hA.sub (k + 1) 3
  rw [HX.out] at hsub
  have hcap : ¬ c = k + 1 := by omega
  have hv2 : (v = r ∧ ((codeSz r : Int) != 4) = false) ∨ (v = -1 ∧ ((codeSz r : Int) != 4) = true) := by
    rcases hv with ⟨h, e⟩ | ⟨h, e⟩
    · exact .inl ⟨e, by simp [h]⟩
    · exact .inr ⟨e, by simp; omega⟩
  clear hv
  have HV := Lib.hid hv2
  clear hv2
  have HR := Lib.hid hr
  clear hr
  go_enter Tryd.func117, Tryd.ntmps117
  go_wp2_with (go_at_call 119; refine (formSize_any _ (by omega) (by omega) _).mono ?_; rintro e w' ⟨rfl, rfl⟩; rw [Int.toNat_natCast, HS.out])
  go_quiet (fail)
  go_wp2_with fail
  refine (addContinuation_any _ x [y, z] _ _ _ _ (by simp) (by omega) (by omega) (by omega) (by exact hsub)).mono ?_
  rintro e w1 ⟨A0, m0, rfl, hb0, rfl⟩
  have hd0 := addC_bd ((l[k]).toNat - 240 : Int) x.toNat 15 (by omega) (by omega)
  go_wp2_with fail
  refine (addContinuation_any _ y [z] _ _ _ _ (by simp) (by omega) (by omega) (by omega) (by exact hb0)).mono ?_
  rintro e w1 ⟨A1, m1, rfl, hb1, rfl⟩
  have hd1 := addC_bd _ y.toNat (64 * 15 + 63) (by omega) hd0
  go_wp2_with fail
  refine (addContinuation_any _ z [] _ _ _ _ (by simp) (by omega) (by omega) (by omega) (by exact hb1)).mono ?_
  rintro e w1 ⟨A2, m2, rfl, hb2, rfl⟩
  have hd2 := addC_bd _ z.toNat (64 * (64 * 15 + 63) + 63) (by omega) hd1
  rw [HR.out]
  go_wp2_with fail
  refine (codeSize_any _ _).mono ?_
  rintro e w1 ⟨rfl, rfl⟩
  rcases HV.out with ⟨rfl, hne⟩ | ⟨rfl, hne⟩
  · go_wp2
    go_ret
    exact ⟨rfl, _, rfl⟩
  · go_wp2
    go_ret
    exact ⟨rfl, _, rfl⟩

end Go.Proofs.YtgpjjolgpppeeaaDoor

namespace Go.Proofs.YtgpjjolgpppeeaaDoor
open Go.RowKit P
set_option linter.unusedVariables false

theorem Bs.drewN {w : World} {A : Option Addr} {l : List UInt8} (h : Bs w A l) (n : Nat) : Bs (w.drewN n) A l := h
theorem Tab.drewN {w : World} (h : Tab w) (n : Nat) : Tab (w.drewN n) := h

theorem form_bounds (b : Nat) (hb : b < 256) : (formSz b = 1 → b < 128) ∧ (formSz b = 2 → 192 ≤ b ∧ b < 224) ∧ (formSz b = 3 → 224 ≤ b ∧ b < 240) ∧ (formSz b = 4 → 240 ≤ b ∧ b < 248) ∧ formSz b ≤ 4 := by
  unfold formSz
  refine ⟨?_, ?_, ?_, ?_, ?_⟩ <;> (repeat' split) <;> omega

theorem iteOr (p : Prop) [Decidable p] (r : Int) : (p ∧ (if p then r else -1) = r) ∨ (¬ p ∧ (if p then r else -1) = -1) := by
  by_cases h : p
  · exact .inl ⟨h, if_pos h⟩
  · exact .inr ⟨h, if_neg h⟩

theorem runeAt_any (A : Option Addr) (l : List UInt8) (c : Nat) (at_ : Int) (w : World) (hl : l.length ≤ c) (hc9 : c ≤ 9223372036854775807) (hT : Tab w) (hA : Bs w A l) :
    Calls Tryd.prog 117 #[.slice A l.length c, .int .i64 at_] w fun e w' => e = .returned (.int .i64 (runeAt l at_)) ∧ ∃ n, w' = w.drewN n := by
  by_cases hr : at_ < 0 ∨ (l.length : Int) ≤ at_
  · refine (runeAt_out A l c at_ w hr).mono ?_
    rintro e w' ⟨rfl, rfl⟩
    exact ⟨by unfold runeAt; rw [if_pos hr], 0, rfl⟩
  · obtain ⟨k, rfl⟩ := Int.eq_ofNat_of_zero_le (show 0 ≤ at_ by omega)
    have hk : k < l.length := by omega
    have hd : l.drop k = l[k] :: l.drop (k + 1) := List.drop_eq_getElem_cons hk
    have hv : runeAt l (k : Int) = decL (l[k] :: l.drop (k + 1)) := by
      unfold runeAt; rw [if_neg hr, Int.toNat_natCast, hd]
    rw [hv]
    have hu := (l[k]).toNat_lt
    obtain ⟨b1, b2, b3, b4, b5⟩ := form_bounds (l[k]).toNat hu
    generalize hs : formSz (l[k]).toNat = s at *
    by_cases hsh : s = 0 ∨ l.length - k < s
    · refine (runeAt_short A l c k s w (by omega) hA hk hs hsh).mono ?_
      rintro e w' ⟨rfl, rfl⟩
      refine ⟨?_, 0, rfl⟩
      simp only [decL, hs]
      rw [if_pos (by simp; omega)]
    · have hne : ¬ (s = 0 ∨ (l.drop (k + 1)).length + 1 < s) := by rw [List.length_drop]; omega
      have h4 : s = 1 ∨ s = 2 ∨ s = 3 ∨ s = 4 := by omega
      have hdec : decL (l[k] :: l.drop (k + 1)) = if codeSz (((l.drop (k + 1)).take (s - 1)).foldl (fun r x => addC r x.toNat) (((l[k]).toNat : Int) - leadM s)) = s then ((l.drop (k + 1)).take (s - 1)).foldl (fun r x => addC r x.toNat) (((l[k]).toNat : Int) - leadM s) else -1 := by
        simp only [decL, hs]
        rw [if_neg hne]
      rw [hdec]
      have htl : ((l.drop (k + 1)).take (s - 1)).length = s - 1 := by rw [List.length_take, List.length_drop]; omega
      rcases h4 with rfl | rfl | rfl | rfl
      · have hcs : codeSz (l[k]).toNat = 1 := by have := b1 rfl; unfold codeSz; (repeat' split) <;> omega
        refine (runeAt_one A l c k w hl hc9 hT hA hk hs hcs).mono ?_
        rintro e w' ⟨rfl, hn⟩
        refine ⟨ret_int ?_, hn⟩
        simp [leadM, hcs]
      · obtain ⟨x, hx⟩ : ∃ x, (l.drop (k + 1)).take 1 = [x] := by
          match h : (l.drop (k + 1)).take 1, htl with
          | [x], _ => exact ⟨x, rfl⟩
        rw [hx]
        exact runeAt_two A l c k x _ _ w hl hc9 hT hA (by omega) hs (b2 rfl).1 hx rfl (iteOr _ _)
      · obtain ⟨x, y, hx⟩ : ∃ x y, (l.drop (k + 1)).take 2 = [x, y] := by
          match h : (l.drop (k + 1)).take 2, htl with
          | [x, y], _ => exact ⟨x, y, rfl⟩
        rw [hx]
        exact runeAt_three A l c k x y _ _ w hl hc9 hT hA (by omega) hs (b3 rfl).1 hx rfl (iteOr _ _)
      · obtain ⟨x, y, z, hx⟩ : ∃ x y z, (l.drop (k + 1)).take 3 = [x, y, z] := by
          match h : (l.drop (k + 1)).take 3, htl with
          | [x, y, z], _ => exact ⟨x, y, z, rfl⟩
        rw [hx]
        exact runeAt_four A l c k x y z _ _ w hl hc9 hT hA (by omega) hs (b4 rfl).1 hx rfl (iteOr _ _)

set_option maxHeartbeats 400000 in
theorem runeSize_any (A : Option Addr) (l : List UInt8) (c : Nat) (at_ : Int) (w : World) (hl : l.length ≤ c) (hc9 : c ≤ 9223372036854775807) (hT : Tab w) (hA : Bs w A l) :
    Calls Tryd.prog 114 #[.slice A l.length c, .int .i64 at_] w fun e w' => e = .returned (.int .i64 (runeSize l at_)) ∧ ∃ n, w' = w.drewN n := by
  go_enter Tryd.func114, Tryd.ntmps114
  go_wp2_with fail
  refine (runeAt_any A l c at_ _ hl hc9 (by exact hT) (by exact hA)).mono ?_
  rintro e w1 ⟨rfl, n, rfl⟩
  go_wp2_with fail
  refine (codeSize_any _ _).mono ?_
  rintro e w1 ⟨rfl, rfl⟩
  go_wp2
  go_ret
  exact ⟨rfl, n, rfl⟩

theorem runeSize_at (l : List UInt8) (k : Nat) (h : k < l.length) : runeSize l k = sz (l.drop k) := by
  unfold runeSize runeAt sz
  rw [if_neg (by omega), Int.toNat_natCast]

set_option maxHeartbeats 800000 in
theorem textOk_any (A : Option Addr) (l : List UInt8) (c : Nat) (w : World) (hl : l.length ≤ c) (hc9 : c ≤ 9223372036854775807) (hT : Tab w) (hA : Bs w A l) :
    Calls Tryd.prog 106 #[.slice A l.length c] w fun e w' => e = .returned (.bool (isText l)) ∧ ∃ n, w' = w.drewN n := by
  by_cases h4 : l.length ≤ 400
  · have hnot : ¬ (400 < (l.length : Int)) := by omega
    have ht : isText l = okS 0 l := by unfold isText; simp [h4]
    have HTX := Lib.hid ht
    clear ht
    go_enter Tryd.func106, Tryd.ntmps106
    go_wp2
    go_loopw [3, 11] (fun next i wr => ∃ p k n : Nat, next = .int .i64 p ∧ i = .int .i64 k ∧ k ≤ p ∧ p ≤ l.length ∧ okS 0 (l.drop p) = okS 0 l ∧ wr = w.drewN n) (fun _ i _ => l.length - (intOf i).toNat)
    case atStart => exact ⟨0, 0, 0, rfl, rfl, Nat.le_refl _, Nat.zero_le _, rfl, rfl⟩
    case round =>
      obtain ⟨p, k, n, rfl, rfl, hkp, hpl, hok, rfl⟩ := hrel
      have HOK := Lib.hid hok
      clear hok
      by_cases hkl : k < l.length
      · by_cases hlt : k < p
        · go_wp2
          go_roundw
          case rel => exact ⟨p, k + 1, n, rfl, by go_num, by omega, hpl, HOK.out, rfl⟩
          case measure => simp [intOf]; omega
        · obtain rfl : k = p := by omega
          have hstep := okS_step (t := l.drop k) (by intro e; have := congrArg List.length e; simp at this; omega)
          have hle := sz_le (l.drop k)
          rw [List.length_drop] at hle
          have hz := runeSize_at l k hkl
          generalize sz (l.drop k) = z at *
          have HZ := Lib.hid hz
          clear hz
          have HST := Lib.hid hstep
          clear hstep
          by_cases hz0 : z = 0
          · subst hz0
            go_wp2_with (go_at_call 114; refine (runeSize_any A l c k _ hl hc9 (by exact hT) (by exact hA)).mono ?_; rintro e w1 ⟨rfl, m, rfl⟩; rw [HZ.out])
            go_ret
            refine ⟨ret_bool ?_, _, rfl⟩
            rw [HTX.out, ← HOK.out, HST.out]; simp
          · have hzz : ((z : Int) == 0) = false := by simp; omega
            go_wp2_with (go_at_call 114; refine (runeSize_any A l c k _ hl hc9 (by exact hT) (by exact hA)).mono ?_; rintro e w1 ⟨rfl, m, rfl⟩; rw [HZ.out])
            go_roundw
            case rel =>
              refine ⟨k + z, k + 1, _, by go_num, by go_num, by omega, by omega, ?_, rfl⟩
              rw [← HOK.out, HST.out]
              simp [hz0]
            case measure => simp [intOf]; omega
      · go_wp2
        go_ret
        refine ⟨ret_bool ?_, n, rfl⟩
        have : p = l.length := by omega
        rw [HTX.out, ← HOK.out, this]
        simp [okS]
  · have hnot : (400 < (l.length : Int)) := by omega
    have ht : isText l = false := by unfold isText; simp; omega
    have HTX := Lib.hid ht
    clear ht
    go_enter Tryd.func106, Tryd.ntmps106
    go_wp2
    go_ret
    exact ⟨ret_bool HTX.out.symm, 0, rfl⟩
end Go.Proofs.YtgpjjolgpppeeaaDoor

namespace Go.Proofs.YtgpjjolgpppeeaaDoor
open Go.RowKit P
set_option linter.unusedVariables false

theorem runesBefore_succ (l : List UInt8) (k : Nat) : runesBefore l (k + 1) = runesBefore l k + if isBound l k = true then 1 else 0 := by
  unfold runesBefore
  rw [List.range_succ, List.filter_append, List.length_append]
  congr 1
  by_cases h : isBound l k = true <;> simp [h]

theorem runesBefore_le (l : List UInt8) (k : Nat) : runesBefore l k ≤ k := by
  unfold runesBefore
  have := List.length_filter_le (fun k : Nat => isBound l k) (List.range k)
  simpa using this

/-- The boundaries from k on, the n-th of them. -/
theorem cuts_split (l : List UInt8) (k : Nat) (hk : k ≤ l.length + 1) : cuts l = (List.range k).filter (fun j : Nat => isBound l j) ++ ((List.range (l.length + 1 - k)).map (k + ·)).filter (fun j : Nat => isBound l j) := by
  unfold cuts
  have e : l.length + 1 = k + (l.length + 1 - k) := by omega
  conv => lhs; rw [e, List.range_add, List.filter_append]

end Go.Proofs.YtgpjjolgpppeeaaDoor
