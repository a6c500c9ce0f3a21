/-
  Chapter 1, the program's functions: contracts. Own work.
  Chapter 1, the program's functions: contracts, the second part. Own work.
  Chapter 1, the program's RuneAt: contracts, one a form. Own work.
  Chapter 1, the program's RuneAt whole, RuneSize, TextOk, CutOk, RunesTo, RuneCount, PlaceOf: contracts. Own work.
  Chapter 1, the program's CutOk, RunesTo, RuneCount, PlaceOf: contracts. Own work.
-/
import Derived.Test.YtgpjjolgpppeeaaP01
import Derived.Test.YtgpjjolgpppeeaaBs
namespace Go.Proofs.Ytgpjjolgpppeeaa
open Go.RowKit P
set_option linter.unusedVariables false


theorem isCont_all : ∀ n : Fin 256, (bits .andNot .u8 (n.1 : Int) 63 == 128) = isCont n.1 := by decide +kernel
theorem cont_all : ∀ n : Fin 64, bits .or .u8 128 (n.1 : Int) = 128 + (n.1 : Int) := by decide +kernel
theorem low6_all : ∀ n : Fin 256, bits .and .u8 (n.1 : Int) 63 = (n.1 : Int) % 64 := by decide +kernel

theorem ofInt_i64 (a : Nat) (ha : a < 9223372036854775808) : (BitVec.ofInt 64 (a : Int)).toNat = a := by
  rw [BitVec.ofInt_natCast, BitVec.toNat_ofNat]; exact Nat.mod_eq_of_lt (by omega)
theorem i64_and63 (r : Int) (h : 0 ≤ r) (h2 : r ≤ 1114111) : bits .and .i64 r 63 = r % 64 := by
  obtain ⟨a, rfl⟩ := Int.eq_ofNat_of_zero_le h
  show IntKind.i64.wrap ((BitVec.ofInt 64 (a : Int) &&& BitVec.ofInt 64 ((63 : Nat) : Int)).toNat : Int) = _
  rw [BitVec.toNat_and, ofInt_i64 a (by omega), ofInt_i64 63 (by omega), IntKind.wrap_i64]
  have : a &&& 63 = a % 64 := Nat.and_two_pow_sub_one_eq_mod a 6
  rw [this]
  omega
theorem i64_or (a b : Nat) (ha : a < 9223372036854775808) (hb : b < 9223372036854775808) : bits .or .i64 (a : Int) (b : Int) = ((a ||| b : Nat) : Int) := by
  have hx : a ||| b < 2 ^ 63 := Nat.or_lt_two_pow (by omega) (by omega)
  show IntKind.i64.wrap ((BitVec.ofInt 64 (a : Int) ||| BitVec.ofInt 64 (b : Int)).toNat : Int) = _
  rw [BitVec.toNat_or, ofInt_i64 a ha, ofInt_i64 b hb, IntKind.wrap_i64]
  omega
/-- a shifted by six, with six low bits more -/
theorem or6 (a b : Int) (h0 : 0 ≤ a) (h1 : a ≤ 1000000000) (h2 : 0 ≤ b) (h3 : b ≤ 63) : bits .or .i64 (a * 64) b = a * 64 + b := by
  obtain ⟨m, rfl⟩ := Int.eq_ofNat_of_zero_le h0
  obtain ⟨n, rfl⟩ := Int.eq_ofNat_of_zero_le h2
  have e : ((m : Int) * 64) = ((m * 64 : Nat) : Int) := by omega
  rw [e, i64_or _ _ (by omega) (by omega)]
  have : m * 64 ||| n = m * 64 + n := by
    have := (Nat.two_pow_add_eq_or_of_lt (i := 6) (b := n) (by omega) m).symm
    rw [Nat.mul_comm] at this
    exact this
  rw [this]
  omega

end Go.Proofs.Ytgpjjolgpppeeaa

namespace Go.Proofs.Ytgpjjolgpppeeaa
open Go.RowKit P
set_option linter.unusedVariables false

theorem Bs.tail_ {w : World} {A : Option Addr} {x : UInt8} {t : List UInt8} (h : Bs w A (x :: t)) {A' : Option Addr}
    (hA : ∀ b off, A = some ⟨b, off, none⟩ → t ≠ [] → A' = some ⟨b, off + 1, none⟩) : Bs w A' t := by
  intro k hk
  obtain ⟨b, off, rfl, hlt, hc⟩ := h (k + 1) (by simp; omega)
  refine ⟨b, off + 1, hA b off rfl (by intro e; subst e; simp at hk), hlt, ?_⟩
  have : off + 1 + k = off + (k + 1) := by omega
  rw [this]
  simpa using hc

theorem Bs.sub {w : World} {b off : Nat} {l : List UInt8} (h : Bs w (some ⟨b, off, none⟩) l) (i j : Nat) : Bs w (some ⟨b, off + i, none⟩) ((l.drop i).take j) := by
  intro k hk
  have hk2 : i + k < l.length := by simp at hk; omega
  obtain ⟨b', off', e, hlt, hc⟩ := h (i + k) hk2
  cases e
  refine ⟨b, off + i, rfl, hlt, ?_⟩
  have e : off + i + k = off + (i + k) := by omega
  rw [e, hc]
  simp

end Go.Proofs.Ytgpjjolgpppeeaa

namespace Go.Proofs.Ytgpjjolgpppeeaa
open Go.RowKit P
set_option linter.unusedVariables false

end Go.Proofs.Ytgpjjolgpppeeaa

namespace Go.Proofs.Ytgpjjolgpppeeaa
open Go.RowKit P
set_option linter.unusedVariables false

theorem Bs.drewN {w : World} {A : Option Addr} {l : List UInt8} (h : Bs w A l) (n : Nat) : Bs (w.drewN n) A l := h
theorem form_bounds (b : Nat) (hb : b < 256) : (formSz b = 1 → b < 128) ∧ (formSz b = 2 → 192 ≤ b ∧ b < 224) ∧ (formSz b = 3 → 224 ≤ b ∧ b < 240) ∧ (formSz b = 4 → 240 ≤ b ∧ b < 248) ∧ formSz b ≤ 4 := by
  unfold formSz
  refine ⟨?_, ?_, ?_, ?_, ?_⟩ <;> (repeat' split) <;> omega

theorem iteOr (p : Prop) [Decidable p] (r : Int) : (p ∧ (if p then r else -1) = r) ∨ (¬ p ∧ (if p then r else -1) = -1) := by
  by_cases h : p
  · exact .inl ⟨h, if_pos h⟩
  · exact .inr ⟨h, if_neg h⟩

theorem runeSize_at (l : List UInt8) (k : Nat) (h : k < l.length) : runeSize l k = sz (l.drop k) := by
  unfold runeSize runeAt sz
  rw [if_neg (by omega), Int.toNat_natCast]

end Go.Proofs.Ytgpjjolgpppeeaa

namespace Go.Proofs.Ytgpjjolgpppeeaa
open Go.RowKit P
set_option linter.unusedVariables false

theorem runesBefore_succ (l : List UInt8) (k : Nat) : runesBefore l (k + 1) = runesBefore l k + if isBound l k = true then 1 else 0 := by
  unfold runesBefore
  rw [List.range_succ, List.filter_append, List.length_append]
  congr 1
  by_cases h : isBound l k = true <;> simp [h]

theorem runesBefore_le (l : List UInt8) (k : Nat) : runesBefore l k ≤ k := by
  unfold runesBefore
  have := List.length_filter_le (fun k : Nat => isBound l k) (List.range k)
  simpa using this

/-- The boundaries from k on, the n-th of them. -/
theorem cuts_split (l : List UInt8) (k : Nat) (hk : k ≤ l.length + 1) : cuts l = (List.range k).filter (fun j : Nat => isBound l j) ++ ((List.range (l.length + 1 - k)).map (k + ·)).filter (fun j : Nat => isBound l j) := by
  unfold cuts
  have e : l.length + 1 = k + (l.length + 1 - k) := by omega
  conv => lhs; rw [e, List.range_add, List.filter_append]

end Go.Proofs.Ytgpjjolgpppeeaa
