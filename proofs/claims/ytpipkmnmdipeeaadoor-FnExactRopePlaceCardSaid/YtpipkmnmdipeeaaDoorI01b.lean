/-
  Chapter 1, the program's functions: contracts, the second part. Own work.
-/
import Derived.Test.YtpipkmnmdipeeaaDoorI01
namespace Go.Proofs.YtpipkmnmdipeeaaDoor
open Go.RowKit P
set_option linter.unusedVariables false

theorem Bs.tail_ {w : World} {A : Option Addr} {x : UInt8} {t : List UInt8} (h : Bs w A (x :: t)) {A' : Option Addr}
    (hA : ∀ b off, A = some ⟨b, off, none⟩ → t ≠ [] → A' = some ⟨b, off + 1, none⟩) : Bs w A' t := by
  intro k hk
  obtain ⟨b, off, rfl, hlt, hc⟩ := h (k + 1) (by simp; omega)
  refine ⟨b, off + 1, hA b off rfl (by intro e; subst e; simp at hk), hlt, ?_⟩
  have : off + 1 + k = off + (k + 1) := by omega
  rw [this]
  simpa using hc

set_option maxHeartbeats 400000 in
theorem addContinuation_any (A : Option Addr) (x : UInt8) (t : List UInt8) (n c : Nat) (r : Int) (w : World) (hn : n = t.length + 1) (hl : n ≤ c) (hc9 : c ≤ 9223372036854775807) (hr1 : r ≤ 1000000000) (hA : Bs w A (x :: t)) :
    Calls Tryd.prog 124 #[.int .i64 r, .slice A n c] w fun e w' => ∃ A' m, e = .returned (.tuple #[.int .i64 (addC r x.toNat), .slice A' t.length (c - 1)]) ∧ Bs w A' t ∧ w' = w.drewN m := by
  subst hn
  obtain ⟨b, off, rfl, hlt, hc⟩ := hA 0 (by simp)
  simp only [List.getElem_cons_zero, Nat.add_zero] at hc
  have hu := x.toNat_lt
  obtain ⟨A', hA', hsl⟩ : ∃ A' : Option Addr, (∀ b' off', some (⟨b, off, none⟩ : Addr) = some ⟨b', off', none⟩ → t ≠ [] → A' = some ⟨b', off' + 1, none⟩) ∧
      (if c = 1 then some (⟨b, off, none⟩ : Addr) else some ⟨b, off + 1, none⟩) = A' := by
    refine ⟨_, ?_, rfl⟩
    intro b' off' e ht
    cases e
    have : t.length ≠ 0 := by intro e; exact ht (List.eq_nil_of_length_eq_zero e)
    rw [if_neg (by omega)]
  have hb := hA.tail_ hA'
  by_cases hneg : r < 0
  · have hr : addC r x.toNat = -1 := by unfold addC; simp [hneg]
    have HR := Lib.hid hr
    clear hr
    go_enter Tryd.func124, Tryd.ntmps124
    go_wp2
    go_quiet (fail)
    go_wp2
    go_ret2
    exact ⟨A', nq, by rw [HR.out]; rfl, hb, rfl⟩
  · cases hcx : isCont x.toNat
    · have hr : addC r x.toNat = -1 := by unfold addC; simp [hcx]
      have HR := Lib.hid hr
      clear hr
      go_enter Tryd.func124, Tryd.ntmps124
      go_wp2_with (go_at_call 116; refine (isContinuation_any _ (by omega) (by omega) _).mono ?_; rintro e w' ⟨rfl, rfl⟩)
      go_quiet (fail)
      go_wp2
      go_ret2
      exact ⟨A', nq, by rw [HR.out]; rfl, hb, rfl⟩
    · have hr : addC r x.toNat = bits .or .i64 (r * 64) ((x.toNat : Int) % 64) := by
        rw [or6 _ _ (by omega) (by omega) (by omega) (by omega)]
        unfold addC; simp [hcx, hneg]
      have HR := Lib.hid hr
      clear hr
      go_enter Tryd.func124, Tryd.ntmps124
      go_wp2_with (go_at_call 116; refine (isContinuation_any _ (by omega) (by omega) _).mono ?_; rintro e w' ⟨rfl, rfl⟩)
      go_quiet (fail)
      go_wp2
      go_ret2
      exact ⟨A', nq, by rw [HR.out]; rfl, hb, rfl⟩

/-- The program's table of the lead bytes' marks. -/
def Tab (w : World) : Prop :=
  1 < w.heap.size ∧ w.cell? ⟨1, 0, none⟩ = some (.int .u8 0) ∧ w.cell? ⟨1, 1, none⟩ = some (.int .u8 0) ∧ w.cell? ⟨1, 2, none⟩ = some (.int .u8 192) ∧
  w.cell? ⟨1, 3, none⟩ = some (.int .u8 224) ∧ w.cell? ⟨1, 4, none⟩ = some (.int .u8 240)
theorem Tab.c1 {w : World} (h : Tab w) : w.cell? ⟨1, 1, none⟩ = some (.int .u8 0) := h.2.2.1
theorem Tab.c2 {w : World} (h : Tab w) : w.cell? ⟨1, 2, none⟩ = some (.int .u8 192) := h.2.2.2.1
theorem Tab.c3 {w : World} (h : Tab w) : w.cell? ⟨1, 3, none⟩ = some (.int .u8 224) := h.2.2.2.2.1
theorem Tab.c4 {w : World} (h : Tab w) : w.cell? ⟨1, 4, none⟩ = some (.int .u8 240) := h.2.2.2.2.2

theorem Tab.below {w w' : World} (h : Tab w) (hb : Below w.heap.size w w') : Tab w' := by
  have k : ∀ i v, w.cell? ⟨1, i, none⟩ = some v → w'.cell? ⟨1, i, none⟩ = some v := fun i v e => (hb.cell (p := ⟨1, i, none⟩) h.1).trans e
  exact ⟨Nat.lt_of_lt_of_le h.1 hb.size, k _ _ h.2.1, k _ _ h.2.2.1, k _ _ h.2.2.2.1, k _ _ h.2.2.2.2.1, k _ _ h.2.2.2.2.2⟩

theorem Bs.sub {w : World} {b off : Nat} {l : List UInt8} (h : Bs w (some ⟨b, off, none⟩) l) (i j : Nat) : Bs w (some ⟨b, off + i, none⟩) ((l.drop i).take j) := by
  intro k hk
  have hk2 : i + k < l.length := by simp at hk; omega
  obtain ⟨b', off', e, hlt, hc⟩ := h (i + k) hk2
  cases e
  refine ⟨b, off + i, rfl, hlt, ?_⟩
  have e : off + i + k = off + (i + k) := by omega
  rw [e, hc]
  simp

set_option maxHeartbeats 400000 in
theorem runeAt_out (A : Option Addr) (l : List UInt8) (c : Nat) (at_ : Int) (w : World) (h : at_ < 0 ∨ (l.length : Int) ≤ at_) :
    Calls Tryd.prog 113 #[.slice A l.length c, .int .i64 at_] w fun e w' => e = .returned (.int .i64 (-1)) ∧ w' = w := by
  go_enter Tryd.func113, Tryd.ntmps113
  go_wp2
  all_goals go_ret
  all_goals exact ⟨rfl, rfl⟩

set_option maxHeartbeats 400000 in
theorem runeAt_short (A : Option Addr) (l : List UInt8) (c k s : Nat) (w : World) (hl : l.length ≤ 9223372036854775807) (hA : Bs w A l) (hk : k < l.length) (hs : formSz (l[k]).toNat = s) (h : s = 0 ∨ l.length - k < s) :
    Calls Tryd.prog 113 #[.slice A l.length c, .int .i64 k] w fun e w' => e = .returned (.int .i64 (-1)) ∧ w' = w := by
  obtain ⟨b, off, rfl, hlt, hc⟩ := hA k hk
  have hu := (l[k]).toNat_lt
  have HS := Lib.hid hs
  clear hs
  rcases h with rfl | h
  · go_enter Tryd.func113, Tryd.ntmps113
    go_wp2_with (go_at_call 123; refine (formSize_any _ (by omega) (by omega) _).mono ?_; rintro e w' ⟨rfl, rfl⟩; rw [Int.toNat_natCast, HS.out])
    go_ret
    exact ⟨rfl, rfl⟩
  · have h0 : ((s : Int) == 0) = false := by simp; omega
    have h1 : (l.length : Int) - (k : Int) < (s : Int) := by omega
    go_enter Tryd.func113, Tryd.ntmps113
    go_wp2_with (go_at_call 123; refine (formSize_any _ (by omega) (by omega) _).mono ?_; rintro e w' ⟨rfl, rfl⟩; rw [Int.toNat_natCast, HS.out])
    go_ret
    exact ⟨rfl, rfl⟩

set_option maxHeartbeats 400000 in
theorem runeAt_one (A : Option Addr) (l : List UInt8) (c k : Nat) (w : World) (hl : l.length ≤ c) (hc9 : c ≤ 9223372036854775807) (hT : Tab w) (hA : Bs w A l) (hk : k < l.length) (hs : formSz (l[k]).toNat = 1) (hcs : codeSz (l[k]).toNat = 1) :
    Calls Tryd.prog 113 #[.slice A l.length c, .int .i64 k] w fun e w' => e = .returned (.int .i64 (l[k]).toNat) ∧ ∃ n, w' = w.drewN n := by
  obtain ⟨b, off, rfl, hlt, hc⟩ := hA k hk
  have hu := (l[k]).toNat_lt
  have HS := Lib.hid hs
  clear hs
  have HC := Lib.hid hcs
  clear hcs
  have hg := hT.c1
  obtain ⟨A', hsl⟩ : ∃ A' : Option Addr, (if c = k + 1 then some (⟨b, off, none⟩ : Addr) else some ⟨b, off + (k + 1), none⟩) = A' := ⟨_, rfl⟩
  go_enter Tryd.func113, Tryd.ntmps113
  go_wp2_with (go_at_call 123; refine (formSize_any _ (by omega) (by omega) _).mono ?_; rintro e w' ⟨rfl, rfl⟩; rw [Int.toNat_natCast, HS.out])
  go_quiet (fail)
  go_wp2_with (go_at_call 112; refine (codeSize_any _ _).mono ?_; rintro e w' ⟨rfl, rfl⟩; rw [HC.out])
  go_ret
  exact ⟨rfl, _, rfl⟩

end Go.Proofs.YtpipkmnmdipeeaaDoor
