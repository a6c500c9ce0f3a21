/-
  Chapter 1, the model's decoding: contracts. Own work.
  Chapter 1, the model's decoding by forms: contracts (made by tools/gen_s01.py). Own work.
  Chapter 1, the model's l01Rune whole, RuneSize, RuneAt: contracts. Own work.
  Chapter 1, the model's l01Cuts and what is read off it: contracts. Own work.
  Chapter 1, the model's TextOk, RuneCount, PlaceOf, RunesTo, CutOk: contracts. Own work.
-/
import Derived.Test.YtgpjjolgpppeeaaDoorI01f
import Derived.Laws.IdiomStrings
import Derived.Deep.RegionWith
namespace Go.Proofs.YtgpjjolgpppeeaaDoor
open Go.RowKit P
set_option linter.unusedVariables false

theorem run_conv_bs {W : World} {A : Option Addr} {l : List UInt8} (c n : Nat) (hn : n = l.length) (h : Bs W A l) :
    (convert 22 9 (.slice A n c)).run Tryd.prog W = .ok (.string ⟨l.toArray⟩) W := by
  subst hn
  cases A with
  | none =>
    have : l = [] := by
      cases l with
      | nil => rfl
      | cons x t => obtain ⟨b, off, e, _⟩ := h 0 (by simp); cases e
    subst this
    exact run_convert_bytes_nil W 22 5 Tryd.underlying22 Tryd.underlying5 0 c 9 Tryd.underlying9
  | some a =>
    refine run_convert_bytes_back W 22 9 5 a c l Tryd.underlying22 Tryd.underlying5 Tryd.underlying9 (fun j hj => ?_)
    obtain ⟨b, off, e, _, hc⟩ := h j hj
    cases e
    have hadd : (⟨b, off, none⟩ : Addr).add j = ⟨b, off + j, none⟩ := by unfold Addr.add; split <;> simp_all
    rw [hadd, hc]

set_option maxHeartbeats 400000 in
theorem l01Rune_out (A : Option Addr) (l : List UInt8) (c : Nat) (at_ : Int) (w : World) (h : at_ < 0 ∨ (l.length : Int) ≤ at_) :
    Calls Tryd.prog 118 #[.slice A l.length c, .int .i64 at_] w fun e w' => e = .returned (.tuple #[.int .i64 (-1), .int .i64 0]) ∧ Below w.heap.size w w' := by
  go_enter Tryd.func118, Tryd.ntmps118
  go_wp2
  all_goals go_ret2
  all_goals exact ⟨rfl, Below.refl _ _⟩

end Go.Proofs.YtgpjjolgpppeeaaDoor

namespace Go.Proofs.YtgpjjolgpppeeaaDoor
open Go.RowKit P
set_option linter.unusedVariables false

set_option maxRecDepth 100000 in
set_option maxHeartbeats 1000000 in
theorem l01Rune_one_eq (A : Option Addr) (l : List UInt8) (c k : Nat) (r : Int) (w : World) (hl : l.length ≤ c) (hc9 : c ≤ 9223372036854775807) (hA : Bs w A l) (hk : k + 1 ≤ l.length)
    (h1 : (l[k]).toNat < 192) (hx : (l.drop k).take 1 = [l[k]]) (hr : ((l[k]).toNat : Int) = r) (he : enc r = [l[k]]) :
    Calls Tryd.prog 118 #[.slice A l.length c, .int .i64 k] w fun e w' => e = .returned (.tuple #[.int .i64 r, .int .i64 1]) ∧ Below w.heap.size w w' := by
  obtain ⟨b, off, rfl, hlt, hc⟩ := hA k (by omega)
  have hu := (l[k]).toNat_lt
  obtain ⟨bn, hbn⟩ : ∃ bn : Int, bn = (l[k]).toNat := ⟨_, rfl⟩
  rw [← hbn] at hc hr
  have hsub := hA.sub k 1
  rw [hx] at hsub
  have HR := Lib.hid hr
  clear hr
  have HE := Lib.hid he
  clear he
  have hcap : ¬ c = k := by omega
  have h1' : 0 ≤ bn ∧ bn < 192 := by omega
  have HBN := Lib.hid hbn
  clear hbn h1 hu
  have hkk : 0 ≤ (k : Int) ∧ (k : Int) < (l.length : Int) := by omega
  have hlk : (1 : Int) ≤ (l.length : Int) - (k : Int) := by omega
  go_enter Tryd.func118, Tryd.ntmps118
  go_wp2
  go_rounds 5
  have hcv : ∀ W, Below w.heap.size w W → (convert 22 9 (.slice (some ⟨b, off + k, none⟩) 1 (c - k))).run Tryd.prog W = .ok (.string ⟨([l[k]] : List UInt8).toArray⟩) W := fun W hb => run_conv_bs (c - k) 1 rfl (hsub.below hb)
  have hcv0 := hcv w.drew (below_of_drewN w 1)
  have hw0 : 0 ≤ (k : Int) := by omega
  have hw2 : 0 ≤ (k : Int) + 1 := by omega
  have hw3 : (k : Int) + 1 ≤ (c : Int) := by omega
  have hw4 : (k : Int) ≤ (k : Int) + 1 := by omega
  have hw5 : ((k : Int) + 1).toNat = k + 1 := by omega
  have hw1 : IntKind.i64.wrap ((k : Int) + 1) = (k : Int) + 1 := IntWalk.i64_in _ ⟨by omega, by omega⟩
  go_region_with (go_at_call 112; refine (specRuneBytes_any _ _).mono ?_; rintro e w1 ⟨v, rfl, hown, hbel⟩; rw [HR.out, HE.out] at hown; obtain ⟨A1, c1, rfl, hc1, hc2, hB1⟩ := hown.form; have hcv1 := hcv w1 (below_then (below_of_drewN w 1) hbel); have hcv2 := run_conv_bs c1 1 rfl hB1; clear hB1)
  all_goals clear hw0 hw1 hw2 hw3 hw4 hw5 hcv hcv0
  all_goals go_wp2
  all_goals go_ret2
  all_goals exact ⟨by rw [← HR.out]; rfl, below_then (below_of_drewN w 1) (by assumption)⟩

set_option maxRecDepth 100000 in
set_option maxHeartbeats 1000000 in
theorem l01Rune_one_ne (A : Option Addr) (l : List UInt8) (c k : Nat) (r : Int) (w : World) (hl : l.length ≤ c) (hc9 : c ≤ 9223372036854775807) (hA : Bs w A l) (hk : k + 1 ≤ l.length)
    (h1 : (l[k]).toNat < 192) (hx : (l.drop k).take 1 = [l[k]]) (hr : ((l[k]).toNat : Int) = r) (hne : enc r ≠ [l[k]]) :
    Calls Tryd.prog 118 #[.slice A l.length c, .int .i64 k] w fun e w' => e = .returned (.tuple #[.int .i64 (-1), .int .i64 0]) ∧ Below w.heap.size w w' := by
  obtain ⟨b, off, rfl, hlt, hc⟩ := hA k (by omega)
  have hu := (l[k]).toNat_lt
  obtain ⟨bn, hbn⟩ : ∃ bn : Int, bn = (l[k]).toNat := ⟨_, rfl⟩
  rw [← hbn] at hc hr
  have hsub := hA.sub k 1
  rw [hx] at hsub
  have HR := Lib.hid hr
  clear hr
  obtain ⟨es, hes⟩ : ∃ es, enc r = es := ⟨_, rfl⟩
  rw [hes] at hne
  have hs1 : (es == [l[k]]) = false := beq_eq_false_iff_ne.2 hne
  have HE := Lib.hid hes
  have HN := Lib.hid hne
  clear hes hne
  have hcap : ¬ c = k := by omega
  have h1' : 0 ≤ bn ∧ bn < 192 := by omega
  have HBN := Lib.hid hbn
  clear hbn h1 hu
  have hkk : 0 ≤ (k : Int) ∧ (k : Int) < (l.length : Int) := by omega
  have hlk : (1 : Int) ≤ (l.length : Int) - (k : Int) := by omega
  go_enter Tryd.func118, Tryd.ntmps118
  go_wp2
  go_rounds 5
  have hcv : ∀ W, Below w.heap.size w W → (convert 22 9 (.slice (some ⟨b, off + k, none⟩) 1 (c - k))).run Tryd.prog W = .ok (.string ⟨([l[k]] : List UInt8).toArray⟩) W := fun W hb => run_conv_bs (c - k) 1 rfl (hsub.below hb)
  have hcv0 := hcv w.drew (below_of_drewN w 1)
  have hw0 : 0 ≤ (k : Int) := by omega
  have hw2 : 0 ≤ (k : Int) + 1 := by omega
  have hw3 : (k : Int) + 1 ≤ (c : Int) := by omega
  have hw4 : (k : Int) ≤ (k : Int) + 1 := by omega
  have hw5 : ((k : Int) + 1).toNat = k + 1 := by omega
  have hw1 : IntKind.i64.wrap ((k : Int) + 1) = (k : Int) + 1 := IntWalk.i64_in _ ⟨by omega, by omega⟩
  go_region_with (go_at_call 112; refine (specRuneBytes_any _ _).mono ?_; rintro e w1 ⟨v, rfl, hown, hbel⟩; rw [HR.out, HE.out] at hown; obtain ⟨A1, c1, rfl, hc1, hc2, hB1⟩ := hown.form; have hcv1 := hcv w1 (below_then (below_of_drewN w 1) hbel); have hcv2 := run_conv_bs c1 es.length rfl hB1; clear hB1)
  all_goals clear hw0 hw1 hw2 hw3 hw4 hw5 hcv hcv0
  all_goals go_wp2
  all_goals go_ret2
  all_goals exact ⟨rfl, below_then (below_of_drewN w 1) (by assumption)⟩

set_option maxRecDepth 100000 in
set_option maxHeartbeats 1000000 in
theorem l01Rune_two_eq (A : Option Addr) (l : List UInt8) (c k : Nat) (x : UInt8) (r : Int) (w : World) (hl : l.length ≤ c) (hc9 : c ≤ 9223372036854775807) (hA : Bs w A l) (hk : k + 2 ≤ l.length)
    (h1 : 192 ≤ (l[k]).toNat ∧ (l[k]).toNat < 224) (hx : (l.drop k).take 2 = [l[k], x]) (hr : (64 * (((l[k]).toNat : Int) - 192) + x.toNat - 128) = r) (he : enc r = [l[k], x]) :
    Calls Tryd.prog 118 #[.slice A l.length c, .int .i64 k] w fun e w' => e = .returned (.tuple #[.int .i64 r, .int .i64 2]) ∧ Below w.heap.size w w' := by
  obtain ⟨b, off, rfl, hlt, hc⟩ := hA k (by omega)
  have hu := (l[k]).toNat_lt
  obtain ⟨bn, hbn⟩ : ∃ bn : Int, bn = (l[k]).toNat := ⟨_, rfl⟩
  rw [← hbn] at hc hr
  have hux := x.toNat_lt
  have hsub := hA.sub k 2
  rw [hx] at hsub
  have cc1 : w.cell? ⟨b, off + (k + 1), none⟩ = some (.int .u8 x.toNat) := by obtain ⟨_, _, e, _, h⟩ := hsub 1 (by simp); cases e; simpa [Nat.add_assoc] using h
  have HR := Lib.hid hr
  clear hr
  have HE := Lib.hid he
  clear he
  have hcap : ¬ c = k := by omega
  have h1' : 192 ≤ bn ∧ bn < 224 := by omega
  have HBN := Lib.hid hbn
  clear hbn h1 hu
  have hkk : 0 ≤ (k : Int) ∧ (k : Int) < (l.length : Int) := by omega
  have hlk : (2 : Int) ≤ (l.length : Int) - (k : Int) := by omega
  go_enter Tryd.func118, Tryd.ntmps118
  go_wp2
  go_rounds 5
  have hcv : ∀ W, Below w.heap.size w W → (convert 22 9 (.slice (some ⟨b, off + k, none⟩) 2 (c - k))).run Tryd.prog W = .ok (.string ⟨([l[k], x] : List UInt8).toArray⟩) W := fun W hb => run_conv_bs (c - k) 2 rfl (hsub.below hb)
  have hcv0 := hcv w.drew (below_of_drewN w 1)
  have hw0 : 0 ≤ (k : Int) := by omega
  have hw2 : 0 ≤ (k : Int) + 2 := by omega
  have hw3 : (k : Int) + 2 ≤ (c : Int) := by omega
  have hw4 : (k : Int) ≤ (k : Int) + 2 := by omega
  have hw5 : ((k : Int) + 2).toNat = k + 2 := by omega
  have hw1 : IntKind.i64.wrap ((k : Int) + 2) = (k : Int) + 2 := IntWalk.i64_in _ ⟨by omega, by omega⟩
  go_region_with (go_at_call 112; refine (specRuneBytes_any _ _).mono ?_; rintro e w1 ⟨v, rfl, hown, hbel⟩; rw [HR.out, HE.out] at hown; obtain ⟨A1, c1, rfl, hc1, hc2, hB1⟩ := hown.form; have hcv1 := hcv w1 (below_then (below_of_drewN w 1) hbel); have hcv2 := run_conv_bs c1 2 rfl hB1; clear hB1)
  all_goals clear hw0 hw1 hw2 hw3 hw4 hw5 hcv hcv0
  all_goals go_wp2
  all_goals go_ret2
  all_goals exact ⟨by rw [← HR.out]; rfl, below_then (below_of_drewN w 1) (by assumption)⟩

set_option maxRecDepth 100000 in
set_option maxHeartbeats 1000000 in
theorem l01Rune_two_ne (A : Option Addr) (l : List UInt8) (c k : Nat) (x : UInt8) (r : Int) (w : World) (hl : l.length ≤ c) (hc9 : c ≤ 9223372036854775807) (hA : Bs w A l) (hk : k + 2 ≤ l.length)
    (h1 : 192 ≤ (l[k]).toNat ∧ (l[k]).toNat < 224) (hx : (l.drop k).take 2 = [l[k], x]) (hr : (64 * (((l[k]).toNat : Int) - 192) + x.toNat - 128) = r) (hne : enc r ≠ [l[k], x]) :
    Calls Tryd.prog 118 #[.slice A l.length c, .int .i64 k] w fun e w' => e = .returned (.tuple #[.int .i64 (-1), .int .i64 0]) ∧ Below w.heap.size w w' := by
  obtain ⟨b, off, rfl, hlt, hc⟩ := hA k (by omega)
  have hu := (l[k]).toNat_lt
  obtain ⟨bn, hbn⟩ : ∃ bn : Int, bn = (l[k]).toNat := ⟨_, rfl⟩
  rw [← hbn] at hc hr
  have hux := x.toNat_lt
  have hsub := hA.sub k 2
  rw [hx] at hsub
  have cc1 : w.cell? ⟨b, off + (k + 1), none⟩ = some (.int .u8 x.toNat) := by obtain ⟨_, _, e, _, h⟩ := hsub 1 (by simp); cases e; simpa [Nat.add_assoc] using h
  have HR := Lib.hid hr
  clear hr
  obtain ⟨es, hes⟩ : ∃ es, enc r = es := ⟨_, rfl⟩
  rw [hes] at hne
  have hs1 : (es == [l[k], x]) = false := beq_eq_false_iff_ne.2 hne
  have HE := Lib.hid hes
  have HN := Lib.hid hne
  clear hes hne
  have hcap : ¬ c = k := by omega
  have h1' : 192 ≤ bn ∧ bn < 224 := by omega
  have HBN := Lib.hid hbn
  clear hbn h1 hu
  have hkk : 0 ≤ (k : Int) ∧ (k : Int) < (l.length : Int) := by omega
  have hlk : (2 : Int) ≤ (l.length : Int) - (k : Int) := by omega
  go_enter Tryd.func118, Tryd.ntmps118
  go_wp2
  go_rounds 5
  have hcv : ∀ W, Below w.heap.size w W → (convert 22 9 (.slice (some ⟨b, off + k, none⟩) 2 (c - k))).run Tryd.prog W = .ok (.string ⟨([l[k], x] : List UInt8).toArray⟩) W := fun W hb => run_conv_bs (c - k) 2 rfl (hsub.below hb)
  have hcv0 := hcv w.drew (below_of_drewN w 1)
  have hw0 : 0 ≤ (k : Int) := by omega
  have hw2 : 0 ≤ (k : Int) + 2 := by omega
  have hw3 : (k : Int) + 2 ≤ (c : Int) := by omega
  have hw4 : (k : Int) ≤ (k : Int) + 2 := by omega
  have hw5 : ((k : Int) + 2).toNat = k + 2 := by omega
  have hw1 : IntKind.i64.wrap ((k : Int) + 2) = (k : Int) + 2 := IntWalk.i64_in _ ⟨by omega, by omega⟩
  go_region_with (go_at_call 112; refine (specRuneBytes_any _ _).mono ?_; rintro e w1 ⟨v, rfl, hown, hbel⟩; rw [HR.out, HE.out] at hown; obtain ⟨A1, c1, rfl, hc1, hc2, hB1⟩ := hown.form; have hcv1 := hcv w1 (below_then (below_of_drewN w 1) hbel); have hcv2 := run_conv_bs c1 es.length rfl hB1; clear hB1)
  all_goals clear hw0 hw1 hw2 hw3 hw4 hw5 hcv hcv0
  all_goals go_wp2
  all_goals go_ret2
  all_goals exact ⟨rfl, below_then (below_of_drewN w 1) (by assumption)⟩

set_option maxRecDepth 100000 in
set_option maxHeartbeats 1000000 in
theorem l01Rune_three_eq (A : Option Addr) (l : List UInt8) (c k : Nat) (x y : UInt8) (r : Int) (w : World) (hl : l.length ≤ c) (hc9 : c ≤ 9223372036854775807) (hA : Bs w A l) (hk : k + 3 ≤ l.length)
    (h1 : 224 ≤ (l[k]).toNat ∧ (l[k]).toNat < 240) (hx : (l.drop k).take 3 = [l[k], x, y]) (hr : (64 * (64 * (((l[k]).toNat : Int) - 224) + x.toNat - 128) + y.toNat - 128) = r) (he : enc r = [l[k], x, y]) :
    Calls Tryd.prog 118 #[.slice A l.length c, .int .i64 k] w fun e w' => e = .returned (.tuple #[.int .i64 r, .int .i64 3]) ∧ Below w.heap.size w w' := by
  obtain ⟨b, off, rfl, hlt, hc⟩ := hA k (by omega)
  have hu := (l[k]).toNat_lt
  obtain ⟨bn, hbn⟩ : ∃ bn : Int, bn = (l[k]).toNat := ⟨_, rfl⟩
  rw [← hbn] at hc hr
  have hux := x.toNat_lt
  have huy := y.toNat_lt
  have hsub := hA.sub k 3
  rw [hx] at hsub
  have cc1 : w.cell? ⟨b, off + (k + 1), none⟩ = some (.int .u8 x.toNat) := by obtain ⟨_, _, e, _, h⟩ := hsub 1 (by simp); cases e; simpa [Nat.add_assoc] using h
  have cc2 : w.cell? ⟨b, off + (k + 2), none⟩ = some (.int .u8 y.toNat) := by obtain ⟨_, _, e, _, h⟩ := hsub 2 (by simp); cases e; simpa [Nat.add_assoc] using h
  have HR := Lib.hid hr
  clear hr
  have HE := Lib.hid he
  clear he
  have hcap : ¬ c = k := by omega
  have h1' : 224 ≤ bn ∧ bn < 240 := by omega
  have HBN := Lib.hid hbn
  clear hbn h1 hu
  have hkk : 0 ≤ (k : Int) ∧ (k : Int) < (l.length : Int) := by omega
  have hlk : (3 : Int) ≤ (l.length : Int) - (k : Int) := by omega
  go_enter Tryd.func118, Tryd.ntmps118
  go_wp2
  go_rounds 5
  have hcv : ∀ W, Below w.heap.size w W → (convert 22 9 (.slice (some ⟨b, off + k, none⟩) 3 (c - k))).run Tryd.prog W = .ok (.string ⟨([l[k], x, y] : List UInt8).toArray⟩) W := fun W hb => run_conv_bs (c - k) 3 rfl (hsub.below hb)
  have hcv0 := hcv w.drew (below_of_drewN w 1)
  have hw0 : 0 ≤ (k : Int) := by omega
  have hw2 : 0 ≤ (k : Int) + 3 := by omega
  have hw3 : (k : Int) + 3 ≤ (c : Int) := by omega
  have hw4 : (k : Int) ≤ (k : Int) + 3 := by omega
  have hw5 : ((k : Int) + 3).toNat = k + 3 := by omega
  have hw1 : IntKind.i64.wrap ((k : Int) + 3) = (k : Int) + 3 := IntWalk.i64_in _ ⟨by omega, by omega⟩
  go_region_with (go_at_call 112; refine (specRuneBytes_any _ _).mono ?_; rintro e w1 ⟨v, rfl, hown, hbel⟩; rw [HR.out, HE.out] at hown; obtain ⟨A1, c1, rfl, hc1, hc2, hB1⟩ := hown.form; have hcv1 := hcv w1 (below_then (below_of_drewN w 1) hbel); have hcv2 := run_conv_bs c1 3 rfl hB1; clear hB1)
  all_goals clear hw0 hw1 hw2 hw3 hw4 hw5 hcv hcv0
  all_goals go_wp2
  all_goals go_ret2
  all_goals exact ⟨by rw [← HR.out]; rfl, below_then (below_of_drewN w 1) (by assumption)⟩

set_option maxRecDepth 100000 in
set_option maxHeartbeats 1000000 in
theorem l01Rune_three_ne (A : Option Addr) (l : List UInt8) (c k : Nat) (x y : UInt8) (r : Int) (w : World) (hl : l.length ≤ c) (hc9 : c ≤ 9223372036854775807) (hA : Bs w A l) (hk : k + 3 ≤ l.length)
    (h1 : 224 ≤ (l[k]).toNat ∧ (l[k]).toNat < 240) (hx : (l.drop k).take 3 = [l[k], x, y]) (hr : (64 * (64 * (((l[k]).toNat : Int) - 224) + x.toNat - 128) + y.toNat - 128) = r) (hne : enc r ≠ [l[k], x, y]) :
    Calls Tryd.prog 118 #[.slice A l.length c, .int .i64 k] w fun e w' => e = .returned (.tuple #[.int .i64 (-1), .int .i64 0]) ∧ Below w.heap.size w w' := by
  obtain ⟨b, off, rfl, hlt, hc⟩ := hA k (by omega)
  have hu := (l[k]).toNat_lt
  obtain ⟨bn, hbn⟩ : ∃ bn : Int, bn = (l[k]).toNat := ⟨_, rfl⟩
  rw [← hbn] at hc hr
  have hux := x.toNat_lt
  have huy := y.toNat_lt
  have hsub := hA.sub k 3
  rw [hx] at hsub
  have cc1 : w.cell? ⟨b, off + (k + 1), none⟩ = some (.int .u8 x.toNat) := by obtain ⟨_, _, e, _, h⟩ := hsub 1 (by simp); cases e; simpa [Nat.add_assoc] using h
  have cc2 : w.cell? ⟨b, off + (k + 2), none⟩ = some (.int .u8 y.toNat) := by obtain ⟨_, _, e, _, h⟩ := hsub 2 (by simp); cases e; simpa [Nat.add_assoc] using h
  have HR := Lib.hid hr
  clear hr
  obtain ⟨es, hes⟩ : ∃ es, enc r = es := ⟨_, rfl⟩
  rw [hes] at hne
  have hs1 : (es == [l[k], x, y]) = false := beq_eq_false_iff_ne.2 hne
  have HE := Lib.hid hes
  have HN := Lib.hid hne
  clear hes hne
  have hcap : ¬ c = k := by omega
  have h1' : 224 ≤ bn ∧ bn < 240 := by omega
  have HBN := Lib.hid hbn
  clear hbn h1 hu
  have hkk : 0 ≤ (k : Int) ∧ (k : Int) < (l.length : Int) := by omega
  have hlk : (3 : Int) ≤ (l.length : Int) - (k : Int) := by omega
  go_enter Tryd.func118, Tryd.ntmps118
  go_wp2
  go_rounds 5
  have hcv : ∀ W, Below w.heap.size w W → (convert 22 9 (.slice (some ⟨b, off + k, none⟩) 3 (c - k))).run Tryd.prog W = .ok (.string ⟨([l[k], x, y] : List UInt8).toArray⟩) W := fun W hb => run_conv_bs (c - k) 3 rfl (hsub.below hb)
  have hcv0 := hcv w.drew (below_of_drewN w 1)
  have hw0 : 0 ≤ (k : Int) := by omega
  have hw2 : 0 ≤ (k : Int) + 3 := by omega
  have hw3 : (k : Int) + 3 ≤ (c : Int) := by omega
  have hw4 : (k : Int) ≤ (k : Int) + 3 := by omega
  have hw5 : ((k : Int) + 3).toNat = k + 3 := by omega
  have hw1 : IntKind.i64.wrap ((k : Int) + 3) = (k : Int) + 3 := IntWalk.i64_in _ ⟨by omega, by omega⟩
  go_region_with (go_at_call 112; refine (specRuneBytes_any _ _).mono ?_; rintro e w1 ⟨v, rfl, hown, hbel⟩; rw [HR.out, HE.out] at hown; obtain ⟨A1, c1, rfl, hc1, hc2, hB1⟩ := hown.form; have hcv1 := hcv w1 (below_then (below_of_drewN w 1) hbel); have hcv2 := run_conv_bs c1 es.length rfl hB1; clear hB1)
  all_goals clear hw0 hw1 hw2 hw3 hw4 hw5 hcv hcv0
  all_goals go_wp2
  all_goals go_ret2
  all_goals exact ⟨rfl, below_then (below_of_drewN w 1) (by assumption)⟩

set_option maxRecDepth 100000 in
set_option maxHeartbeats 1000000 in
theorem l01Rune_four_eq (A : Option Addr) (l : List UInt8) (c k : Nat) (x y z : UInt8) (r : Int) (w : World) (hl : l.length ≤ c) (hc9 : c ≤ 9223372036854775807) (hA : Bs w A l) (hk : k + 4 ≤ l.length)
    (h1 : 240 ≤ (l[k]).toNat) (hx : (l.drop k).take 4 = [l[k], x, y, z]) (hr : (64 * (64 * (64 * (((l[k]).toNat : Int) - 240) + x.toNat - 128) + y.toNat - 128) + z.toNat - 128) = r) (he : enc r = [l[k], x, y, z]) :
    Calls Tryd.prog 118 #[.slice A l.length c, .int .i64 k] w fun e w' => e = .returned (.tuple #[.int .i64 r, .int .i64 4]) ∧ Below w.heap.size w w' := by
  obtain ⟨b, off, rfl, hlt, hc⟩ := hA k (by omega)
  have hu := (l[k]).toNat_lt
  obtain ⟨bn, hbn⟩ : ∃ bn : Int, bn = (l[k]).toNat := ⟨_, rfl⟩
  rw [← hbn] at hc hr
  have hux := x.toNat_lt
  have huy := y.toNat_lt
  have huz := z.toNat_lt
  have hsub := hA.sub k 4
  rw [hx] at hsub
  have cc1 : w.cell? ⟨b, off + (k + 1), none⟩ = some (.int .u8 x.toNat) := by obtain ⟨_, _, e, _, h⟩ := hsub 1 (by simp); cases e; simpa [Nat.add_assoc] using h
  have cc2 : w.cell? ⟨b, off + (k + 2), none⟩ = some (.int .u8 y.toNat) := by obtain ⟨_, _, e, _, h⟩ := hsub 2 (by simp); cases e; simpa [Nat.add_assoc] using h
  have cc3 : w.cell? ⟨b, off + (k + 3), none⟩ = some (.int .u8 z.toNat) := by obtain ⟨_, _, e, _, h⟩ := hsub 3 (by simp); cases e; simpa [Nat.add_assoc] using h
  have HR := Lib.hid hr
  clear hr
  have HE := Lib.hid he
  clear he
  have hcap : ¬ c = k := by omega
  have h1' : 240 ≤ bn ∧ bn < 256 := by omega
  have HBN := Lib.hid hbn
  clear hbn h1 hu
  have hkk : 0 ≤ (k : Int) ∧ (k : Int) < (l.length : Int) := by omega
  have hlk : (4 : Int) ≤ (l.length : Int) - (k : Int) := by omega
  go_enter Tryd.func118, Tryd.ntmps118
  go_wp2
  go_rounds 5
  have hcv : ∀ W, Below w.heap.size w W → (convert 22 9 (.slice (some ⟨b, off + k, none⟩) 4 (c - k))).run Tryd.prog W = .ok (.string ⟨([l[k], x, y, z] : List UInt8).toArray⟩) W := fun W hb => run_conv_bs (c - k) 4 rfl (hsub.below hb)
  have hcv0 := hcv w.drew (below_of_drewN w 1)
  have hw0 : 0 ≤ (k : Int) := by omega
  have hw2 : 0 ≤ (k : Int) + 4 := by omega
  have hw3 : (k : Int) + 4 ≤ (c : Int) := by omega
  have hw4 : (k : Int) ≤ (k : Int) + 4 := by omega
  have hw5 : ((k : Int) + 4).toNat = k + 4 := by omega
  have hw1 : IntKind.i64.wrap ((k : Int) + 4) = (k : Int) + 4 := IntWalk.i64_in _ ⟨by omega, by omega⟩
  go_region_with (go_at_call 112; refine (specRuneBytes_any _ _).mono ?_; rintro e w1 ⟨v, rfl, hown, hbel⟩; rw [HR.out, HE.out] at hown; obtain ⟨A1, c1, rfl, hc1, hc2, hB1⟩ := hown.form; have hcv1 := hcv w1 (below_then (below_of_drewN w 1) hbel); have hcv2 := run_conv_bs c1 4 rfl hB1; clear hB1)
  all_goals clear hw0 hw1 hw2 hw3 hw4 hw5 hcv hcv0
  all_goals go_wp2
  all_goals go_ret2
  all_goals exact ⟨by rw [← HR.out]; rfl, below_then (below_of_drewN w 1) (by assumption)⟩

set_option maxRecDepth 100000 in
set_option maxHeartbeats 1000000 in
theorem l01Rune_four_ne (A : Option Addr) (l : List UInt8) (c k : Nat) (x y z : UInt8) (r : Int) (w : World) (hl : l.length ≤ c) (hc9 : c ≤ 9223372036854775807) (hA : Bs w A l) (hk : k + 4 ≤ l.length)
    (h1 : 240 ≤ (l[k]).toNat) (hx : (l.drop k).take 4 = [l[k], x, y, z]) (hr : (64 * (64 * (64 * (((l[k]).toNat : Int) - 240) + x.toNat - 128) + y.toNat - 128) + z.toNat - 128) = r) (hne : enc r ≠ [l[k], x, y, z]) :
    Calls Tryd.prog 118 #[.slice A l.length c, .int .i64 k] w fun e w' => e = .returned (.tuple #[.int .i64 (-1), .int .i64 0]) ∧ Below w.heap.size w w' := by
  obtain ⟨b, off, rfl, hlt, hc⟩ := hA k (by omega)
  have hu := (l[k]).toNat_lt
  obtain ⟨bn, hbn⟩ : ∃ bn : Int, bn = (l[k]).toNat := ⟨_, rfl⟩
  rw [← hbn] at hc hr
  have hux := x.toNat_lt
  have huy := y.toNat_lt
  have huz := z.toNat_lt
  have hsub := hA.sub k 4
  rw [hx] at hsub
  have cc1 : w.cell? ⟨b, off + (k + 1), none⟩ = some (.int .u8 x.toNat) := by obtain ⟨_, _, e, _, h⟩ := hsub 1 (by simp); cases e; simpa [Nat.add_assoc] using h
  have cc2 : w.cell? ⟨b, off + (k + 2), none⟩ = some (.int .u8 y.toNat) := by obtain ⟨_, _, e, _, h⟩ := hsub 2 (by simp); cases e; simpa [Nat.add_assoc] using h
  have cc3 : w.cell? ⟨b, off + (k + 3), none⟩ = some (.int .u8 z.toNat) := by obtain ⟨_, _, e, _, h⟩ := hsub 3 (by simp); cases e; simpa [Nat.add_assoc] using h
  have HR := Lib.hid hr
  clear hr
  obtain ⟨es, hes⟩ : ∃ es, enc r = es := ⟨_, rfl⟩
  rw [hes] at hne
  have hs1 : (es == [l[k], x, y, z]) = false := beq_eq_false_iff_ne.2 hne
  have HE := Lib.hid hes
  have HN := Lib.hid hne
  clear hes hne
  have hcap : ¬ c = k := by omega
  have h1' : 240 ≤ bn ∧ bn < 256 := by omega
  have HBN := Lib.hid hbn
  clear hbn h1 hu
  have hkk : 0 ≤ (k : Int) ∧ (k : Int) < (l.length : Int) := by omega
  have hlk : (4 : Int) ≤ (l.length : Int) - (k : Int) := by omega
  go_enter Tryd.func118, Tryd.ntmps118
  go_wp2
  go_rounds 5
  have hcv : ∀ W, Below w.heap.size w W → (convert 22 9 (.slice (some ⟨b, off + k, none⟩) 4 (c - k))).run Tryd.prog W = .ok (.string ⟨([l[k], x, y, z] : List UInt8).toArray⟩) W := fun W hb => run_conv_bs (c - k) 4 rfl (hsub.below hb)
  have hcv0 := hcv w.drew (below_of_drewN w 1)
  have hw0 : 0 ≤ (k : Int) := by omega
  have hw2 : 0 ≤ (k : Int) + 4 := by omega
  have hw3 : (k : Int) + 4 ≤ (c : Int) := by omega
  have hw4 : (k : Int) ≤ (k : Int) + 4 := by omega
  have hw5 : ((k : Int) + 4).toNat = k + 4 := by omega
  have hw1 : IntKind.i64.wrap ((k : Int) + 4) = (k : Int) + 4 := IntWalk.i64_in _ ⟨by omega, by omega⟩
  go_region_with (go_at_call 112; refine (specRuneBytes_any _ _).mono ?_; rintro e w1 ⟨v, rfl, hown, hbel⟩; rw [HR.out, HE.out] at hown; obtain ⟨A1, c1, rfl, hc1, hc2, hB1⟩ := hown.form; have hcv1 := hcv w1 (below_then (below_of_drewN w 1) hbel); have hcv2 := run_conv_bs c1 es.length rfl hB1; clear hB1)
  all_goals clear hw0 hw1 hw2 hw3 hw4 hw5 hcv hcv0
  all_goals go_wp2
  all_goals go_ret2
  all_goals exact ⟨rfl, below_then (below_of_drewN w 1) (by assumption)⟩

end Go.Proofs.YtgpjjolgpppeeaaDoor

namespace Go.Proofs.YtgpjjolgpppeeaaDoor
open Go.RowKit P
set_option linter.unusedVariables false

set_option maxHeartbeats 400000 in
theorem l01Rune_short (A : Option Addr) (l : List UInt8) (c k : Nat) (w : World) (hl : l.length ≤ c) (hc9 : c ≤ 9223372036854775807) (hA : Bs w A l) (hk : k < l.length) (h : l.length - k < rawSz (l[k]).toNat) :
    Calls Tryd.prog 118 #[.slice A l.length c, .int .i64 k] w fun e w' => e = .returned (.tuple #[.int .i64 (-1), .int .i64 0]) ∧ Below w.heap.size w w' := by
  obtain ⟨b, off, rfl, hlt, hc⟩ := hA k (by omega)
  have hu := (l[k]).toNat_lt
  obtain ⟨bn, hbn⟩ : ∃ bn : Int, bn = (l[k]).toNat := ⟨_, rfl⟩
  rw [← hbn] at hc
  have hkk : 0 ≤ (k : Int) ∧ (k : Int) < (l.length : Int) := by omega
  have h4 : (bn < 192 ∧ (l.length : Int) - (k : Int) < 1) ∨ (192 ≤ bn ∧ bn < 224 ∧ (l.length : Int) - (k : Int) < 2) ∨ (224 ≤ bn ∧ bn < 240 ∧ (l.length : Int) - (k : Int) < 3) ∨ (240 ≤ bn ∧ bn < 256 ∧ (l.length : Int) - (k : Int) < 4) := by
    unfold rawSz at h
    (repeat' split at h) <;> omega
  have HBN := Lib.hid hbn
  clear hbn hu h
  rcases h4 with ⟨h1, h2⟩ | ⟨h0, h1, h2⟩ | ⟨h0, h1, h2⟩ | ⟨h0, h1, h2⟩
  · omega
  all_goals
    go_enter Tryd.func118, Tryd.ntmps118
    go_wp2
    all_goals go_ret2
    all_goals exact ⟨rfl, Below.refl _ _⟩

theorem rawSz_bounds (b : Nat) (hb : b < 256) : (rawSz b = 1 ∧ b < 192) ∨ (rawSz b = 2 ∧ 192 ≤ b ∧ b < 224) ∨ (rawSz b = 3 ∧ 224 ≤ b ∧ b < 240) ∨ (rawSz b = 4 ∧ 240 ≤ b) := by
  unfold rawSz
  (repeat' split) <;> omega

theorem tup2 {a b c d : Int} (h1 : a = c) (h2 : b = d) : Ending.returned (.tuple #[.int .i64 a, .int .i64 b]) = .returned (.tuple #[.int .i64 c, .int .i64 d]) := by rw [h1, h2]

theorem l01Rune_any (A : Option Addr) (l : List UInt8) (c : Nat) (at_ : Int) (w : World) (hl : l.length ≤ c) (hc9 : c ≤ 9223372036854775807) (hA : Bs w A l) :
    Calls Tryd.prog 118 #[.slice A l.length c, .int .i64 at_] w fun e w' => e = .returned (.tuple #[.int .i64 (runeAt l at_), .int .i64 (runeSize l at_)]) ∧ Below w.heap.size w w' := by
  by_cases hr : at_ < 0 ∨ (l.length : Int) ≤ at_
  · have h1 : runeAt l at_ = -1 := by unfold runeAt; rw [if_pos hr]
    have h2 : runeSize l at_ = 0 := by unfold runeSize; rw [h1]; rfl
    rw [h1, h2]
    exact l01Rune_out A l c at_ w hr
  · obtain ⟨k, rfl⟩ := Int.eq_ofNat_of_zero_le (show 0 ≤ at_ by omega)
    have hk : k < l.length := by omega
    have hd : l.drop k = l[k] :: l.drop (k + 1) := List.drop_eq_getElem_cons hk
    have hv : runeAt l (k : Int) = decL (l[k] :: l.drop (k + 1)) := by
      unfold runeAt; rw [if_neg hr, Int.toNat_natCast, hd]
    have hv2 : runeSize l (k : Int) = sz (l[k] :: l.drop (k + 1)) := by unfold runeSize sz; rw [hv]
    rw [hv, hv2]
    have hlen : (l.drop (k + 1)).length + 1 = l.length - k := by rw [List.length_drop]; omega
    obtain ⟨d1, d2, d3⟩ := dec_raw (l[k]) (l.drop (k + 1))
    rw [hlen] at d1 d2 d3
    have hu := (l[k]).toNat_lt
    have zero : ∀ x, decL x = -1 → sz x = 0 := fun x e => by unfold sz; rw [e]; rfl
    by_cases hsh : l.length - k < rawSz (l[k]).toNat
    · have e1 := d1 hsh
      rw [e1, zero _ e1]
      exact l01Rune_short A l c k w hl hc9 hA hk hsh
    · have hle : rawSz (l[k]).toNat ≤ l.length - k := by omega
      have d2 := d2 hle
      have d3 := d3 hle
      rw [← hd] at d2 d3 ⊢
      have hrr : rawR (l[k]) (l.drop (k + 1)) = ((l.drop (k + 1)).take (rawSz (l[k]).toNat - 1)).foldl (fun r x => 64 * r + (x.toNat : Int) - 128) (((l[k]).toNat : Int) - leadM (rawSz (l[k]).toNat)) := rfl
      have htl : ((l.drop (k + 1)).take (rawSz (l[k]).toNat - 1)).length = rawSz (l[k]).toNat - 1 := by rw [List.length_take]; omega
      have htk : (l.drop k).take (rawSz (l[k]).toNat) = l[k] :: (l.drop (k + 1)).take (rawSz (l[k]).toNat - 1) := by
        rw [hd]
        have : rawSz (l[k]).toNat = (rawSz (l[k]).toNat - 1) + 1 := by rcases rawSz_bounds _ hu with h | h | h | h <;> omega
        conv => lhs; rw [this, List.take_succ_cons]
      rcases rawSz_bounds _ hu with ⟨hs, hb⟩ | ⟨hs, hb⟩ | ⟨hs, hb⟩ | ⟨hs, hb⟩ <;> rw [hs] at d2 d3 hrr htl htk hle
      · have hx : (l.drop (k + 1)).take (1 - 1) = [] := by simp
        rw [hx] at hrr htk
        have hR : ((l[k]).toNat : Int) = rawR (l[k]) (l.drop (k + 1)) := by rw [hrr]; simp [leadM]
        rw [htk] at d2 d3
        by_cases he : enc (rawR (l[k]) (l.drop (k + 1))) = [l[k]]
        · obtain ⟨e1, e2⟩ := d2 he
          rw [e1, e2]
          exact l01Rune_one_eq A l c k _ w hl hc9 hA (by omega) hb htk hR he
        · have e1 := d3 he
          rw [e1, zero _ e1]
          exact l01Rune_one_ne A l c k _ w hl hc9 hA (by omega) hb htk hR he
      · obtain ⟨x, hx⟩ : ∃ x, (l.drop (k + 1)).take (2 - 1) = [x] := by
          match h : (l.drop (k + 1)).take (2 - 1), htl with
          | [x], _ => exact ⟨x, rfl⟩
        rw [hx] at hrr htk
        have hR : (64 * (((l[k]).toNat : Int) - 192) + x.toNat - 128) = rawR (l[k]) (l.drop (k + 1)) := by rw [hrr]; simp [leadM]
        rw [htk] at d2 d3
        by_cases he : enc (rawR (l[k]) (l.drop (k + 1))) = [l[k], x]
        · obtain ⟨e1, e2⟩ := d2 he
          rw [e1, e2]
          exact l01Rune_two_eq A l c k x _ w hl hc9 hA (by omega) hb htk hR he
        · have e1 := d3 he
          rw [e1, zero _ e1]
          exact l01Rune_two_ne A l c k x _ w hl hc9 hA (by omega) hb htk hR he
      · obtain ⟨x, y, hx⟩ : ∃ x y, (l.drop (k + 1)).take (3 - 1) = [x, y] := by
          match h : (l.drop (k + 1)).take (3 - 1), htl with
          | [x, y], _ => exact ⟨x, y, rfl⟩
        rw [hx] at hrr htk
        have hR : (64 * (64 * (((l[k]).toNat : Int) - 224) + x.toNat - 128) + y.toNat - 128) = rawR (l[k]) (l.drop (k + 1)) := by rw [hrr]; simp [leadM]
        rw [htk] at d2 d3
        by_cases he : enc (rawR (l[k]) (l.drop (k + 1))) = [l[k], x, y]
        · obtain ⟨e1, e2⟩ := d2 he
          rw [e1, e2]
          exact l01Rune_three_eq A l c k x y _ w hl hc9 hA (by omega) hb htk hR he
        · have e1 := d3 he
          rw [e1, zero _ e1]
          exact l01Rune_three_ne A l c k x y _ w hl hc9 hA (by omega) hb htk hR he
      · obtain ⟨x, y, z, hx⟩ : ∃ x y z, (l.drop (k + 1)).take (4 - 1) = [x, y, z] := by
          match h : (l.drop (k + 1)).take (4 - 1), htl with
          | [x, y, z], _ => exact ⟨x, y, z, rfl⟩
        rw [hx] at hrr htk
        have hR : (64 * (64 * (64 * (((l[k]).toNat : Int) - 240) + x.toNat - 128) + y.toNat - 128) + z.toNat - 128) = rawR (l[k]) (l.drop (k + 1)) := by rw [hrr]; simp [leadM]
        rw [htk] at d2 d3
        by_cases he : enc (rawR (l[k]) (l.drop (k + 1))) = [l[k], x, y, z]
        · obtain ⟨e1, e2⟩ := d2 he
          rw [e1, e2]
          exact l01Rune_four_eq A l c k x y z _ w hl hc9 hA (by omega) hb htk hR he
        · have e1 := d3 he
          rw [e1, zero _ e1]
          exact l01Rune_four_ne A l c k x y z _ w hl hc9 hA (by omega) hb htk hR he

set_option maxHeartbeats 400000 in
theorem specRuneSize_any (A : Option Addr) (l : List UInt8) (c : Nat) (at_ : Int) (w : World) (hl : l.length ≤ c) (hc9 : c ≤ 9223372036854775807) (hA : Bs w A l) :
    Calls Tryd.prog 115 #[.slice A l.length c, .int .i64 at_] w fun e w' => e = .returned (.int .i64 (runeSize l at_)) ∧ Below w.heap.size w w' := by
  go_enter Tryd.func115, Tryd.ntmps115
  go_wp2_with fail
  refine (l01Rune_any A l c at_ _ hl hc9 (by exact hA)).mono ?_
  rintro e w1 ⟨rfl, hb⟩
  go_wp2
  go_ret
  exact ⟨rfl, hb⟩

end Go.Proofs.YtgpjjolgpppeeaaDoor

namespace Go.Proofs.YtgpjjolgpppeeaaDoor
open Go.RowKit P
set_option linter.unusedVariables false

def nV (n : Nat) : Value := .int .i64 (n : Int)

/-- v is a slice of ints of the call's own that holds the numbers l. -/
def OwnN (w : World) (base : Nat) (v : Value) (l : List Nat) : Prop := w.ownsRow base 3 1 v l.length (l.map nV)

theorem OwnN.form {w : World} {base : Nat} {v : Value} {l : List Nat} (h : OwnN w base v l) : ∃ A c, v = .slice A l.length c ∧ l.length ≤ c ∧ c ≤ maxLen ∧
    ∀ k (hk : k < l.length), ∃ b off, A = some ⟨b, off, none⟩ ∧ w.cell? ⟨b, off + k, none⟩ = some (.int .i64 ((l[k] : Nat) : Int)) := by
  obtain ⟨h1, h2⟩ := h
  rcases h2 with ⟨rfl, h0⟩ | ⟨g, cap, cur, rfl, hb, hh, hn, hc, hs, ht⟩
  · have : l = [] := List.eq_nil_of_length_eq_zero h0
    subst this
    exact ⟨none, 0, rfl, Nat.le_refl _, by unfold maxLen; omega, fun k hk => by simp at hk⟩
  · refine ⟨_, cap, rfl, hn, hc, fun k hk => ⟨g, 0, rfl, ?_⟩⟩
    rw [Nat.zero_add, cell_of_row w g k cur _ (0, 0) hh]
    have h3 : (cur.toList.take (l.length * 1))[k]? = (l.map nV)[k]? := by rw [ht]
    rw [List.getElem?_take, if_pos (by omega)] at h3
    simp only [Array.getElem?_toList] at h3
    rw [h3]
    simp [hk, nV]

theorem OwnN.below {w w' : World} {base : Nat} {v : Value} {l : List Nat} (h : OwnN w base v l) (hb : Below w.heap.size w w') : OwnN w' base v l :=
  World.ownsRow.kept (w' := w') (row := none) h ⟨hb.os, hb.tape, hb.output, hb.size, fun k hk _ => hb.block k hk⟩ (by cases hv : v.ownBlock <;> simp)

theorem Tryd.infoI : (Tryd.prog.info? 3).map (fun i => (i.zero, i.size, i.bytes)) = some (some (.int .i64 0), 1, 8) := by kernel_rfl

theorem one_new {w : World} {t : TypeId} {u : Value} : ∀ j x, ([u] : List Value)[j]? = some x → (w.alloc (.cells #[u] t)).cell? ((⟨w.heap.size, 0, none⟩ : Addr).add j) = some x := by
  intro j x hx
  match j, hx with
  | 0, hx =>
    simp only [List.getElem?_cons_zero, Option.some.injEq] at hx
    subst hx
    rw [show (⟨w.heap.size, 0, none⟩ : Addr).add 0 = ⟨w.heap.size, 0, none⟩ from rfl, World.cell?_alloc_at _ _ _ _ rfl]
    rfl

theorem filter_len (l : List UInt8) (p : Nat) : ((List.range p).filter fun k : Nat => isBound l k).length ≤ p := by
  have := List.length_filter_le (fun k : Nat => isBound l k) (List.range p)
  simpa using this

set_option maxHeartbeats 2000000 in
theorem l01Cuts_any (A : Option Addr) (l : List UInt8) (c : Nat) (w : World) (hl : l.length ≤ c) (hc9 : c ≤ 9223372036854775807) (hA : Bs w A l) :
    Calls Tryd.prog 107 #[.slice A l.length c] w fun e w' => ∃ v, e = .returned v ∧ OwnN w' w.heap.size v (cutsOr l) ∧ Below w.heap.size w w' := by
  by_cases h4 : l.length ≤ 400
  · have hnot : ¬ (400 < (l.length : Int)) := by omega
    have ht : isText l = okS 0 l := by unfold isText; simp [h4]
    have HTX := Lib.hid ht
    clear ht
    obtain ⟨i0, hi, hi0, hi1, hi2⟩ := info_parts Tryd.infoI
    go_enter Tryd.func107, Tryd.ntmps107
    go_wp2
    go_loopw [3, 4] (fun out at_ wr => ∃ p : Nat, at_ = .int .i64 p ∧ p ≤ l.length ∧ okS 0 (l.drop p) = okS 0 l ∧ OwnN wr w.heap.size out ((List.range p).filter fun k : Nat => isBound l k) ∧ Below w.heap.size w wr) (fun _ at_ _ => l.length - (intOf at_).toNat)
    case atStart => exact ⟨0, rfl, Nat.zero_le _, rfl, World.ownsRow_made w #[] 0 (Nat.le_refl _) (by unfold maxLen; omega) rfl, (Below.refl _ _).alloc (Nat.le_refl _) _⟩
    case round =>
      obtain ⟨p, rfl, hpl, hok, hown, hbel⟩ := hrel
      have HOK := Lib.hid hok
      clear hok
      have hflen := filter_len l p
      by_cases hkl : p < l.length
      · have hstep := okS_step (t := l.drop p) (by intro e; have := congrArg List.length e; simp at this; omega)
        have hle := sz_le (l.drop p)
        rw [List.length_drop] at hle
        have hz := runeSize_at l p hkl
        have hfs := fun h => filter_step (l := l) hkl h
        generalize sz (l.drop p) = z at *
        have HZ := Lib.hid hz
        have HST := Lib.hid hstep
        have HFS := Lib.hid hfs
        clear hz hstep hfs
        have hBr := hA.below hbel
        by_cases hz0 : z = 0
        · subst hz0
          go_wp2_with (go_at_call 115; refine (specRuneSize_any A l c p _ hl hc9 (by exact hBr)).mono ?_; rintro e w1 ⟨rfl, hb1⟩; rw [HZ.out])
          go_ret
          have : isText l = false := by rw [HTX.out, ← HOK.out, HST.out]; simp
          have e : cutsOr l = [] := by unfold cutsOr; rw [this]; rfl
          rw [e]
          exact ⟨_, rfl, World.ownsRow_nil _ _ _ _, below_then hbel hb1⟩
        · have hzz : ((z : Int) == 0) = false := by simp; omega
          generalize hL : (List.range p).filter (fun k : Nat => isBound l k) = L at *
          have HL := Lib.hid hL
          clear hL
          go_wp2_with (first
            | (go_at_call 115; refine (specRuneSize_any A l c p _ hl hc9 (by exact hBr)).mono ?_; rintro e w1 ⟨rfl, hb1⟩; rw [HZ.out]; have hown1 := OwnN.below hown hb1; have hbel1 := below_then hbel hb1)
            | (at_builtin; go_must (refine wpList_append_own _ rfl _ _ 109 rfl w.heap.size 3 i0 (.int .i64 0) 1 8 Tryd.underlying109 hi hi0 hi1 hi2 rfl (by decide) _ _ _ rfl (World.ownsRow.alloc hown1 _) ⟨w1.heap.size, 0, none⟩ 1 1 [.int .i64 p] rfl rfl ?c1 ?c2 ?c3 ?c4 ?c5 ?_)))
          case c1 => exact one_new
          case c2 => intro u hu; simp at hu; subst hu; rfl
          case c3 => unfold maxLen; omega
          case c4 => omega
          case c5 => have := hbel1.size; simp; omega
          intro v' w2 hown2 hgrow hnil
          have hbel2 := (hbel1.alloc (by have := hbel1.size; omega) (.cells #[.int .i64 p] 3)).grown hgrow (by have := hbel1.size; simp; omega) (fun k hk => by
            have := (World.ownsRow.lt hown1 k hk).1; exact this)
          clear hnil hgrow
          go_wp2
          go_roundw
          case rel =>
            refine ⟨p + z, by go_num, by omega, ?_, ?_, hbel2⟩
            · rw [← HOK.out, HST.out]; simp [hz0]
            · rw [HFS.out hz0]
              unfold OwnN
              rw [List.length_append, List.map_append]
              exact hown2
          case measure => simp [intOf]; omega
      · have e : p = l.length := by omega
        subst e
        have htx : isText l = true := by rw [HTX.out, ← HOK.out]; simp [okS]
        have hco : cutsOr l = (List.range l.length).filter (fun k : Nat => isBound l k) ++ [l.length] := by
          unfold cutsOr; rw [if_pos htx]; exact filter_end l
        have HCO := Lib.hid hco
        clear hco htx
        generalize hL : (List.range l.length).filter (fun k : Nat => isBound l k) = L at *
        have HL := Lib.hid hL
        clear hL
        go_wp2_with (at_builtin; refine wpList_append_own _ rfl _ _ 109 rfl w.heap.size 3 i0 (.int .i64 0) 1 8 Tryd.underlying109 hi hi0 hi1 hi2 rfl (by decide) _ _ _ rfl (World.ownsRow.alloc hown _) ⟨wr.heap.size, 0, none⟩ 1 1 [.int .i64 l.length] rfl rfl ?d1 ?d2 ?d3 ?d4 ?d5 ?_)
        case d1 => exact one_new
        case d2 => intro u hu; simp at hu; subst hu; rfl
        case d3 => unfold maxLen; omega
        case d4 => omega
        case d5 => have := hbel.size; simp; omega
        intro v' w2 hown2 hgrow hnil
        have hbel2 := (hbel.alloc (by have := hbel.size; omega) (.cells #[.int .i64 l.length] 3)).grown hgrow (by have := hbel.size; simp; omega) (fun k hk => by
            have := (World.ownsRow.lt hown k hk).1; exact this)
        clear hnil hgrow
        go_wp2
        go_ret
        refine ⟨_, rfl, ?_, hbel2⟩
        rw [HCO.out]
        unfold OwnN
        rw [List.length_append, List.map_append]
        exact hown2
  · have hnot : (400 < (l.length : Int)) := by omega
    have ht : isText l = false := by unfold isText; simp; omega
    have e : cutsOr l = [] := by unfold cutsOr; rw [ht]; rfl
    have HE := Lib.hid e
    clear ht e
    go_enter Tryd.func107, Tryd.ntmps107
    go_wp2
    go_ret
    rw [HE.out]
    exact ⟨_, rfl, World.ownsRow_nil _ _ _ _, Below.refl _ _⟩
end Go.Proofs.YtgpjjolgpppeeaaDoor

namespace Go.Proofs.YtgpjjolgpppeeaaDoor
open Go.RowKit P
set_option linter.unusedVariables false

theorem cutsOr_le (l : List UInt8) : (cutsOr l).length ≤ 401 := by
  unfold cutsOr
  split
  · rename_i h
    have h4 : l.length ≤ 400 := by unfold isText at h; simp at h; exact h.1
    rw [cuts_length]
    have := runesBefore_le l l.length
    omega
  · simp

set_option maxHeartbeats 400000 in
theorem specTextOk_any (A : Option Addr) (l : List UInt8) (c : Nat) (w : World) (hl : l.length ≤ c) (hc9 : c ≤ 9223372036854775807) (hA : Bs w A l) :
    Calls Tryd.prog 79 #[.slice A l.length c] w fun e w' => e = .returned (.bool (isText l)) ∧ Below w.heap.size w w' := by
  have ht := isText_cuts l
  have hle := cutsOr_le l
  have HT := Lib.hid ht
  clear ht
  go_enter Tryd.func79, Tryd.ntmps79
  go_wp2_with fail
  refine (l01Cuts_any A l c _ hl hc9 (by exact hA)).mono ?_
  rintro e w1 ⟨v, rfl, hown, hb⟩
  obtain ⟨A1, c1, rfl, _, _, _⟩ := hown.form
  go_wp2
  go_ret
  exact ⟨ret_bool (by rw [HT.out]), hb⟩

end Go.Proofs.YtgpjjolgpppeeaaDoor
