/-
  Chapter 1, the model's decoding by forms: contracts (made by tools/gen_s01.py). Own work.
-/
import Derived.Test.YtfgbipomdfceeaaDoorS01
namespace Go.Proofs.YtfgbipomdfceeaaDoor
open Go.RowKit P
set_option linter.unusedVariables false

set_option maxRecDepth 100000 in
set_option maxHeartbeats 1000000 in
theorem l01Rune_one_eq (A : Option Addr) (l : List UInt8) (c k : Nat) (r : Int) (w : World) (hl : l.length ≤ c) (hc9 : c ≤ 9223372036854775807) (hA : Bs w A l) (hk : k + 1 ≤ l.length)
    (h1 : (l[k]).toNat < 192) (hx : (l.drop k).take 1 = [l[k]]) (hr : ((l[k]).toNat : Int) = r) (he : enc r = [l[k]]) :
    Calls Tryd.prog 124 #[.slice A l.length c, .int .i64 k] w fun e w' => e = .returned (.tuple #[.int .i64 r, .int .i64 1]) ∧ Below w.heap.size w w' := by
  obtain ⟨b, off, rfl, hlt, hc⟩ := hA k (by omega)
  have hu := (l[k]).toNat_lt
  obtain ⟨bn, hbn⟩ : ∃ bn : Int, bn = (l[k]).toNat := ⟨_, rfl⟩
  rw [← hbn] at hc hr
  have hsub := hA.sub k 1
  rw [hx] at hsub
  have HR := Lib.hid hr
  clear hr
  have HE := Lib.hid he
  clear he
  have hcap : ¬ c = k := by omega
  have h1' : 0 ≤ bn ∧ bn < 192 := by omega
  have HBN := Lib.hid hbn
  clear hbn h1 hu
  have hkk : 0 ≤ (k : Int) ∧ (k : Int) < (l.length : Int) := by omega
  have hlk : (1 : Int) ≤ (l.length : Int) - (k : Int) := by omega
  go_enter Tryd.func124, Tryd.ntmps124
  go_wp2
  go_rounds 5
  have hcv : ∀ W, Below w.heap.size w W → (convert 22 9 (.slice (some ⟨b, off + k, none⟩) 1 (c - k))).run Tryd.prog W = .ok (.string ⟨([l[k]] : List UInt8).toArray⟩) W := fun W hb => run_conv_bs (c - k) 1 rfl (hsub.below hb)
  have hcv0 := hcv w.drew (below_of_drewN w 1)
  have hw0 : 0 ≤ (k : Int) := by omega
  have hw2 : 0 ≤ (k : Int) + 1 := by omega
  have hw3 : (k : Int) + 1 ≤ (c : Int) := by omega
  have hw4 : (k : Int) ≤ (k : Int) + 1 := by omega
  have hw5 : ((k : Int) + 1).toNat = k + 1 := by omega
  have hw1 : IntKind.i64.wrap ((k : Int) + 1) = (k : Int) + 1 := IntWalk.i64_in _ ⟨by omega, by omega⟩
  go_region_with (go_at_call 93; refine (specRuneBytes_any _ _).mono ?_; rintro e w1 ⟨v, rfl, hown, hbel⟩; rw [HR.out, HE.out] at hown; obtain ⟨A1, c1, rfl, hc1, hc2, hB1⟩ := hown.form; have hcv1 := hcv w1 (below_then (below_of_drewN w 1) hbel); have hcv2 := run_conv_bs c1 1 rfl hB1; clear hB1)
  all_goals clear hw0 hw1 hw2 hw3 hw4 hw5 hcv hcv0
  all_goals go_wp2
  all_goals go_ret2
  all_goals exact ⟨by rw [← HR.out]; rfl, below_then (below_of_drewN w 1) (by assumption)⟩

set_option maxRecDepth 100000 in
set_option maxHeartbeats 1000000 in
theorem l01Rune_one_ne (A : Option Addr) (l : List UInt8) (c k : Nat) (r : Int) (w : World) (hl : l.length ≤ c) (hc9 : c ≤ 9223372036854775807) (hA : Bs w A l) (hk : k + 1 ≤ l.length)
    (h1 : (l[k]).toNat < 192) (hx : (l.drop k).take 1 = [l[k]]) (hr : ((l[k]).toNat : Int) = r) (hne : enc r ≠ [l[k]]) :
    Calls Tryd.prog 124 #[.slice A l.length c, .int .i64 k] w fun e w' => e = .returned (.tuple #[.int .i64 (-1), .int .i64 0]) ∧ Below w.heap.size w w' := by
  obtain ⟨b, off, rfl, hlt, hc⟩ := hA k (by omega)
  have hu := (l[k]).toNat_lt
  obtain ⟨bn, hbn⟩ : ∃ bn : Int, bn = (l[k]).toNat := ⟨_, rfl⟩
  rw [← hbn] at hc hr
  have hsub := hA.sub k 1
  rw [hx] at hsub
  have HR := Lib.hid hr
  clear hr
  obtain ⟨es, hes⟩ : ∃ es, enc r = es := ⟨_, rfl⟩
  rw [hes] at hne
  have hs1 : (es == [l[k]]) = false := beq_eq_false_iff_ne.2 hne
  have HE := Lib.hid hes
  have HN := Lib.hid hne
  clear hes hne
  have hcap : ¬ c = k := by omega
  have h1' : 0 ≤ bn ∧ bn < 192 := by omega
  have HBN := Lib.hid hbn
  clear hbn h1 hu
  have hkk : 0 ≤ (k : Int) ∧ (k : Int) < (l.length : Int) := by omega
  have hlk : (1 : Int) ≤ (l.length : Int) - (k : Int) := by omega
  go_enter Tryd.func124, Tryd.ntmps124
  go_wp2
  go_rounds 5
  have hcv : ∀ W, Below w.heap.size w W → (convert 22 9 (.slice (some ⟨b, off + k, none⟩) 1 (c - k))).run Tryd.prog W = .ok (.string ⟨([l[k]] : List UInt8).toArray⟩) W := fun W hb => run_conv_bs (c - k) 1 rfl (hsub.below hb)
  have hcv0 := hcv w.drew (below_of_drewN w 1)
  have hw0 : 0 ≤ (k : Int) := by omega
  have hw2 : 0 ≤ (k : Int) + 1 := by omega
  have hw3 : (k : Int) + 1 ≤ (c : Int) := by omega
  have hw4 : (k : Int) ≤ (k : Int) + 1 := by omega
  have hw5 : ((k : Int) + 1).toNat = k + 1 := by omega
  have hw1 : IntKind.i64.wrap ((k : Int) + 1) = (k : Int) + 1 := IntWalk.i64_in _ ⟨by omega, by omega⟩
  go_region_with (go_at_call 93; refine (specRuneBytes_any _ _).mono ?_; rintro e w1 ⟨v, rfl, hown, hbel⟩; rw [HR.out, HE.out] at hown; obtain ⟨A1, c1, rfl, hc1, hc2, hB1⟩ := hown.form; have hcv1 := hcv w1 (below_then (below_of_drewN w 1) hbel); have hcv2 := run_conv_bs c1 es.length rfl hB1; clear hB1)
  all_goals clear hw0 hw1 hw2 hw3 hw4 hw5 hcv hcv0
  all_goals go_wp2
  all_goals go_ret2
  all_goals exact ⟨rfl, below_then (below_of_drewN w 1) (by assumption)⟩

set_option maxRecDepth 100000 in
set_option maxHeartbeats 1000000 in
theorem l01Rune_two_eq (A : Option Addr) (l : List UInt8) (c k : Nat) (x : UInt8) (r : Int) (w : World) (hl : l.length ≤ c) (hc9 : c ≤ 9223372036854775807) (hA : Bs w A l) (hk : k + 2 ≤ l.length)
    (h1 : 192 ≤ (l[k]).toNat ∧ (l[k]).toNat < 224) (hx : (l.drop k).take 2 = [l[k], x]) (hr : (64 * (((l[k]).toNat : Int) - 192) + x.toNat - 128) = r) (he : enc r = [l[k], x]) :
    Calls Tryd.prog 124 #[.slice A l.length c, .int .i64 k] w fun e w' => e = .returned (.tuple #[.int .i64 r, .int .i64 2]) ∧ Below w.heap.size w w' := by
  obtain ⟨b, off, rfl, hlt, hc⟩ := hA k (by omega)
  have hu := (l[k]).toNat_lt
  obtain ⟨bn, hbn⟩ : ∃ bn : Int, bn = (l[k]).toNat := ⟨_, rfl⟩
  rw [← hbn] at hc hr
  have hux := x.toNat_lt
  have hsub := hA.sub k 2
  rw [hx] at hsub
  have cc1 : w.cell? ⟨b, off + (k + 1), none⟩ = some (.int .u8 x.toNat) := by obtain ⟨_, _, e, _, h⟩ := hsub 1 (by simp); cases e; simpa [Nat.add_assoc] using h
  have HR := Lib.hid hr
  clear hr
  have HE := Lib.hid he
  clear he
  have hcap : ¬ c = k := by omega
  have h1' : 192 ≤ bn ∧ bn < 224 := by omega
  have HBN := Lib.hid hbn
  clear hbn h1 hu
  have hkk : 0 ≤ (k : Int) ∧ (k : Int) < (l.length : Int) := by omega
  have hlk : (2 : Int) ≤ (l.length : Int) - (k : Int) := by omega
  go_enter Tryd.func124, Tryd.ntmps124
  go_wp2
  go_rounds 5
  have hcv : ∀ W, Below w.heap.size w W → (convert 22 9 (.slice (some ⟨b, off + k, none⟩) 2 (c - k))).run Tryd.prog W = .ok (.string ⟨([l[k], x] : List UInt8).toArray⟩) W := fun W hb => run_conv_bs (c - k) 2 rfl (hsub.below hb)
  have hcv0 := hcv w.drew (below_of_drewN w 1)
  have hw0 : 0 ≤ (k : Int) := by omega
  have hw2 : 0 ≤ (k : Int) + 2 := by omega
  have hw3 : (k : Int) + 2 ≤ (c : Int) := by omega
  have hw4 : (k : Int) ≤ (k : Int) + 2 := by omega
  have hw5 : ((k : Int) + 2).toNat = k + 2 := by omega
  have hw1 : IntKind.i64.wrap ((k : Int) + 2) = (k : Int) + 2 := IntWalk.i64_in _ ⟨by omega, by omega⟩
  go_region_with (go_at_call 93; refine (specRuneBytes_any _ _).mono ?_; rintro e w1 ⟨v, rfl, hown, hbel⟩; rw [HR.out, HE.out] at hown; obtain ⟨A1, c1, rfl, hc1, hc2, hB1⟩ := hown.form; have hcv1 := hcv w1 (below_then (below_of_drewN w 1) hbel); have hcv2 := run_conv_bs c1 2 rfl hB1; clear hB1)
  all_goals clear hw0 hw1 hw2 hw3 hw4 hw5 hcv hcv0
  all_goals go_wp2
  all_goals go_ret2
  all_goals exact ⟨by rw [← HR.out]; rfl, below_then (below_of_drewN w 1) (by assumption)⟩

set_option maxRecDepth 100000 in
set_option maxHeartbeats 1000000 in
theorem l01Rune_two_ne (A : Option Addr) (l : List UInt8) (c k : Nat) (x : UInt8) (r : Int) (w : World) (hl : l.length ≤ c) (hc9 : c ≤ 9223372036854775807) (hA : Bs w A l) (hk : k + 2 ≤ l.length)
    (h1 : 192 ≤ (l[k]).toNat ∧ (l[k]).toNat < 224) (hx : (l.drop k).take 2 = [l[k], x]) (hr : (64 * (((l[k]).toNat : Int) - 192) + x.toNat - 128) = r) (hne : enc r ≠ [l[k], x]) :
    Calls Tryd.prog 124 #[.slice A l.length c, .int .i64 k] w fun e w' => e = .returned (.tuple #[.int .i64 (-1), .int .i64 0]) ∧ Below w.heap.size w w' := by
  obtain ⟨b, off, rfl, hlt, hc⟩ := hA k (by omega)
  have hu := (l[k]).toNat_lt
  obtain ⟨bn, hbn⟩ : ∃ bn : Int, bn = (l[k]).toNat := ⟨_, rfl⟩
  rw [← hbn] at hc hr
  have hux := x.toNat_lt
  have hsub := hA.sub k 2
  rw [hx] at hsub
  have cc1 : w.cell? ⟨b, off + (k + 1), none⟩ = some (.int .u8 x.toNat) := by obtain ⟨_, _, e, _, h⟩ := hsub 1 (by simp); cases e; simpa [Nat.add_assoc] using h
  have HR := Lib.hid hr
  clear hr
  obtain ⟨es, hes⟩ : ∃ es, enc r = es := ⟨_, rfl⟩
  rw [hes] at hne
  have hs1 : (es == [l[k], x]) = false := beq_eq_false_iff_ne.2 hne
  have HE := Lib.hid hes
  have HN := Lib.hid hne
  clear hes hne
  have hcap : ¬ c = k := by omega
  have h1' : 192 ≤ bn ∧ bn < 224 := by omega
  have HBN := Lib.hid hbn
  clear hbn h1 hu
  have hkk : 0 ≤ (k : Int) ∧ (k : Int) < (l.length : Int) := by omega
  have hlk : (2 : Int) ≤ (l.length : Int) - (k : Int) := by omega
  go_enter Tryd.func124, Tryd.ntmps124
  go_wp2
  go_rounds 5
  have hcv : ∀ W, Below w.heap.size w W → (convert 22 9 (.slice (some ⟨b, off + k, none⟩) 2 (c - k))).run Tryd.prog W = .ok (.string ⟨([l[k], x] : List UInt8).toArray⟩) W := fun W hb => run_conv_bs (c - k) 2 rfl (hsub.below hb)
  have hcv0 := hcv w.drew (below_of_drewN w 1)
  have hw0 : 0 ≤ (k : Int) := by omega
  have hw2 : 0 ≤ (k : Int) + 2 := by omega
  have hw3 : (k : Int) + 2 ≤ (c : Int) := by omega
  have hw4 : (k : Int) ≤ (k : Int) + 2 := by omega
  have hw5 : ((k : Int) + 2).toNat = k + 2 := by omega
  have hw1 : IntKind.i64.wrap ((k : Int) + 2) = (k : Int) + 2 := IntWalk.i64_in _ ⟨by omega, by omega⟩
  go_region_with (go_at_call 93; refine (specRuneBytes_any _ _).mono ?_; rintro e w1 ⟨v, rfl, hown, hbel⟩; rw [HR.out, HE.out] at hown; obtain ⟨A1, c1, rfl, hc1, hc2, hB1⟩ := hown.form; have hcv1 := hcv w1 (below_then (below_of_drewN w 1) hbel); have hcv2 := run_conv_bs c1 es.length rfl hB1; clear hB1)
  all_goals clear hw0 hw1 hw2 hw3 hw4 hw5 hcv hcv0
  all_goals go_wp2
  all_goals go_ret2
  all_goals exact ⟨rfl, below_then (below_of_drewN w 1) (by assumption)⟩

set_option maxRecDepth 100000 in
set_option maxHeartbeats 1000000 in
theorem l01Rune_three_eq (A : Option Addr) (l : List UInt8) (c k : Nat) (x y : UInt8) (r : Int) (w : World) (hl : l.length ≤ c) (hc9 : c ≤ 9223372036854775807) (hA : Bs w A l) (hk : k + 3 ≤ l.length)
    (h1 : 224 ≤ (l[k]).toNat ∧ (l[k]).toNat < 240) (hx : (l.drop k).take 3 = [l[k], x, y]) (hr : (64 * (64 * (((l[k]).toNat : Int) - 224) + x.toNat - 128) + y.toNat - 128) = r) (he : enc r = [l[k], x, y]) :
    Calls Tryd.prog 124 #[.slice A l.length c, .int .i64 k] w fun e w' => e = .returned (.tuple #[.int .i64 r, .int .i64 3]) ∧ Below w.heap.size w w' := by
  obtain ⟨b, off, rfl, hlt, hc⟩ := hA k (by omega)
  have hu := (l[k]).toNat_lt
  obtain ⟨bn, hbn⟩ : ∃ bn : Int, bn = (l[k]).toNat := ⟨_, rfl⟩
  rw [← hbn] at hc hr
  have hux := x.toNat_lt
  have huy := y.toNat_lt
  have hsub := hA.sub k 3
  rw [hx] at hsub
  have cc1 : w.cell? ⟨b, off + (k + 1), none⟩ = some (.int .u8 x.toNat) := by obtain ⟨_, _, e, _, h⟩ := hsub 1 (by simp); cases e; simpa [Nat.add_assoc] using h
  have cc2 : w.cell? ⟨b, off + (k + 2), none⟩ = some (.int .u8 y.toNat) := by obtain ⟨_, _, e, _, h⟩ := hsub 2 (by simp); cases e; simpa [Nat.add_assoc] using h
  have HR := Lib.hid hr
  clear hr
  have HE := Lib.hid he
  clear he
  have hcap : ¬ c = k := by omega
  have h1' : 224 ≤ bn ∧ bn < 240 := by omega
  have HBN := Lib.hid hbn
  clear hbn h1 hu
  have hkk : 0 ≤ (k : Int) ∧ (k : Int) < (l.length : Int) := by omega
  have hlk : (3 : Int) ≤ (l.length : Int) - (k : Int) := by omega
  go_enter Tryd.func124, Tryd.ntmps124
  go_wp2
  go_rounds 5
  have hcv : ∀ W, Below w.heap.size w W → (convert 22 9 (.slice (some ⟨b, off + k, none⟩) 3 (c - k))).run Tryd.prog W = .ok (.string ⟨([l[k], x, y] : List UInt8).toArray⟩) W := fun W hb => run_conv_bs (c - k) 3 rfl (hsub.below hb)
  have hcv0 := hcv w.drew (below_of_drewN w 1)
  have hw0 : 0 ≤ (k : Int) := by omega
  have hw2 : 0 ≤ (k : Int) + 3 := by omega
  have hw3 : (k : Int) + 3 ≤ (c : Int) := by omega
  have hw4 : (k : Int) ≤ (k : Int) + 3 := by omega
  have hw5 : ((k : Int) + 3).toNat = k + 3 := by omega
  have hw1 : IntKind.i64.wrap ((k : Int) + 3) = (k : Int) + 3 := IntWalk.i64_in _ ⟨by omega, by omega⟩
  go_region_with (go_at_call 93; refine (specRuneBytes_any _ _).mono ?_; rintro e w1 ⟨v, rfl, hown, hbel⟩; rw [HR.out, HE.out] at hown; obtain ⟨A1, c1, rfl, hc1, hc2, hB1⟩ := hown.form; have hcv1 := hcv w1 (below_then (below_of_drewN w 1) hbel); have hcv2 := run_conv_bs c1 3 rfl hB1; clear hB1)
  all_goals clear hw0 hw1 hw2 hw3 hw4 hw5 hcv hcv0
  all_goals go_wp2
  all_goals go_ret2
  all_goals exact ⟨by rw [← HR.out]; rfl, below_then (below_of_drewN w 1) (by assumption)⟩

set_option maxRecDepth 100000 in
set_option maxHeartbeats 1000000 in
theorem l01Rune_three_ne (A : Option Addr) (l : List UInt8) (c k : Nat) (x y : UInt8) (r : Int) (w : World) (hl : l.length ≤ c) (hc9 : c ≤ 9223372036854775807) (hA : Bs w A l) (hk : k + 3 ≤ l.length)
    (h1 : 224 ≤ (l[k]).toNat ∧ (l[k]).toNat < 240) (hx : (l.drop k).take 3 = [l[k], x, y]) (hr : (64 * (64 * (((l[k]).toNat : Int) - 224) + x.toNat - 128) + y.toNat - 128) = r) (hne : enc r ≠ [l[k], x, y]) :
    Calls Tryd.prog 124 #[.slice A l.length c, .int .i64 k] w fun e w' => e = .returned (.tuple #[.int .i64 (-1), .int .i64 0]) ∧ Below w.heap.size w w' := by
  obtain ⟨b, off, rfl, hlt, hc⟩ := hA k (by omega)
  have hu := (l[k]).toNat_lt
  obtain ⟨bn, hbn⟩ : ∃ bn : Int, bn = (l[k]).toNat := ⟨_, rfl⟩
  rw [← hbn] at hc hr
  have hux := x.toNat_lt
  have huy := y.toNat_lt
  have hsub := hA.sub k 3
  rw [hx] at hsub
  have cc1 : w.cell? ⟨b, off + (k + 1), none⟩ = some (.int .u8 x.toNat) := by obtain ⟨_, _, e, _, h⟩ := hsub 1 (by simp); cases e; simpa [Nat.add_assoc] using h
  have cc2 : w.cell? ⟨b, off + (k + 2), none⟩ = some (.int .u8 y.toNat) := by obtain ⟨_, _, e, _, h⟩ := hsub 2 (by simp); cases e; simpa [Nat.add_assoc] using h
  have HR := Lib.hid hr
  clear hr
  obtain ⟨es, hes⟩ : ∃ es, enc r = es := ⟨_, rfl⟩
  rw [hes] at hne
  have hs1 : (es == [l[k], x, y]) = false := beq_eq_false_iff_ne.2 hne
  have HE := Lib.hid hes
  have HN := Lib.hid hne
  clear hes hne
  have hcap : ¬ c = k := by omega
  have h1' : 224 ≤ bn ∧ bn < 240 := by omega
  have HBN := Lib.hid hbn
  clear hbn h1 hu
  have hkk : 0 ≤ (k : Int) ∧ (k : Int) < (l.length : Int) := by omega
  have hlk : (3 : Int) ≤ (l.length : Int) - (k : Int) := by omega
  go_enter Tryd.func124, Tryd.ntmps124
  go_wp2
  go_rounds 5
  have hcv : ∀ W, Below w.heap.size w W → (convert 22 9 (.slice (some ⟨b, off + k, none⟩) 3 (c - k))).run Tryd.prog W = .ok (.string ⟨([l[k], x, y] : List UInt8).toArray⟩) W := fun W hb => run_conv_bs (c - k) 3 rfl (hsub.below hb)
  have hcv0 := hcv w.drew (below_of_drewN w 1)
  have hw0 : 0 ≤ (k : Int) := by omega
  have hw2 : 0 ≤ (k : Int) + 3 := by omega
  have hw3 : (k : Int) + 3 ≤ (c : Int) := by omega
  have hw4 : (k : Int) ≤ (k : Int) + 3 := by omega
  have hw5 : ((k : Int) + 3).toNat = k + 3 := by omega
  have hw1 : IntKind.i64.wrap ((k : Int) + 3) = (k : Int) + 3 := IntWalk.i64_in _ ⟨by omega, by omega⟩
  go_region_with (go_at_call 93; refine (specRuneBytes_any _ _).mono ?_; rintro e w1 ⟨v, rfl, hown, hbel⟩; rw [HR.out, HE.out] at hown; obtain ⟨A1, c1, rfl, hc1, hc2, hB1⟩ := hown.form; have hcv1 := hcv w1 (below_then (below_of_drewN w 1) hbel); have hcv2 := run_conv_bs c1 es.length rfl hB1; clear hB1)
  all_goals clear hw0 hw1 hw2 hw3 hw4 hw5 hcv hcv0
  all_goals go_wp2
  all_goals go_ret2
  all_goals exact ⟨rfl, below_then (below_of_drewN w 1) (by assumption)⟩

set_option maxRecDepth 100000 in
set_option maxHeartbeats 1000000 in
theorem l01Rune_four_eq (A : Option Addr) (l : List UInt8) (c k : Nat) (x y z : UInt8) (r : Int) (w : World) (hl : l.length ≤ c) (hc9 : c ≤ 9223372036854775807) (hA : Bs w A l) (hk : k + 4 ≤ l.length)
    (h1 : 240 ≤ (l[k]).toNat) (hx : (l.drop k).take 4 = [l[k], x, y, z]) (hr : (64 * (64 * (64 * (((l[k]).toNat : Int) - 240) + x.toNat - 128) + y.toNat - 128) + z.toNat - 128) = r) (he : enc r = [l[k], x, y, z]) :
    Calls Tryd.prog 124 #[.slice A l.length c, .int .i64 k] w fun e w' => e = .returned (.tuple #[.int .i64 r, .int .i64 4]) ∧ Below w.heap.size w w' := by
  obtain ⟨b, off, rfl, hlt, hc⟩ := hA k (by omega)
  have hu := (l[k]).toNat_lt
  obtain ⟨bn, hbn⟩ : ∃ bn : Int, bn = (l[k]).toNat := ⟨_, rfl⟩
  rw [← hbn] at hc hr
  have hux := x.toNat_lt
  have huy := y.toNat_lt
  have huz := z.toNat_lt
  have hsub := hA.sub k 4
  rw [hx] at hsub
  have cc1 : w.cell? ⟨b, off + (k + 1), none⟩ = some (.int .u8 x.toNat) := by obtain ⟨_, _, e, _, h⟩ := hsub 1 (by simp); cases e; simpa [Nat.add_assoc] using h
  have cc2 : w.cell? ⟨b, off + (k + 2), none⟩ = some (.int .u8 y.toNat) := by obtain ⟨_, _, e, _, h⟩ := hsub 2 (by simp); cases e; simpa [Nat.add_assoc] using h
  have cc3 : w.cell? ⟨b, off + (k + 3), none⟩ = some (.int .u8 z.toNat) := by obtain ⟨_, _, e, _, h⟩ := hsub 3 (by simp); cases e; simpa [Nat.add_assoc] using h
  have HR := Lib.hid hr
  clear hr
  have HE := Lib.hid he
  clear he
  have hcap : ¬ c = k := by omega
  have h1' : 240 ≤ bn ∧ bn < 256 := by omega
  have HBN := Lib.hid hbn
  clear hbn h1 hu
  have hkk : 0 ≤ (k : Int) ∧ (k : Int) < (l.length : Int) := by omega
  have hlk : (4 : Int) ≤ (l.length : Int) - (k : Int) := by omega
  go_enter Tryd.func124, Tryd.ntmps124
  go_wp2
  go_rounds 5
  have hcv : ∀ W, Below w.heap.size w W → (convert 22 9 (.slice (some ⟨b, off + k, none⟩) 4 (c - k))).run Tryd.prog W = .ok (.string ⟨([l[k], x, y, z] : List UInt8).toArray⟩) W := fun W hb => run_conv_bs (c - k) 4 rfl (hsub.below hb)
  have hcv0 := hcv w.drew (below_of_drewN w 1)
  have hw0 : 0 ≤ (k : Int) := by omega
  have hw2 : 0 ≤ (k : Int) + 4 := by omega
  have hw3 : (k : Int) + 4 ≤ (c : Int) := by omega
  have hw4 : (k : Int) ≤ (k : Int) + 4 := by omega
  have hw5 : ((k : Int) + 4).toNat = k + 4 := by omega
  have hw1 : IntKind.i64.wrap ((k : Int) + 4) = (k : Int) + 4 := IntWalk.i64_in _ ⟨by omega, by omega⟩
  go_region_with (go_at_call 93; refine (specRuneBytes_any _ _).mono ?_; rintro e w1 ⟨v, rfl, hown, hbel⟩; rw [HR.out, HE.out] at hown; obtain ⟨A1, c1, rfl, hc1, hc2, hB1⟩ := hown.form; have hcv1 := hcv w1 (below_then (below_of_drewN w 1) hbel); have hcv2 := run_conv_bs c1 4 rfl hB1; clear hB1)
  all_goals clear hw0 hw1 hw2 hw3 hw4 hw5 hcv hcv0
  all_goals go_wp2
  all_goals go_ret2
  all_goals exact ⟨by rw [← HR.out]; rfl, below_then (below_of_drewN w 1) (by assumption)⟩

set_option maxRecDepth 100000 in
set_option maxHeartbeats 1000000 in
theorem l01Rune_four_ne (A : Option Addr) (l : List UInt8) (c k : Nat) (x y z : UInt8) (r : Int) (w : World) (hl : l.length ≤ c) (hc9 : c ≤ 9223372036854775807) (hA : Bs w A l) (hk : k + 4 ≤ l.length)
    (h1 : 240 ≤ (l[k]).toNat) (hx : (l.drop k).take 4 = [l[k], x, y, z]) (hr : (64 * (64 * (64 * (((l[k]).toNat : Int) - 240) + x.toNat - 128) + y.toNat - 128) + z.toNat - 128) = r) (hne : enc r ≠ [l[k], x, y, z]) :
    Calls Tryd.prog 124 #[.slice A l.length c, .int .i64 k] w fun e w' => e = .returned (.tuple #[.int .i64 (-1), .int .i64 0]) ∧ Below w.heap.size w w' := by
  obtain ⟨b, off, rfl, hlt, hc⟩ := hA k (by omega)
  have hu := (l[k]).toNat_lt
  obtain ⟨bn, hbn⟩ : ∃ bn : Int, bn = (l[k]).toNat := ⟨_, rfl⟩
  rw [← hbn] at hc hr
  have hux := x.toNat_lt
  have huy := y.toNat_lt
  have huz := z.toNat_lt
  have hsub := hA.sub k 4
  rw [hx] at hsub
  have cc1 : w.cell? ⟨b, off + (k + 1), none⟩ = some (.int .u8 x.toNat) := by obtain ⟨_, _, e, _, h⟩ := hsub 1 (by simp); cases e; simpa [Nat.add_assoc] using h
  have cc2 : w.cell? ⟨b, off + (k + 2), none⟩ = some (.int .u8 y.toNat) := by obtain ⟨_, _, e, _, h⟩ := hsub 2 (by simp); cases e; simpa [Nat.add_assoc] using h
  have cc3 : w.cell? ⟨b, off + (k + 3), none⟩ = some (.int .u8 z.toNat) := by obtain ⟨_, _, e, _, h⟩ := hsub 3 (by simp); cases e; simpa [Nat.add_assoc] using h
  have HR := Lib.hid hr
  clear hr
  obtain ⟨es, hes⟩ : ∃ es, enc r = es := ⟨_, rfl⟩
  rw [hes] at hne
  have hs1 : (es == [l[k], x, y, z]) = false := beq_eq_false_iff_ne.2 hne
  have HE := Lib.hid hes
  have HN := Lib.hid hne
  clear hes hne
  have hcap : ¬ c = k := by omega
  have h1' : 240 ≤ bn ∧ bn < 256 := by omega
  have HBN := Lib.hid hbn
  clear hbn h1 hu
  have hkk : 0 ≤ (k : Int) ∧ (k : Int) < (l.length : Int) := by omega
  have hlk : (4 : Int) ≤ (l.length : Int) - (k : Int) := by omega
  go_enter Tryd.func124, Tryd.ntmps124
  go_wp2
  go_rounds 5
  have hcv : ∀ W, Below w.heap.size w W → (convert 22 9 (.slice (some ⟨b, off + k, none⟩) 4 (c - k))).run Tryd.prog W = .ok (.string ⟨([l[k], x, y, z] : List UInt8).toArray⟩) W := fun W hb => run_conv_bs (c - k) 4 rfl (hsub.below hb)
  have hcv0 := hcv w.drew (below_of_drewN w 1)
  have hw0 : 0 ≤ (k : Int) := by omega
  have hw2 : 0 ≤ (k : Int) + 4 := by omega
  have hw3 : (k : Int) + 4 ≤ (c : Int) := by omega
  have hw4 : (k : Int) ≤ (k : Int) + 4 := by omega
  have hw5 : ((k : Int) + 4).toNat = k + 4 := by omega
  have hw1 : IntKind.i64.wrap ((k : Int) + 4) = (k : Int) + 4 := IntWalk.i64_in _ ⟨by omega, by omega⟩
  go_region_with (go_at_call 93; refine (specRuneBytes_any _ _).mono ?_; rintro e w1 ⟨v, rfl, hown, hbel⟩; rw [HR.out, HE.out] at hown; obtain ⟨A1, c1, rfl, hc1, hc2, hB1⟩ := hown.form; have hcv1 := hcv w1 (below_then (below_of_drewN w 1) hbel); have hcv2 := run_conv_bs c1 es.length rfl hB1; clear hB1)
  all_goals clear hw0 hw1 hw2 hw3 hw4 hw5 hcv hcv0
  all_goals go_wp2
  all_goals go_ret2
  all_goals exact ⟨rfl, below_then (below_of_drewN w 1) (by assumption)⟩

end Go.Proofs.YtfgbipomdfceeaaDoor
