/-
  Chapter 1, the model's l01Rune whole, RuneSize, RuneAt: contracts. Own work.
-/
import Derived.Test.YtfgbipomdfceeaaDoorS01b
namespace Go.Proofs.YtfgbipomdfceeaaDoor
open Go.RowKit P
set_option linter.unusedVariables false

set_option maxHeartbeats 400000 in
theorem l01Rune_short (A : Option Addr) (l : List UInt8) (c k : Nat) (w : World) (hl : l.length ≤ c) (hc9 : c ≤ 9223372036854775807) (hA : Bs w A l) (hk : k < l.length) (h : l.length - k < rawSz (l[k]).toNat) :
    Calls Tryd.prog 124 #[.slice A l.length c, .int .i64 k] w fun e w' => e = .returned (.tuple #[.int .i64 (-1), .int .i64 0]) ∧ Below w.heap.size w w' := by
  obtain ⟨b, off, rfl, hlt, hc⟩ := hA k (by omega)
  have hu := (l[k]).toNat_lt
  obtain ⟨bn, hbn⟩ : ∃ bn : Int, bn = (l[k]).toNat := ⟨_, rfl⟩
  rw [← hbn] at hc
  have hkk : 0 ≤ (k : Int) ∧ (k : Int) < (l.length : Int) := by omega
  have h4 : (bn < 192 ∧ (l.length : Int) - (k : Int) < 1) ∨ (192 ≤ bn ∧ bn < 224 ∧ (l.length : Int) - (k : Int) < 2) ∨ (224 ≤ bn ∧ bn < 240 ∧ (l.length : Int) - (k : Int) < 3) ∨ (240 ≤ bn ∧ bn < 256 ∧ (l.length : Int) - (k : Int) < 4) := by
    unfold rawSz at h
    (repeat' split at h) <;> omega
  have HBN := Lib.hid hbn
  clear hbn hu h
  rcases h4 with ⟨h1, h2⟩ | ⟨h0, h1, h2⟩ | ⟨h0, h1, h2⟩ | ⟨h0, h1, h2⟩
  · omega
  all_goals
    go_enter Tryd.func124, Tryd.ntmps124
    go_wp2
    all_goals go_ret2
    all_goals exact ⟨rfl, Below.refl _ _⟩

theorem rawSz_bounds (b : Nat) (hb : b < 256) : (rawSz b = 1 ∧ b < 192) ∨ (rawSz b = 2 ∧ 192 ≤ b ∧ b < 224) ∨ (rawSz b = 3 ∧ 224 ≤ b ∧ b < 240) ∨ (rawSz b = 4 ∧ 240 ≤ b) := by
  unfold rawSz
  (repeat' split) <;> omega

theorem tup2 {a b c d : Int} (h1 : a = c) (h2 : b = d) : Ending.returned (.tuple #[.int .i64 a, .int .i64 b]) = .returned (.tuple #[.int .i64 c, .int .i64 d]) := by rw [h1, h2]

theorem l01Rune_any (A : Option Addr) (l : List UInt8) (c : Nat) (at_ : Int) (w : World) (hl : l.length ≤ c) (hc9 : c ≤ 9223372036854775807) (hA : Bs w A l) :
    Calls Tryd.prog 124 #[.slice A l.length c, .int .i64 at_] w fun e w' => e = .returned (.tuple #[.int .i64 (runeAt l at_), .int .i64 (runeSize l at_)]) ∧ Below w.heap.size w w' := by
  by_cases hr : at_ < 0 ∨ (l.length : Int) ≤ at_
  · have h1 : runeAt l at_ = -1 := by unfold runeAt; rw [if_pos hr]
    have h2 : runeSize l at_ = 0 := by unfold runeSize; rw [h1]; rfl
    rw [h1, h2]
    exact l01Rune_out A l c at_ w hr
  · obtain ⟨k, rfl⟩ := Int.eq_ofNat_of_zero_le (show 0 ≤ at_ by omega)
    have hk : k < l.length := by omega
    have hd : l.drop k = l[k] :: l.drop (k + 1) := List.drop_eq_getElem_cons hk
    have hv : runeAt l (k : Int) = decL (l[k] :: l.drop (k + 1)) := by
      unfold runeAt; rw [if_neg hr, Int.toNat_natCast, hd]
    have hv2 : runeSize l (k : Int) = sz (l[k] :: l.drop (k + 1)) := by unfold runeSize sz; rw [hv]
    rw [hv, hv2]
    have hlen : (l.drop (k + 1)).length + 1 = l.length - k := by rw [List.length_drop]; omega
    obtain ⟨d1, d2, d3⟩ := dec_raw (l[k]) (l.drop (k + 1))
    rw [hlen] at d1 d2 d3
    have hu := (l[k]).toNat_lt
    have zero : ∀ x, decL x = -1 → sz x = 0 := fun x e => by unfold sz; rw [e]; rfl
    by_cases hsh : l.length - k < rawSz (l[k]).toNat
    · have e1 := d1 hsh
      rw [e1, zero _ e1]
      exact l01Rune_short A l c k w hl hc9 hA hk hsh
    · have hle : rawSz (l[k]).toNat ≤ l.length - k := by omega
      have d2 := d2 hle
      have d3 := d3 hle
      rw [← hd] at d2 d3 ⊢
      have hrr : rawR (l[k]) (l.drop (k + 1)) = ((l.drop (k + 1)).take (rawSz (l[k]).toNat - 1)).foldl (fun r x => 64 * r + (x.toNat : Int) - 128) (((l[k]).toNat : Int) - leadM (rawSz (l[k]).toNat)) := rfl
      have htl : ((l.drop (k + 1)).take (rawSz (l[k]).toNat - 1)).length = rawSz (l[k]).toNat - 1 := by rw [List.length_take]; omega
      have htk : (l.drop k).take (rawSz (l[k]).toNat) = l[k] :: (l.drop (k + 1)).take (rawSz (l[k]).toNat - 1) := by
        rw [hd]
        have : rawSz (l[k]).toNat = (rawSz (l[k]).toNat - 1) + 1 := by rcases rawSz_bounds _ hu with h | h | h | h <;> omega
        conv => lhs; rw [this, List.take_succ_cons]
      rcases rawSz_bounds _ hu with ⟨hs, hb⟩ | ⟨hs, hb⟩ | ⟨hs, hb⟩ | ⟨hs, hb⟩ <;> rw [hs] at d2 d3 hrr htl htk hle
      · have hx : (l.drop (k + 1)).take (1 - 1) = [] := by simp
        rw [hx] at hrr htk
        have hR : ((l[k]).toNat : Int) = rawR (l[k]) (l.drop (k + 1)) := by rw [hrr]; simp [leadM]
        rw [htk] at d2 d3
        by_cases he : enc (rawR (l[k]) (l.drop (k + 1))) = [l[k]]
        · obtain ⟨e1, e2⟩ := d2 he
          rw [e1, e2]
          exact l01Rune_one_eq A l c k _ w hl hc9 hA (by omega) hb htk hR he
        · have e1 := d3 he
          rw [e1, zero _ e1]
          exact l01Rune_one_ne A l c k _ w hl hc9 hA (by omega) hb htk hR he
      · obtain ⟨x, hx⟩ : ∃ x, (l.drop (k + 1)).take (2 - 1) = [x] := by
          match h : (l.drop (k + 1)).take (2 - 1), htl with
          | [x], _ => exact ⟨x, rfl⟩
        rw [hx] at hrr htk
        have hR : (64 * (((l[k]).toNat : Int) - 192) + x.toNat - 128) = rawR (l[k]) (l.drop (k + 1)) := by rw [hrr]; simp [leadM]
        rw [htk] at d2 d3
        by_cases he : enc (rawR (l[k]) (l.drop (k + 1))) = [l[k], x]
        · obtain ⟨e1, e2⟩ := d2 he
          rw [e1, e2]
          exact l01Rune_two_eq A l c k x _ w hl hc9 hA (by omega) hb htk hR he
        · have e1 := d3 he
          rw [e1, zero _ e1]
          exact l01Rune_two_ne A l c k x _ w hl hc9 hA (by omega) hb htk hR he
      · obtain ⟨x, y, hx⟩ : ∃ x y, (l.drop (k + 1)).take (3 - 1) = [x, y] := by
          match h : (l.drop (k + 1)).take (3 - 1), htl with
          | [x, y], _ => exact ⟨x, y, rfl⟩
        rw [hx] at hrr htk
        have hR : (64 * (64 * (((l[k]).toNat : Int) - 224) + x.toNat - 128) + y.toNat - 128) = rawR (l[k]) (l.drop (k + 1)) := by rw [hrr]; simp [leadM]
        rw [htk] at d2 d3
        by_cases he : enc (rawR (l[k]) (l.drop (k + 1))) = [l[k], x, y]
        · obtain ⟨e1, e2⟩ := d2 he
          rw [e1, e2]
          exact l01Rune_three_eq A l c k x y _ w hl hc9 hA (by omega) hb htk hR he
        · have e1 := d3 he
          rw [e1, zero _ e1]
          exact l01Rune_three_ne A l c k x y _ w hl hc9 hA (by omega) hb htk hR he
      · obtain ⟨x, y, z, hx⟩ : ∃ x y z, (l.drop (k + 1)).take (4 - 1) = [x, y, z] := by
          match h : (l.drop (k + 1)).take (4 - 1), htl with
          | [x, y, z], _ => exact ⟨x, y, z, rfl⟩
        rw [hx] at hrr htk
        have hR : (64 * (64 * (64 * (((l[k]).toNat : Int) - 240) + x.toNat - 128) + y.toNat - 128) + z.toNat - 128) = rawR (l[k]) (l.drop (k + 1)) := by rw [hrr]; simp [leadM]
        rw [htk] at d2 d3
        by_cases he : enc (rawR (l[k]) (l.drop (k + 1))) = [l[k], x, y, z]
        · obtain ⟨e1, e2⟩ := d2 he
          rw [e1, e2]
          exact l01Rune_four_eq A l c k x y z _ w hl hc9 hA (by omega) hb htk hR he
        · have e1 := d3 he
          rw [e1, zero _ e1]
          exact l01Rune_four_ne A l c k x y z _ w hl hc9 hA (by omega) hb htk hR he

set_option maxHeartbeats 400000 in
theorem specRuneSize_any (A : Option Addr) (l : List UInt8) (c : Nat) (at_ : Int) (w : World) (hl : l.length ≤ c) (hc9 : c ≤ 9223372036854775807) (hA : Bs w A l) :
    Calls Tryd.prog 97 #[.slice A l.length c, .int .i64 at_] w fun e w' => e = .returned (.int .i64 (runeSize l at_)) ∧ Below w.heap.size w w' := by
  go_enter Tryd.func97, Tryd.ntmps97
  go_wp2_with fail
  refine (l01Rune_any A l c at_ _ hl hc9 (by exact hA)).mono ?_
  rintro e w1 ⟨rfl, hb⟩
  go_wp2
  go_ret
  exact ⟨rfl, hb⟩

end Go.Proofs.YtfgbipomdfceeaaDoor
