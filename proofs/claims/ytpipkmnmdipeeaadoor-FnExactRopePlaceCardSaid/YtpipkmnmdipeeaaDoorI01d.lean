/-
  Chapter 1, the program's RuneAt whole, RuneSize, TextOk, CutOk, RunesTo, RuneCount, PlaceOf: contracts. Own work.
-/
import Derived.Test.YtpipkmnmdipeeaaDoorP01b
import Derived.Test.YtpipkmnmdipeeaaDoorI01c
namespace Go.Proofs.YtpipkmnmdipeeaaDoor
open Go.RowKit P
set_option linter.unusedVariables false

theorem Bs.drewN {w : World} {A : Option Addr} {l : List UInt8} (h : Bs w A l) (n : Nat) : Bs (w.drewN n) A l := h
theorem Tab.drewN {w : World} (h : Tab w) (n : Nat) : Tab (w.drewN n) := h

theorem form_bounds (b : Nat) (hb : b < 256) : (formSz b = 1 → b < 128) ∧ (formSz b = 2 → 192 ≤ b ∧ b < 224) ∧ (formSz b = 3 → 224 ≤ b ∧ b < 240) ∧ (formSz b = 4 → 240 ≤ b ∧ b < 248) ∧ formSz b ≤ 4 := by
  unfold formSz
  refine ⟨?_, ?_, ?_, ?_, ?_⟩ <;> (repeat' split) <;> omega

theorem iteOr (p : Prop) [Decidable p] (r : Int) : (p ∧ (if p then r else -1) = r) ∨ (¬ p ∧ (if p then r else -1) = -1) := by
  by_cases h : p
  · exact .inl ⟨h, if_pos h⟩
  · exact .inr ⟨h, if_neg h⟩

theorem runeAt_any (A : Option Addr) (l : List UInt8) (c : Nat) (at_ : Int) (w : World) (hl : l.length ≤ c) (hc9 : c ≤ 9223372036854775807) (hT : Tab w) (hA : Bs w A l) :
    Calls Tryd.prog 113 #[.slice A l.length c, .int .i64 at_] w fun e w' => e = .returned (.int .i64 (runeAt l at_)) ∧ ∃ n, w' = w.drewN n := by
  by_cases hr : at_ < 0 ∨ (l.length : Int) ≤ at_
  · refine (runeAt_out A l c at_ w hr).mono ?_
    rintro e w' ⟨rfl, rfl⟩
    exact ⟨by unfold runeAt; rw [if_pos hr], 0, rfl⟩
  · obtain ⟨k, rfl⟩ := Int.eq_ofNat_of_zero_le (show 0 ≤ at_ by omega)
    have hk : k < l.length := by omega
    have hd : l.drop k = l[k] :: l.drop (k + 1) := List.drop_eq_getElem_cons hk
    have hv : runeAt l (k : Int) = decL (l[k] :: l.drop (k + 1)) := by
      unfold runeAt; rw [if_neg hr, Int.toNat_natCast, hd]
    rw [hv]
    have hu := (l[k]).toNat_lt
    obtain ⟨b1, b2, b3, b4, b5⟩ := form_bounds (l[k]).toNat hu
    generalize hs : formSz (l[k]).toNat = s at *
    by_cases hsh : s = 0 ∨ l.length - k < s
    · refine (runeAt_short A l c k s w (by omega) hA hk hs hsh).mono ?_
      rintro e w' ⟨rfl, rfl⟩
      refine ⟨?_, 0, rfl⟩
      simp only [decL, hs]
      rw [if_pos (by simp; omega)]
    · have hne : ¬ (s = 0 ∨ (l.drop (k + 1)).length + 1 < s) := by rw [List.length_drop]; omega
      have h4 : s = 1 ∨ s = 2 ∨ s = 3 ∨ s = 4 := by omega
      have hdec : decL (l[k] :: l.drop (k + 1)) = if codeSz (((l.drop (k + 1)).take (s - 1)).foldl (fun r x => addC r x.toNat) (((l[k]).toNat : Int) - leadM s)) = s then ((l.drop (k + 1)).take (s - 1)).foldl (fun r x => addC r x.toNat) (((l[k]).toNat : Int) - leadM s) else -1 := by
        simp only [decL, hs]
        rw [if_neg hne]
      rw [hdec]
      have htl : ((l.drop (k + 1)).take (s - 1)).length = s - 1 := by rw [List.length_take, List.length_drop]; omega
      rcases h4 with rfl | rfl | rfl | rfl
      · have hcs : codeSz (l[k]).toNat = 1 := by have := b1 rfl; unfold codeSz; (repeat' split) <;> omega
        refine (runeAt_one A l c k w hl hc9 hT hA hk hs hcs).mono ?_
        rintro e w' ⟨rfl, hn⟩
        refine ⟨ret_int ?_, hn⟩
        simp [leadM, hcs]
      · obtain ⟨x, hx⟩ : ∃ x, (l.drop (k + 1)).take 1 = [x] := by
          match h : (l.drop (k + 1)).take 1, htl with
          | [x], _ => exact ⟨x, rfl⟩
        rw [hx]
        exact runeAt_two A l c k x _ _ w hl hc9 hT hA (by omega) hs (b2 rfl).1 hx rfl (iteOr _ _)
      · obtain ⟨x, y, hx⟩ : ∃ x y, (l.drop (k + 1)).take 2 = [x, y] := by
          match h : (l.drop (k + 1)).take 2, htl with
          | [x, y], _ => exact ⟨x, y, rfl⟩
        rw [hx]
        exact runeAt_three A l c k x y _ _ w hl hc9 hT hA (by omega) hs (b3 rfl).1 hx rfl (iteOr _ _)
      · obtain ⟨x, y, z, hx⟩ : ∃ x y z, (l.drop (k + 1)).take 3 = [x, y, z] := by
          match h : (l.drop (k + 1)).take 3, htl with
          | [x, y, z], _ => exact ⟨x, y, z, rfl⟩
        rw [hx]
        exact runeAt_four A l c k x y z _ _ w hl hc9 hT hA (by omega) hs (b4 rfl).1 hx rfl (iteOr _ _)

set_option maxHeartbeats 400000 in
theorem runeSize_any (A : Option Addr) (l : List UInt8) (c : Nat) (at_ : Int) (w : World) (hl : l.length ≤ c) (hc9 : c ≤ 9223372036854775807) (hT : Tab w) (hA : Bs w A l) :
    Calls Tryd.prog 92 #[.slice A l.length c, .int .i64 at_] w fun e w' => e = .returned (.int .i64 (runeSize l at_)) ∧ ∃ n, w' = w.drewN n := by
  go_enter Tryd.func92, Tryd.ntmps92
  go_wp2_with fail
  refine (runeAt_any A l c at_ _ hl hc9 (by exact hT) (by exact hA)).mono ?_
  rintro e w1 ⟨rfl, n, rfl⟩
  go_wp2_with fail
  refine (codeSize_any _ _).mono ?_
  rintro e w1 ⟨rfl, rfl⟩
  go_wp2
  go_ret
  exact ⟨rfl, n, rfl⟩

theorem runeSize_at (l : List UInt8) (k : Nat) (h : k < l.length) : runeSize l k = sz (l.drop k) := by
  unfold runeSize runeAt sz
  rw [if_neg (by omega), Int.toNat_natCast]

set_option maxHeartbeats 800000 in
theorem textOk_any (A : Option Addr) (l : List UInt8) (c : Nat) (w : World) (hl : l.length ≤ c) (hc9 : c ≤ 9223372036854775807) (hT : Tab w) (hA : Bs w A l) :
    Calls Tryd.prog 57 #[.slice A l.length c] w fun e w' => e = .returned (.bool (isText l)) ∧ ∃ n, w' = w.drewN n := by
  by_cases h4 : l.length ≤ 400
  · have hnot : ¬ (400 < (l.length : Int)) := by omega
    have ht : isText l = okS 0 l := by unfold isText; simp [h4]
    have HTX := Lib.hid ht
    clear ht
    go_enter Tryd.func57, Tryd.ntmps57
    go_wp2
    go_loopw [3, 11] (fun next i wr => ∃ p k n : Nat, next = .int .i64 p ∧ i = .int .i64 k ∧ k ≤ p ∧ p ≤ l.length ∧ okS 0 (l.drop p) = okS 0 l ∧ wr = w.drewN n) (fun _ i _ => l.length - (intOf i).toNat)
    case atStart => exact ⟨0, 0, 0, rfl, rfl, Nat.le_refl _, Nat.zero_le _, rfl, rfl⟩
    case round =>
      obtain ⟨p, k, n, rfl, rfl, hkp, hpl, hok, rfl⟩ := hrel
      have HOK := Lib.hid hok
      clear hok
      by_cases hkl : k < l.length
      · by_cases hlt : k < p
        · go_wp2
          go_roundw
          case rel => exact ⟨p, k + 1, n, rfl, by go_num, by omega, hpl, HOK.out, rfl⟩
          case measure => simp [intOf]; omega
        · obtain rfl : k = p := by omega
          have hstep := okS_step (t := l.drop k) (by intro e; have := congrArg List.length e; simp at this; omega)
          have hle := sz_le (l.drop k)
          rw [List.length_drop] at hle
          have hz := runeSize_at l k hkl
          generalize sz (l.drop k) = z at *
          have HZ := Lib.hid hz
          clear hz
          have HST := Lib.hid hstep
          clear hstep
          by_cases hz0 : z = 0
          · subst hz0
            go_wp2_with (go_at_call 92; refine (runeSize_any A l c k _ hl hc9 (by exact hT) (by exact hA)).mono ?_; rintro e w1 ⟨rfl, m, rfl⟩; rw [HZ.out])
            go_ret
            refine ⟨ret_bool ?_, _, rfl⟩
            rw [HTX.out, ← HOK.out, HST.out]; simp
          · have hzz : ((z : Int) == 0) = false := by simp; omega
            go_wp2_with (go_at_call 92; refine (runeSize_any A l c k _ hl hc9 (by exact hT) (by exact hA)).mono ?_; rintro e w1 ⟨rfl, m, rfl⟩; rw [HZ.out])
            go_roundw
            case rel =>
              refine ⟨k + z, k + 1, _, by go_num, by go_num, by omega, by omega, ?_, rfl⟩
              rw [← HOK.out, HST.out]
              simp [hz0]
            case measure => simp [intOf]; omega
      · go_wp2
        go_ret
        refine ⟨ret_bool ?_, n, rfl⟩
        have : p = l.length := by omega
        rw [HTX.out, ← HOK.out, this]
        simp [okS]
  · have hnot : (400 < (l.length : Int)) := by omega
    have ht : isText l = false := by unfold isText; simp; omega
    have HTX := Lib.hid ht
    clear ht
    go_enter Tryd.func57, Tryd.ntmps57
    go_wp2
    go_ret
    exact ⟨ret_bool HTX.out.symm, 0, rfl⟩
end Go.Proofs.YtpipkmnmdipeeaaDoor
