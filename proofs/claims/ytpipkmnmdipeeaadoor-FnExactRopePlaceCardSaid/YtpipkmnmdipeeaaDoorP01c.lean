/-
  Chapter 1 in plain Lean, the third part: encodings, and that decoding by weighing and comparing is decoding by forms. No program here. Own work.
-/
import Derived.Test.YtpipkmnmdipeeaaDoorP01b
namespace Go.Proofs.YtpipkmnmdipeeaaDoor.P

def u8 (x : Int) : UInt8 := UInt8.ofNat x.toNat

theorem u8_toNat (x : Int) (h0 : 0 ≤ x) (h1 : x < 256) : ((u8 x).toNat : Int) = x := by
  unfold u8
  rw [UInt8.toNat_ofNat']
  omega

/-- The encoding of a code point, empty where r is none. -/
def enc (r : Int) : List UInt8 :=
  match codeSz r with
  | 0 => []
  | 1 => [u8 r]
  | 2 => [u8 (192 + r / 64), u8 (128 + r % 64)]
  | 3 => [u8 (224 + r / 4096), u8 (128 + r / 64 % 64), u8 (128 + r % 64)]
  | _ => [u8 (240 + r / 262144), u8 (128 + r / 4096 % 64), u8 (128 + r / 64 % 64), u8 (128 + r % 64)]

theorem codeSz_cases (r : Int) : (codeSz r = 0 ∧ (r < 0 ∨ 1114111 < r ∨ (55296 ≤ r ∧ r ≤ 57343))) ∨ (codeSz r = 1 ∧ 0 ≤ r ∧ r < 128) ∨ (codeSz r = 2 ∧ 128 ≤ r ∧ r < 2048) ∨
    (codeSz r = 3 ∧ 2048 ≤ r ∧ r < 65536 ∧ (r < 55296 ∨ 57343 < r)) ∨ (codeSz r = 4 ∧ 65536 ≤ r ∧ r ≤ 1114111) := by
  unfold codeSz
  (repeat' split) <;> omega

theorem enc_length (r : Int) : (enc r).length = codeSz r := by
  rcases codeSz_cases r with h | h | h | h | h <;> simp [enc, h.1]

/-- What the first byte says of the length, unchecked. -/
def rawSz (b : Nat) : Nat := if 240 ≤ b then 4 else if 224 ≤ b then 3 else if 192 ≤ b then 2 else 1

def rawR (b : UInt8) (u : List UInt8) : Int := (u.take (rawSz b.toNat - 1)).foldl (fun r x => 64 * r + (x.toNat : Int) - 128) ((b.toNat : Int) - leadM (rawSz b.toNat))

def eqB (a b : UInt8) : Prop := (a.toNat : Int) = (b.toNat : Int)
theorem eqB_iff (a b : UInt8) : a = b ↔ (a.toNat : Int) = (b.toNat : Int) := by
  constructor
  · intro h; rw [h]
  · intro h; exact UInt8.toNat_inj.1 (by omega)

theorem enc1_eq (r : Int) (b : UInt8) : enc r = [b] ↔ (0 ≤ r ∧ r < 128 ∧ r = (b.toNat : Int)) := by
  rcases codeSz_cases r with h | h | h | h | h <;> simp only [enc, h.1, List.cons.injEq, and_true, reduceCtorEq, false_iff, and_false, eqB_iff]
  all_goals (try rw [u8_toNat _ (by omega) (by omega)])
  all_goals omega

theorem enc2_eq (r : Int) (a b : UInt8) : enc r = [a, b] ↔ (128 ≤ r ∧ r < 2048 ∧ 192 + r / 64 = (a.toNat : Int) ∧ 128 + r % 64 = (b.toNat : Int)) := by
  rcases codeSz_cases r with h | h | h | h | h <;> simp only [enc, h.1, List.cons.injEq, and_true, reduceCtorEq, false_iff, and_false, eqB_iff]
  all_goals (try rw [u8_toNat _ (by omega) (by omega), u8_toNat _ (by omega) (by omega)])
  all_goals omega

theorem enc3_eq (r : Int) (a b c : UInt8) : enc r = [a, b, c] ↔ (2048 ≤ r ∧ r < 65536 ∧ (r < 55296 ∨ 57343 < r) ∧ 224 + r / 4096 = (a.toNat : Int) ∧ 128 + r / 64 % 64 = (b.toNat : Int) ∧ 128 + r % 64 = (c.toNat : Int)) := by
  rcases codeSz_cases r with h | h | h | h | h <;> simp only [enc, h.1, List.cons.injEq, and_true, reduceCtorEq, false_iff, and_false, eqB_iff]
  all_goals (try rw [u8_toNat _ (by omega) (by omega), u8_toNat _ (by omega) (by omega), u8_toNat _ (by omega) (by omega)])
  all_goals omega

theorem enc4_eq (r : Int) (a b c d : UInt8) : enc r = [a, b, c, d] ↔ (65536 ≤ r ∧ r ≤ 1114111 ∧ 240 + r / 262144 = (a.toNat : Int) ∧ 128 + r / 4096 % 64 = (b.toNat : Int) ∧ 128 + r / 64 % 64 = (c.toNat : Int) ∧ 128 + r % 64 = (d.toNat : Int)) := by
  rcases codeSz_cases r with h | h | h | h | h <;> simp only [enc, h.1, List.cons.injEq, and_true, reduceCtorEq, false_iff, and_false, eqB_iff]
  all_goals (try rw [u8_toNat _ (by omega) (by omega), u8_toNat _ (by omega) (by omega), u8_toNat _ (by omega) (by omega), u8_toNat _ (by omega) (by omega)])
  all_goals omega

theorem addC_cont (r : Int) (b : Nat) (hb : b < 256) (h : 0 ≤ r) : (isCont b = true ∧ 128 ≤ b ∧ b < 192 ∧ addC r b = 64 * r + b - 128) ∨ ((b < 128 ∨ 192 ≤ b) ∧ addC r b = -1) := by
  unfold addC isCont
  by_cases hc : 128 ≤ b ∧ b < 192
  · left
    refine ⟨by simp [hc], hc.1, hc.2, ?_⟩
    rw [if_neg (by simp [hc]; omega)]
    omega
  · right
    exact ⟨by omega, by rw [if_pos (.inr (by simpa using hc))]⟩

/-- DECODING BY WEIGHING: long enough, and the encoding of what was weighed is just these bytes. -/
theorem dec_raw (b : UInt8) (u : List UInt8) :
    (u.length + 1 < rawSz b.toNat → decL (b :: u) = -1) ∧
    (rawSz b.toNat ≤ u.length + 1 → enc (rawR b u) = (b :: u).take (rawSz b.toNat) → decL (b :: u) = rawR b u ∧ sz (b :: u) = rawSz b.toNat) ∧
    (rawSz b.toNat ≤ u.length + 1 → enc (rawR b u) ≠ (b :: u).take (rawSz b.toNat) → decL (b :: u) = -1) := by
  have hb := b.toNat_lt
  have hf := fun k => (show formSz b.toNat = k → formSz b.toNat = k from id)
  have hz : ∀ r, decL (b :: u) = r → sz (b :: u) = codeSz r := fun r e => by unfold sz; rw [e]
  by_cases h1 : b.toNat < 128
  · have hs : rawSz b.toNat = 1 := by unfold rawSz; (repeat' split) <;> omega
    have hF : formSz b.toNat = 1 := by unfold formSz; (repeat' split) <;> omega
    have hc : codeSz (b.toNat : Int) = 1 := by unfold codeSz; (repeat' split) <;> omega
    have hd : decL (b :: u) = b.toNat := by simp [decL, hF, leadM, hc]
    have hr : rawR b u = b.toNat := by simp [rawR, hs, leadM]
    rw [hs, hr]
    refine ⟨fun h => by omega, fun _ _ => ⟨hd, (hz _ hd).trans hc⟩, fun _ h => absurd ?_ h⟩
    simp only [List.take_succ_cons, List.take_zero]
    exact (enc1_eq _ _).2 ⟨by omega, by omega, rfl⟩
  by_cases h2 : b.toNat < 192
  · have hs : rawSz b.toNat = 1 := by unfold rawSz; (repeat' split) <;> omega
    have hF : formSz b.toNat = 0 := by unfold formSz; (repeat' split) <;> omega
    have hd : decL (b :: u) = -1 := by simp [decL, hF]
    have hr : rawR b u = b.toNat := by simp [rawR, hs, leadM]
    rw [hs, hr]
    refine ⟨fun _ => hd, fun _ h => ?_, fun _ _ => hd⟩
    simp only [List.take_succ_cons, List.take_zero] at h
    have := (enc1_eq _ _).1 h
    omega
  by_cases h3 : b.toNat < 224
  · have hs : rawSz b.toNat = 2 := by unfold rawSz; (repeat' split) <;> omega
    have hF : formSz b.toNat = 2 := by unfold formSz; (repeat' split) <;> omega
    rw [hs]
    refine ⟨fun h => by simp only [decL, hF]; rw [if_pos (by omega)], ?_⟩
    match u with
    | [] => exact ⟨fun h => by simp at h, fun h => by simp at h⟩
    | x :: t =>
      have hx := x.toNat_lt
      have hr : rawR b (x :: t) = 64 * ((b.toNat : Int) - 192) + x.toNat - 128 := by simp [rawR, hs, leadM]
      have hdd : decL (b :: x :: t) = if codeSz (addC ((b.toNat : Int) - 192) x.toNat) = 2 then addC ((b.toNat : Int) - 192) x.toNat else -1 := by
        simp only [decL, hF]; rw [if_neg (by simp)]; rfl
      rw [hr]
      simp only [List.take_succ_cons, List.take_zero, ne_eq, enc2_eq]
      rcases addC_cont ((b.toNat : Int) - 192) x.toNat hx (by omega) with ⟨_, c1, c2, he⟩ | ⟨c1, he⟩
      · rw [he] at hdd
        rcases codeSz_cases (64 * ((b.toNat : Int) - 192) + x.toNat - 128) with g | g | g | g | g <;> rw [g.1] at hdd <;> simp at hdd
        all_goals refine ⟨fun _ h => ?_, fun _ h => ?_⟩
        all_goals first
          | omega
          | exact hdd
          | exact ⟨hdd, (hz _ hdd).trans g.1⟩
      · rw [he, codeSz_neg] at hdd
        exact ⟨fun _ h => by omega, fun _ _ => by simpa using hdd⟩
  by_cases h4 : b.toNat < 240
  · have hs : rawSz b.toNat = 3 := by unfold rawSz; (repeat' split) <;> omega
    have hF : formSz b.toNat = 3 := by unfold formSz; (repeat' split) <;> omega
    rw [hs]
    refine ⟨fun h => by simp only [decL, hF]; rw [if_pos (by omega)], ?_⟩
    match u with
    | [] => exact ⟨fun h => by simp at h, fun h => by simp at h⟩
    | [_] => exact ⟨fun h => by simp at h, fun h => by simp at h⟩
    | x :: y :: t =>
      have hx := x.toNat_lt
      have hy := y.toNat_lt
      have hr : rawR b (x :: y :: t) = 64 * (64 * ((b.toNat : Int) - 224) + x.toNat - 128) + y.toNat - 128 := by simp [rawR, hs, leadM]
      have hdd : decL (b :: x :: y :: t) = if codeSz (addC (addC ((b.toNat : Int) - 224) x.toNat) y.toNat) = 3 then addC (addC ((b.toNat : Int) - 224) x.toNat) y.toNat else -1 := by
        simp only [decL, hF]; rw [if_neg (by simp)]; rfl
      rw [hr]
      simp only [List.take_succ_cons, List.take_zero, ne_eq, enc3_eq]
      rcases addC_cont ((b.toNat : Int) - 224) x.toNat hx (by omega) with ⟨_, c1, c2, he⟩ | ⟨c1, he⟩
      · rw [he] at hdd
        rcases addC_cont (64 * ((b.toNat : Int) - 224) + x.toNat - 128) y.toNat hy (by omega) with ⟨_, d1, d2, hf⟩ | ⟨d1, hf⟩
        · rw [hf] at hdd
          rcases codeSz_cases (64 * (64 * ((b.toNat : Int) - 224) + x.toNat - 128) + y.toNat - 128) with g | g | g | g | g <;> rw [g.1] at hdd <;> simp at hdd
          all_goals refine ⟨fun _ h => ?_, fun _ h => ?_⟩
          all_goals first
            | omega
            | exact hdd
            | exact ⟨hdd, (hz _ hdd).trans g.1⟩
        · rw [hf, codeSz_neg] at hdd
          exact ⟨fun _ h => by omega, fun _ _ => by simpa using hdd⟩
      · rw [he, show addC (-1) y.toNat = -1 from rfl, codeSz_neg] at hdd
        exact ⟨fun _ h => by omega, fun _ _ => by simpa using hdd⟩
  · have hs : rawSz b.toNat = 4 := by unfold rawSz; (repeat' split) <;> omega
    rw [hs]
    by_cases h5 : b.toNat < 248
    · have hF : formSz b.toNat = 4 := by unfold formSz; (repeat' split) <;> omega
      refine ⟨fun h => by simp only [decL, hF]; rw [if_pos (by omega)], ?_⟩
      match u with
      | [] => exact ⟨fun h => by simp at h, fun h => by simp at h⟩
      | [_] => exact ⟨fun h => by simp at h, fun h => by simp at h⟩
      | [_, _] => exact ⟨fun h => by simp at h, fun h => by simp at h⟩
      | x :: y :: z :: t =>
        have hx := x.toNat_lt
        have hy := y.toNat_lt
        have hzz := z.toNat_lt
        have hr : rawR b (x :: y :: z :: t) = 64 * (64 * (64 * ((b.toNat : Int) - 240) + x.toNat - 128) + y.toNat - 128) + z.toNat - 128 := by simp [rawR, hs, leadM]
        have hdd : decL (b :: x :: y :: z :: t) = if codeSz (addC (addC (addC ((b.toNat : Int) - 240) x.toNat) y.toNat) z.toNat) = 4 then addC (addC (addC ((b.toNat : Int) - 240) x.toNat) y.toNat) z.toNat else -1 := by
          simp only [decL, hF]; rw [if_neg (by simp)]; rfl
        rw [hr]
        simp only [List.take_succ_cons, List.take_zero, ne_eq, enc4_eq]
        rcases addC_cont ((b.toNat : Int) - 240) x.toNat hx (by omega) with ⟨_, c1, c2, he⟩ | ⟨c1, he⟩
        · rw [he] at hdd
          rcases addC_cont (64 * ((b.toNat : Int) - 240) + x.toNat - 128) y.toNat hy (by omega) with ⟨_, d1, d2, hf⟩ | ⟨d1, hf⟩
          · rw [hf] at hdd
            rcases addC_cont (64 * (64 * ((b.toNat : Int) - 240) + x.toNat - 128) + y.toNat - 128) z.toNat hzz (by omega) with ⟨_, e1, e2, hg⟩ | ⟨e1, hg⟩
            · rw [hg] at hdd
              rcases codeSz_cases (64 * (64 * (64 * ((b.toNat : Int) - 240) + x.toNat - 128) + y.toNat - 128) + z.toNat - 128) with g | g | g | g | g <;> rw [g.1] at hdd <;> simp at hdd
              all_goals refine ⟨fun _ h => ?_, fun _ h => ?_⟩
              all_goals first
                | omega
                | exact hdd
                | exact ⟨hdd, (hz _ hdd).trans g.1⟩
            · rw [hg, codeSz_neg] at hdd
              exact ⟨fun _ h => by omega, fun _ _ => by simpa using hdd⟩
          · rw [hf, show addC (-1) z.toNat = -1 from rfl, codeSz_neg] at hdd
            exact ⟨fun _ h => by omega, fun _ _ => by simpa using hdd⟩
        · rw [he, show addC (-1) y.toNat = -1 from rfl, show addC (-1) z.toNat = -1 from rfl, codeSz_neg] at hdd
          exact ⟨fun _ h => by omega, fun _ _ => by simpa using hdd⟩
    · have hF : formSz b.toNat = 0 := by unfold formSz; (repeat' split) <;> omega
      have hd : decL (b :: u) = -1 := by simp [decL, hF]
      refine ⟨fun _ => hd, fun hl h => ?_, fun _ _ => hd⟩
      match u with
      | [] => simp at hl
      | [_] => simp at hl
      | [_, _] => simp at hl
      | x :: y :: z :: t =>
        have hr : rawR b (x :: y :: z :: t) = 64 * (64 * (64 * ((b.toNat : Int) - 240) + x.toNat - 128) + y.toNat - 128) + z.toNat - 128 := by simp [rawR, hs, leadM]
        rw [hr] at h
        simp only [List.take_succ_cons, List.take_zero, enc4_eq] at h
        omega

end Go.Proofs.YtpipkmnmdipeeaaDoor.P
