/-
  Chapter 1 in plain Lean, the fifth part: decoding an encoding returns the code point, and encoding what was decoded returns the bytes. No program here. Own work.
-/
import Derived.Test.YtgpjjolgpppeeaaP01d
namespace Go.Proofs.Ytgpjjolgpppeeaa.P

theorem enc_dec (r : Int) (h : codeSz r ≠ 0) (t : List UInt8) : decL (enc r ++ t) = r ∧ sz (enc r ++ t) = codeSz r := by
  have fin : ∀ b u, enc r ++ t = b :: u → rawSz b.toNat ≤ u.length + 1 → rawR b u = r → enc r = (b :: u).take (rawSz b.toNat) → decL (enc r ++ t) = r ∧ sz (enc r ++ t) = codeSz r := by
    intro b u e h1 h2 h3
    rw [e]
    obtain ⟨_, d2, _⟩ := dec_raw b u
    rw [← h2] at h3
    obtain ⟨e1, e2⟩ := d2 h1 h3
    rw [e1, h2]
    refine ⟨rfl, ?_⟩
    unfold sz
    rw [e1, h2]
  rcases codeSz_cases r with ⟨g, _⟩ | ⟨g, g1, g2⟩ | ⟨g, g1, g2⟩ | ⟨g, g1, g2, g3⟩ | ⟨g, g1, g2⟩
  · exact absurd g h
  · have he : enc r = [u8 r] := by simp [enc, g]
    have e0 := u8_toNat r (by omega) (by omega)
    have hs : rawSz (u8 r).toNat = 1 := by unfold rawSz; (repeat' split) <;> omega
    refine fin (u8 r) t (by rw [he]; rfl) (by omega) ?_ (by rw [he, hs]; rfl)
    simp [rawR, hs, leadM, e0]
  · have he : enc r = [u8 (192 + r / 64), u8 (128 + r % 64)] := by simp [enc, g]
    have e0 := u8_toNat (192 + r / 64) (by omega) (by omega)
    have e1 := u8_toNat (128 + r % 64) (by omega) (by omega)
    have hs : rawSz (u8 (192 + r / 64)).toNat = 2 := by unfold rawSz; (repeat' split) <;> omega
    refine fin (u8 (192 + r / 64)) (u8 (128 + r % 64) :: t) (by rw [he]; rfl) (by rw [hs]; simp) ?_ (by rw [he, hs]; rfl)
    simp only [rawR, hs, leadM]
    simp only [Nat.add_one_sub_one, List.take_succ_cons, List.take_zero, List.foldl_cons, List.foldl_nil, e0, e1]
    simp
    omega
  · have he : enc r = [u8 (224 + r / 4096), u8 (128 + r / 64 % 64), u8 (128 + r % 64)] := by simp [enc, g]
    have e0 := u8_toNat (224 + r / 4096) (by omega) (by omega)
    have e1 := u8_toNat (128 + r / 64 % 64) (by omega) (by omega)
    have e2 := u8_toNat (128 + r % 64) (by omega) (by omega)
    have hs : rawSz (u8 (224 + r / 4096)).toNat = 3 := by unfold rawSz; (repeat' split) <;> omega
    refine fin (u8 (224 + r / 4096)) (u8 (128 + r / 64 % 64) :: u8 (128 + r % 64) :: t) (by rw [he]; rfl) (by rw [hs]; simp) ?_ (by rw [he, hs]; rfl)
    simp only [rawR, hs, leadM]
    simp only [Nat.add_one_sub_one, List.take_succ_cons, List.take_zero, List.foldl_cons, List.foldl_nil, e0, e1, e2]
    simp
    omega
  · have he : enc r = [u8 (240 + r / 262144), u8 (128 + r / 4096 % 64), u8 (128 + r / 64 % 64), u8 (128 + r % 64)] := by simp [enc, g]
    have e0 := u8_toNat (240 + r / 262144) (by omega) (by omega)
    have e1 := u8_toNat (128 + r / 4096 % 64) (by omega) (by omega)
    have e2 := u8_toNat (128 + r / 64 % 64) (by omega) (by omega)
    have e3 := u8_toNat (128 + r % 64) (by omega) (by omega)
    have hs : rawSz (u8 (240 + r / 262144)).toNat = 4 := by unfold rawSz; (repeat' split) <;> omega
    refine fin (u8 (240 + r / 262144)) (u8 (128 + r / 4096 % 64) :: u8 (128 + r / 64 % 64) :: u8 (128 + r % 64) :: t) (by rw [he]; rfl) (by rw [hs]; simp) ?_ (by rw [he, hs]; rfl)
    simp only [rawR, hs, leadM]
    simp only [Nat.add_one_sub_one, List.take_succ_cons, List.take_zero, List.foldl_cons, List.foldl_nil, e0, e1, e2, e3]
    simp
    omega

theorem enc_at_one (r : Int) (h : 0 < (enc r).length) : runeAt (97 :: enc r) 1 = r := by
  have hc : codeSz r ≠ 0 := by rw [enc_length] at h; omega
  unfold runeAt
  rw [if_neg (by simp; omega)]
  have := (enc_dec r hc []).1
  simpa using this

theorem enc_size (r : Int) (h : 0 < (enc r).length) : runeSize (enc r) 0 = (enc r).length := by
  have hc : codeSz r ≠ 0 := by rw [enc_length] at h; omega
  have := (enc_dec r hc []).1
  rw [List.append_nil] at this
  unfold runeSize runeAt
  rw [if_neg (by omega), enc_length]
  simp [this]

theorem enc_text (r : Int) : isText (enc r) = true := by
  by_cases h0 : enc r = []
  · rw [h0]; rfl
  · have hpos : 0 < (enc r).length := List.length_pos_iff.2 h0
    have hc : codeSz r ≠ 0 := by rw [enc_length] at hpos; omega
    have hs := (enc_dec r hc []).2
    rw [List.append_nil] at hs
    have h4 := codeSz_le r
    unfold isText
    rw [okS_step h0, hs, enc_length]
    have hd : (enc r).drop (codeSz r) = [] := by rw [← enc_length]; exact List.drop_length
    rw [hd]
    simp [hc, okS]
    omega

theorem dec_enc (b : UInt8) (u : List UInt8) (h : sz (b :: u) ≠ 0) : enc (decL (b :: u)) = (b :: u).take (sz (b :: u)) := by
  obtain ⟨d1, d2, d3⟩ := dec_raw b u
  have zero : ∀ x, decL x = -1 → sz x = 0 := fun x e => by unfold sz; rw [e]; rfl
  by_cases h1 : u.length + 1 < rawSz b.toNat
  · exact absurd (zero _ (d1 h1)) h
  · by_cases h2 : enc (rawR b u) = (b :: u).take (rawSz b.toNat)
    · obtain ⟨e1, e2⟩ := d2 (by omega) h2
      rw [e1, e2, h2]
    · exact absurd (zero _ (d3 (by omega) h2)) h

theorem runeSize_in {l : List UInt8} {a : Int} (h : runeSize l a ≠ 0) : ∃ k : Nat, a = k ∧ k + runeSize l a ≤ l.length ∧ enc (runeAt l a) = (l.drop k).take (runeSize l a) := by
  unfold runeSize runeAt at h
  split at h
  · exact absurd rfl h
  · rename_i hr
    obtain ⟨k, rfl⟩ := Int.eq_ofNat_of_zero_le (show 0 ≤ a by omega)
    have hk : k < l.length := by omega
    have hv : runeAt l (k : Int) = decL (l.drop k) := by unfold runeAt; rw [if_neg hr, Int.toNat_natCast]
    have hs : runeSize l (k : Int) = sz (l.drop k) := by unfold runeSize sz; rw [hv]
    have hle := sz_le (l.drop k)
    rw [List.length_drop] at hle
    refine ⟨k, rfl, by rw [hs]; omega, ?_⟩
    rw [hv, hs]
    have hd : l.drop k = l[k] :: l.drop (k + 1) := List.drop_eq_getElem_cons hk
    rw [Int.toNat_natCast] at h
    rw [hd] at h ⊢
    exact dec_enc _ _ h
end Go.Proofs.Ytgpjjolgpppeeaa.P
