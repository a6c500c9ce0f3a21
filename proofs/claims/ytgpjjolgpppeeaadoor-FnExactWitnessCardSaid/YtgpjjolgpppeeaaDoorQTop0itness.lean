/-
  Texts of one claim in one: P01d, P01e, P02, C02, Mbg, Setrow. Own work.
-/
import Derived.Test.YtgpjjolgpppeeaaDoorP01
import Derived.Test.YtgpjjolgpppeeaaDoorLay
import Derived.Test.YtgpjjolgpppeeaaDoorSz
import Derived.Test.YtgpjjolgpppeeaaDoorMark
import Derived.Deep.RegionWith
import Derived.Test.YtgpjjolgpppeeaaDoorBlk
import Derived.Test.YtgpjjolgpppeeaaDoorSnoc

/-
  Chapter 1 in plain Lean, the fourth part: places and counts are inverse. No program here. Own work.
-/
namespace Go.Proofs.YtgpjjolgpppeeaaDoor.P

/-- In a text a boundary is a place from which the rest is a text. -/
theorem okS_bound (l : List UInt8) (k : Nat) (hk : k ≤ l.length) (hb : isBound l k = true) : ∀ (m p : Nat), k - p ≤ m → p ≤ k → okS 0 (l.drop p) = true → okS 0 (l.drop k) = true := by
  intro m
  induction m with
  | zero =>
    intro p h1 h2 h3
    have e : k = p := by omega
    rw [e]; exact h3
  | succ m ih =>
    intro p h1 h2 h3
    by_cases e : p = k
    · subst e; exact h3
    · obtain ⟨a, b, c, d, f⟩ := bound_here (p := p) (by omega) h3
      by_cases g : k < p + sz (l.drop p)
      · rw [f k (by omega) g] at hb; cases hb
      · exact ih _ (by omega) (by omega) c

theorem isText_ok {l : List UInt8} (h : isText l = true) : okS 0 l = true := by unfold isText at h; simp at h; exact h.2

theorem placeOf_count (l : List UInt8) (h : isText l = true) : placeOf l (runeCount l) = l.length := by
  have hr : runeCount l = (runesBefore l l.length : Int) := by
    unfold runeCount runesTo
    rw [if_pos ⟨h, isBound_end l⟩, Int.toNat_natCast]
  rw [hr]
  unfold placeOf
  rw [if_pos ⟨h, by omega⟩, Int.toNat_natCast]
  have := filter_find (fun k : Nat => isBound l k) (l.length + 1) l.length (by omega) (isBound_end l)
  unfold cuts runesBefore
  rw [this]
  rfl

theorem runesTo_pos {l : List UInt8} {a : Int} (h : 0 ≤ runesTo l a) : isText l = true ∧ ∃ k : Nat, a = k ∧ k ≤ l.length ∧ isBound l k = true ∧ runesTo l a = runesBefore l k := by
  unfold runesTo at h
  split at h
  · rename_i hc
    have hr : 0 ≤ a ∧ a ≤ l.length := by
      have := hc.2; unfold isBound at this; simp only [Bool.and_eq_true, decide_eq_true_eq] at this; exact this.1
    obtain ⟨k, rfl⟩ := Int.eq_ofNat_of_zero_le hr.1
    exact ⟨hc.1, k, rfl, by omega, hc.2, by unfold runesTo; rw [if_pos hc, Int.toNat_natCast]⟩
  · omega

theorem placeOf_runesTo (l : List UInt8) (a : Int) (h : 0 ≤ runesTo l a) : placeOf l (runesTo l a) = a := by
  obtain ⟨ht, k, rfl, hk, hb, hr⟩ := runesTo_pos h
  rw [hr]
  unfold placeOf
  rw [if_pos ⟨ht, by omega⟩, Int.toNat_natCast]
  have := filter_find (fun k : Nat => isBound l k) (l.length + 1) k (by omega) hb
  unfold cuts runesBefore
  rw [this]
  rfl

theorem placeOf_next (l : List UInt8) (a : Int) (h : 0 ≤ runesTo l a) (hne : a ≠ l.length) : placeOf l (runesTo l a + 1) = a + runeSize l a := by
  obtain ⟨ht, k, rfl, hk, hb, hr⟩ := runesTo_pos h
  have hkl : k < l.length := by omega
  have hok := okS_bound l k hk hb k 0 (by omega) (by omega) (isText_ok ht)
  obtain ⟨h1, h2, h3, h4, h5⟩ := bound_here hkl hok
  have hsz : runeSize l (k : Int) = sz (l.drop k) := by
    unfold runeSize runeAt sz
    rw [if_neg (by omega), Int.toNat_natCast]
  have hb2 : isBound l ((k + sz (l.drop k) : Nat) : Int) = true := by
    by_cases e : k + sz (l.drop k) = l.length
    · rw [e]; exact isBound_end l
    · exact (bound_here (by omega) h3).2.2.2.1
  have hfs := filter_step hkl h1
  have hlen : ((List.range (k + sz (l.drop k))).filter fun k : Nat => isBound l k).length = runesBefore l k + 1 := by rw [hfs]; simp [runesBefore]
  rw [hr, hsz]
  unfold placeOf
  rw [if_pos ⟨ht, by omega⟩]
  have := filter_find (fun k : Nat => isBound l k) (l.length + 1) (k + sz (l.drop k)) (by omega) hb2
  rw [hlen] at this
  have e : ((runesBefore l k : Int) + 1).toNat = runesBefore l k + 1 := by omega
  rw [e]
  unfold cuts
  rw [this]
  simp [placeIn]

theorem runesTo_not {l : List UInt8} (h : isText l = false) (a : Int) : runesTo l a = -1 := by
  unfold runesTo; rw [if_neg (by rw [h]; simp)]

theorem runesTo_ge (l : List UInt8) (a : Int) : -1 ≤ runesTo l a := by unfold runesTo; split <;> omega

theorem runesTo_bd (l : List UInt8) (a : Int) : runesTo l a ≤ l.length := by
  rcases Int.lt_or_le (runesTo l a) 0 with h | h
  · omega
  · obtain ⟨_, k, _, hk, _, hr⟩ := runesTo_pos h
    rw [hr]
    have : runesBefore l k ≤ k := by
      unfold runesBefore
      have := List.length_filter_le (fun k : Nat => isBound l k) (List.range k)
      simpa using this
    omega
end Go.Proofs.YtgpjjolgpppeeaaDoor.P

/-
  Chapter 1 in plain Lean, the fifth part: decoding an encoding returns the code point, and encoding what was decoded returns the bytes. No program here. Own work.
-/
namespace Go.Proofs.YtgpjjolgpppeeaaDoor.P

theorem enc_dec (r : Int) (h : codeSz r ≠ 0) (t : List UInt8) : decL (enc r ++ t) = r ∧ sz (enc r ++ t) = codeSz r := by
  have fin : ∀ b u, enc r ++ t = b :: u → rawSz b.toNat ≤ u.length + 1 → rawR b u = r → enc r = (b :: u).take (rawSz b.toNat) → decL (enc r ++ t) = r ∧ sz (enc r ++ t) = codeSz r := by
    intro b u e h1 h2 h3
    rw [e]
    obtain ⟨_, d2, _⟩ := dec_raw b u
    rw [← h2] at h3
    obtain ⟨e1, e2⟩ := d2 h1 h3
    rw [e1, h2]
    refine ⟨rfl, ?_⟩
    unfold sz
    rw [e1, h2]
  rcases codeSz_cases r with ⟨g, _⟩ | ⟨g, g1, g2⟩ | ⟨g, g1, g2⟩ | ⟨g, g1, g2, g3⟩ | ⟨g, g1, g2⟩
  · exact absurd g h
  · have he : enc r = [u8 r] := by simp [enc, g]
    have e0 := u8_toNat r (by omega) (by omega)
    have hs : rawSz (u8 r).toNat = 1 := by unfold rawSz; (repeat' split) <;> omega
    refine fin (u8 r) t (by rw [he]; rfl) (by omega) ?_ (by rw [he, hs]; rfl)
    simp [rawR, hs, leadM, e0]
  · have he : enc r = [u8 (192 + r / 64), u8 (128 + r % 64)] := by simp [enc, g]
    have e0 := u8_toNat (192 + r / 64) (by omega) (by omega)
    have e1 := u8_toNat (128 + r % 64) (by omega) (by omega)
    have hs : rawSz (u8 (192 + r / 64)).toNat = 2 := by unfold rawSz; (repeat' split) <;> omega
    refine fin (u8 (192 + r / 64)) (u8 (128 + r % 64) :: t) (by rw [he]; rfl) (by rw [hs]; simp) ?_ (by rw [he, hs]; rfl)
    simp only [rawR, hs, leadM]
    simp only [Nat.add_one_sub_one, List.take_succ_cons, List.take_zero, List.foldl_cons, List.foldl_nil, e0, e1]
    simp
    omega
  · have he : enc r = [u8 (224 + r / 4096), u8 (128 + r / 64 % 64), u8 (128 + r % 64)] := by simp [enc, g]
    have e0 := u8_toNat (224 + r / 4096) (by omega) (by omega)
    have e1 := u8_toNat (128 + r / 64 % 64) (by omega) (by omega)
    have e2 := u8_toNat (128 + r % 64) (by omega) (by omega)
    have hs : rawSz (u8 (224 + r / 4096)).toNat = 3 := by unfold rawSz; (repeat' split) <;> omega
    refine fin (u8 (224 + r / 4096)) (u8 (128 + r / 64 % 64) :: u8 (128 + r % 64) :: t) (by rw [he]; rfl) (by rw [hs]; simp) ?_ (by rw [he, hs]; rfl)
    simp only [rawR, hs, leadM]
    simp only [Nat.add_one_sub_one, List.take_succ_cons, List.take_zero, List.foldl_cons, List.foldl_nil, e0, e1, e2]
    simp
    omega
  · have he : enc r = [u8 (240 + r / 262144), u8 (128 + r / 4096 % 64), u8 (128 + r / 64 % 64), u8 (128 + r % 64)] := by simp [enc, g]
    have e0 := u8_toNat (240 + r / 262144) (by omega) (by omega)
    have e1 := u8_toNat (128 + r / 4096 % 64) (by omega) (by omega)
    have e2 := u8_toNat (128 + r / 64 % 64) (by omega) (by omega)
    have e3 := u8_toNat (128 + r % 64) (by omega) (by omega)
    have hs : rawSz (u8 (240 + r / 262144)).toNat = 4 := by unfold rawSz; (repeat' split) <;> omega
    refine fin (u8 (240 + r / 262144)) (u8 (128 + r / 4096 % 64) :: u8 (128 + r / 64 % 64) :: u8 (128 + r % 64) :: t) (by rw [he]; rfl) (by rw [hs]; simp) ?_ (by rw [he, hs]; rfl)
    simp only [rawR, hs, leadM]
    simp only [Nat.add_one_sub_one, List.take_succ_cons, List.take_zero, List.foldl_cons, List.foldl_nil, e0, e1, e2, e3]
    simp
    omega

theorem enc_at_one (r : Int) (h : 0 < (enc r).length) : runeAt (97 :: enc r) 1 = r := by
  have hc : codeSz r ≠ 0 := by rw [enc_length] at h; omega
  unfold runeAt
  rw [if_neg (by simp; omega)]
  have := (enc_dec r hc []).1
  simpa using this

theorem enc_size (r : Int) (h : 0 < (enc r).length) : runeSize (enc r) 0 = (enc r).length := by
  have hc : codeSz r ≠ 0 := by rw [enc_length] at h; omega
  have := (enc_dec r hc []).1
  rw [List.append_nil] at this
  unfold runeSize runeAt
  rw [if_neg (by omega), enc_length]
  simp [this]

theorem enc_text (r : Int) : isText (enc r) = true := by
  by_cases h0 : enc r = []
  · rw [h0]; rfl
  · have hpos : 0 < (enc r).length := List.length_pos_iff.2 h0
    have hc : codeSz r ≠ 0 := by rw [enc_length] at hpos; omega
    have hs := (enc_dec r hc []).2
    rw [List.append_nil] at hs
    have h4 := codeSz_le r
    unfold isText
    rw [okS_step h0, hs, enc_length]
    have hd : (enc r).drop (codeSz r) = [] := by rw [← enc_length]; exact List.drop_length
    rw [hd]
    simp [hc, okS]
    omega

theorem dec_enc (b : UInt8) (u : List UInt8) (h : sz (b :: u) ≠ 0) : enc (decL (b :: u)) = (b :: u).take (sz (b :: u)) := by
  obtain ⟨d1, d2, d3⟩ := dec_raw b u
  have zero : ∀ x, decL x = -1 → sz x = 0 := fun x e => by unfold sz; rw [e]; rfl
  by_cases h1 : u.length + 1 < rawSz b.toNat
  · exact absurd (zero _ (d1 h1)) h
  · by_cases h2 : enc (rawR b u) = (b :: u).take (rawSz b.toNat)
    · obtain ⟨e1, e2⟩ := d2 (by omega) h2
      rw [e1, e2, h2]
    · exact absurd (zero _ (d3 (by omega) h2)) h

theorem runeSize_in {l : List UInt8} {a : Int} (h : runeSize l a ≠ 0) : ∃ k : Nat, a = k ∧ k + runeSize l a ≤ l.length ∧ enc (runeAt l a) = (l.drop k).take (runeSize l a) := by
  unfold runeSize runeAt at h
  split at h
  · exact absurd rfl h
  · rename_i hr
    obtain ⟨k, rfl⟩ := Int.eq_ofNat_of_zero_le (show 0 ≤ a by omega)
    have hk : k < l.length := by omega
    have hv : runeAt l (k : Int) = decL (l.drop k) := by unfold runeAt; rw [if_neg hr, Int.toNat_natCast]
    have hs : runeSize l (k : Int) = sz (l.drop k) := by unfold runeSize sz; rw [hv]
    have hle := sz_le (l.drop k)
    rw [List.length_drop] at hle
    refine ⟨k, rfl, by rw [hs]; omega, ?_⟩
    rw [hv, hs]
    have hd : l.drop k = l[k] :: l.drop (k + 1) := List.drop_eq_getElem_cons hk
    rw [Int.toNat_natCast] at h
    rw [hd] at h ⊢
    exact dec_enc _ _ h
end Go.Proofs.YtgpjjolgpppeeaaDoor.P

/-
  Chapter 2 in plain Lean: measures and chunks of texts. No program here. Own work.
-/
namespace Go.Proofs.YtgpjjolgpppeeaaDoor.P
set_option linter.unusedVariables false

/-! ### texts taken apart -/
theorem isBound_drop (l : List UInt8) (p k : Nat) (hp : p ≤ l.length) (hk : p + k ≤ l.length) : isBound (l.drop p) (k : Int) = isBound l ((p + k : Nat) : Int) := by
  unfold isBound
  have e1 : ((l.drop p).length : Int) = (l.length : Int) - p := by rw [List.length_drop]; omega
  have e2 : (l.drop p).getD ((k : Int).toNat) 0 = l.getD (((p + k : Nat) : Int).toNat) 0 := by
    rw [Int.toNat_natCast, Int.toNat_natCast]
    simp [List.getD, List.getElem?_drop]
  rw [e1, e2]
  congr 1
  · rw [decide_eq_decide]; omega
  · congr 1
    rw [decide_eq_decide]; omega

theorem pos_of_ne {α : Type} {l : List α} (h : l ≠ []) : 0 < l.length := by
  cases l with
  | nil => exact absurd rfl h
  | cons a t => simp

theorem isBound_zero (l : List UInt8) (h : okS 0 l = true) : isBound l ((0 : Nat) : Int) = true := by
  cases l with
  | nil => exact isBound_end []
  | cons b u => exact (bound_here (l := b :: u) (p := 0) (by simp) (by simpa using h)).2.2.2.1

theorem okS_of_bound {l : List UInt8} (h : okS 0 l = true) {k : Nat} (hk : k ≤ l.length) (hb : isBound l (k : Int) = true) : okS 0 (l.drop k) = true :=
  okS_bound l k hk hb k 0 (by omega) (Nat.zero_le _) (by simpa using h)

/-- The first code point of what is cut off behind it. -/
theorem sz_app {a : List UInt8} (h : sz a ≠ 0) (t : List UInt8) : sz (a ++ t) = sz a := by
  cases a with
  | nil => exact absurd (by rfl) h
  | cons b u =>
    have h1 := dec_enc b u h
    have h2 : (b :: u) = enc (decL (b :: u)) ++ (b :: u).drop (sz (b :: u)) := by rw [h1, List.take_append_drop]
    have h3 := (enc_dec (decL (b :: u)) h ((b :: u).drop (sz (b :: u)) ++ t)).2
    rw [← List.append_assoc, ← h2] at h3
    exact h3

theorem sz_take {l : List UInt8} (h : sz l ≠ 0) (k : Nat) (hk : sz l ≤ k) : sz (l.take k) = sz l := by
  cases l with
  | nil => exact absurd (by rfl) h
  | cons b u =>
    have h1 := dec_enc b u h
    have h2 : (b :: u).take k = enc (decL (b :: u)) ++ ((b :: u).drop (sz (b :: u))).take (k - sz (b :: u)) := by
      rw [h1]
      conv => lhs; rw [show k = sz (b :: u) + (k - sz (b :: u)) by omega]
      rw [List.take_add]
    have h3 := (enc_dec (decL (b :: u)) h (((b :: u).drop (sz (b :: u))).take (k - sz (b :: u)))).2
    rw [← h2] at h3
    exact h3

theorem okS_app : ∀ (n : Nat) (a b : List UInt8), a.length ≤ n → okS 0 a = true → okS 0 b = true → okS 0 (a ++ b) = true := by
  intro n
  induction n with
  | zero =>
    intro a b h1 h2 h3
    have : a = [] := List.eq_nil_of_length_eq_zero (by omega)
    subst this
    simpa using h3
  | succ n ih =>
    intro a b h1 h2 h3
    by_cases ha : a = []
    · subst ha; simpa using h3
    · rw [okS_step ha] at h2
      simp only [Bool.and_eq_true, decide_eq_true_eq] at h2
      have hne : a ++ b ≠ [] := by simp [ha]
      have hle := sz_le a
      rw [okS_step hne, sz_app h2.1, List.drop_append_of_le_length hle, decide_eq_true h2.1, Bool.true_and]
      exact ih _ _ (by have := h2.1; rw [List.length_drop]; omega) h2.2 h3

theorem okS_take : ∀ (n : Nat) (l : List UInt8) (k : Nat), k ≤ n → k ≤ l.length → okS 0 l = true → isBound l (k : Int) = true → okS 0 (l.take k) = true := by
  intro n
  induction n with
  | zero =>
    intro l k h1 h2 h3 h4
    have : k = 0 := by omega
    subst this
    simp [okS]
  | succ n ih =>
    intro l k h1 h2 h3 h4
    by_cases hk : k = 0
    · subst hk; simp [okS]
    · obtain ⟨a, b, c, d, f⟩ := bound_here (l := l) (p := 0) (by omega) (by simpa using h3)
      simp only [List.drop_zero, Nat.zero_add] at a b c f
      have hkz : sz l ≤ k := by
        apply Nat.le_of_not_lt
        intro hlt
        rw [f k (by omega) hlt] at h4
        cases h4
      have hne : l.take k ≠ [] := by intro e; have := congrArg List.length e; rw [List.length_take, List.length_nil] at this; omega
      rw [okS_step hne, sz_take a k hkz, decide_eq_true a, Bool.true_and, List.drop_take]
      refine ih _ _ (by have := a; omega) (by rw [List.length_drop]; omega) c ?_
      rw [isBound_drop l (sz l) (k - sz l) b (by omega), show sz l + (k - sz l) = k by omega]
      exact h4

theorem isText_len {l : List UInt8} (h : isText l = true) : l.length ≤ 400 := by unfold isText at h; simp at h; exact h.1
theorem isText_of {l : List UInt8} (h : l.length ≤ 400) (k : okS 0 l = true) : isText l = true := by unfold isText; simp [h, k]
theorem isText_take {l : List UInt8} (h : isText l = true) {k : Nat} (hk : k ≤ l.length) (hb : isBound l (k : Int) = true) : isText (l.take k) = true :=
  isText_of (by have := isText_len h; rw [List.length_take]; omega) (okS_take k l k (Nat.le_refl _) hk (isText_ok h) hb)
theorem isText_drop {l : List UInt8} (h : isText l = true) {k : Nat} (hk : k ≤ l.length) (hb : isBound l (k : Int) = true) : isText (l.drop k) = true :=
  isText_of (by have := isText_len h; rw [List.length_drop]; omega) (okS_of_bound (isText_ok h) hk hb)

theorem isBound_app_left (a b : List UInt8) (k : Nat) (hk : k < a.length) : isBound (a ++ b) (k : Int) = isBound a (k : Int) := by
  rw [isBound_lt _ k (by rw [List.length_append]; omega), isBound_lt a k hk, List.getElem_append_left hk]
theorem isBound_app_right (a b : List UInt8) (k : Nat) (hk : k ≤ b.length) : isBound (a ++ b) ((a.length + k : Nat) : Int) = isBound b (k : Int) := by
  rw [← isBound_drop (a ++ b) a.length k (by simp) (by simp; omega)]
  simp

theorem runesBefore_app (a b : List UInt8) (k : Nat) (hk : k ≤ b.length + 1) (hb : okS 0 b = true) : runesBefore (a ++ b) (a.length + k) = runesBefore a a.length + runesBefore b k := by
  unfold runesBefore
  rw [List.range_add, List.filter_append, List.length_append]
  congr 1
  · congr 1
    apply List.filter_congr
    intro x hx
    exact isBound_app_left a b x (by simpa using hx)
  · have e : ((List.range k).map (a.length + ·)).filter (fun k : Nat => isBound (a ++ b) k) = ((List.range k).filter (fun k : Nat => isBound b k)).map (a.length + ·) := by
      rw [List.filter_map]
      congr 1
      apply List.filter_congr
      intro x hx
      have : x < k := by simpa using hx
      exact isBound_app_right a b x (by omega)
    rw [e, List.length_map]

theorem runeCount_is {l : List UInt8} (h : isText l = true) : runeCount l = (runesBefore l l.length : Int) := by
  unfold runeCount runesTo
  rw [if_pos ⟨h, isBound_end l⟩, Int.toNat_natCast]

theorem runeCount_app {a b : List UInt8} (ha : isText a = true) (hb : isText b = true) (hab : isText (a ++ b) = true) : runeCount (a ++ b) = runeCount a + runeCount b := by
  rw [runeCount_is ha, runeCount_is hb, runeCount_is hab, List.length_append, runesBefore_app a b b.length (by omega) (isText_ok hb)]
  omega

theorem runesBefore_len (l : List UInt8) (k : Nat) : runesBefore l k ≤ k := by
  unfold runesBefore
  have := List.length_filter_le (fun k : Nat => isBound l k) (List.range k)
  simpa using this

theorem isText_nil : isText [] = true := by decide
theorem runeCount_nil : runeCount [] = 0 := by decide

/-! ### measures -/
def lines (l : List UInt8) : Nat := l.count 10
theorem lines_le (l : List UInt8) : lines l ≤ l.length := List.count_le_length
theorem lines_app (a b : List UInt8) : lines (a ++ b) = lines a + lines b := List.count_append
theorem lines_snoc (l : List UInt8) (k : Nat) (h : k < l.length) : lines (l.take (k + 1)) = lines (l.take k) + if l[k] = 10 then 1 else 0 := by
  unfold lines
  rw [List.take_succ_eq_append_getElem h, List.count_append, List.count_singleton]
  congr 1
  by_cases e : l[k] = 10 <;> simp [e]

def mB (l : List UInt8) : Int := if isText l = true then l.length else 0
def mR (l : List UInt8) : Int := if isText l = true then runeCount l else 0
def mL (l : List UInt8) : Int := if isText l = true then lines l else 0

theorem runeCount_bd {l : List UInt8} (h : isText l = true) : 0 ≤ runeCount l ∧ runeCount l ≤ l.length := by
  rw [runeCount_is h]
  have := runesBefore_len l l.length
  omega
theorem m_bd (l : List UInt8) : 0 ≤ mB l ∧ mB l ≤ 400 ∧ 0 ≤ mR l ∧ mR l ≤ 400 ∧ 0 ≤ mL l ∧ mL l ≤ 400 := by
  unfold mB mR mL
  by_cases h : isText l = true
  · simp only [if_pos h]
    have := isText_len h
    have := runeCount_bd h
    have := lines_le l
    omega
  · simp only [if_neg h]
    omega

/-- Nothing but the empty text and what is no text has the zero measure. -/
theorem m_zero (l : List UInt8) : mB l = 0 ↔ (isText l = false ∨ l = []) := by
  unfold mB
  by_cases h : isText l = true
  · rw [if_pos h]
    constructor
    · intro e; right; exact List.eq_nil_of_length_eq_zero (by omega)
    · rintro (e | e)
      · rw [h] at e; cases e
      · subst e; rfl
  · rw [if_neg h]
    constructor
    · intro _; left; simpa using h
    · intro _; rfl
theorem m_zero_all (l : List UInt8) (h : mB l = 0) : mR l = 0 ∧ mL l = 0 := by
  rcases (m_zero l).1 h with e | e
  · unfold mR mL; simp [e]
  · subst e; unfold mR mL; simp [isText_nil, runeCount_nil, lines]

/-! ### chunks -/
def chunkOk (l : List UInt8) : Bool := decide (1 ≤ l.length) && decide (l.length ≤ 16) && isText l
def chunksOk (ls : List (List UInt8)) : Bool := ls.all chunkOk && decide (ls.flatten.length ≤ 400)
def chunksText (ls : List (List UInt8)) : List UInt8 := if chunksOk ls = true then ls.flatten else []

theorem chunkOk_iff (l : List UInt8) : chunkOk l = true ↔ 1 ≤ l.length ∧ l.length ≤ 16 ∧ isText l = true := by
  unfold chunkOk; simp [and_assoc]
theorem chunkOk_m (l : List UInt8) : chunkOk l = (decide (l.length ≤ 16) && decide (mB l ≠ 0)) := by
  rw [Bool.eq_iff_iff, chunkOk_iff]
  simp only [Bool.and_eq_true, decide_eq_true_eq, ne_eq, m_zero, not_or]
  constructor
  · rintro ⟨a, b, c⟩
    exact ⟨b, by simp [c], by intro e; subst e; simp at a⟩
  · rintro ⟨a, b, c⟩
    refine ⟨?_, a, by simpa using b⟩
    cases l with
    | nil => exact absurd rfl c
    | cons x t => simp

def chunkFrom (i : Nat) : List (List UInt8) → Int → Int × Int
  | [], at_ => if 0 < at_ then (-1, -1) else (i, 0)
  | l :: ls, at_ => if at_ < l.length then (i, at_) else chunkFrom (i + 1) ls (at_ - l.length)
def chunkFor (ls : List (List UInt8)) (at_ : Int) : Int × Int := if at_ < 0 ∨ chunksOk ls = false then (-1, -1) else chunkFrom 0 ls at_

/-- The greatest boundary up to k. -/
def cutTo (l : List UInt8) : Nat → Nat
  | 0 => 0
  | k + 1 => if isBound l ((k + 1 : Nat) : Int) = true then k + 1 else cutTo l k
def cut (l : List UInt8) : Nat := cutTo l (min l.length 16)

theorem cutTo_le (l : List UInt8) (k : Nat) : cutTo l k ≤ k := by
  induction k with
  | zero => simp [cutTo]
  | succ k ih => unfold cutTo; split <;> omega
theorem cutTo_bound (l : List UInt8) (h : okS 0 l = true) (k : Nat) : isBound l (cutTo l k : Int) = true := by
  induction k with
  | zero => exact isBound_zero l h
  | succ k ih => unfold cutTo; split <;> assumption
theorem cutTo_max (l : List UInt8) (k j : Nat) (hj : j ≤ k) (hb : isBound l (j : Int) = true) : j ≤ cutTo l k := by
  induction k with
  | zero => omega
  | succ k ih =>
    unfold cutTo
    split
    · exact hj
    · rename_i hn
      by_cases e : j = k + 1
      · subst e; exact absurd hb hn
      · exact ih (by omega)
theorem cutTo_here (l : List UInt8) (k : Nat) (h : isBound l (k : Int) = true) : cutTo l k = k := by
  cases k with
  | zero => rfl
  | succ k => unfold cutTo; rw [if_pos h]
theorem cutTo_next (l : List UInt8) (k : Nat) (h : isBound l ((k + 1 : Nat) : Int) = false) : cutTo l (k + 1) = cutTo l k := by
  conv => lhs; unfold cutTo
  rw [h]; simp

theorem cut_le (l : List UInt8) : cut l ≤ l.length ∧ cut l ≤ 16 := by
  have := cutTo_le l (min l.length 16)
  unfold cut
  omega
theorem cut_bound {l : List UInt8} (h : okS 0 l = true) : isBound l (cut l : Int) = true := cutTo_bound l h _
theorem sz_le4 (l : List UInt8) : sz l ≤ 4 := codeSz_le _
theorem cut_pos {l : List UInt8} (h : okS 0 l = true) (hne : l ≠ []) : 1 ≤ cut l := by
  have hl : 0 < l.length := pos_of_ne hne
  obtain ⟨a, b, c, d, f⟩ := bound_here (l := l) (p := 0) hl (by simpa using h)
  simp only [List.drop_zero, Nat.zero_add] at a b c f
  have hb : isBound l (sz l : Int) = true := by
    by_cases e : sz l = l.length
    · rw [e]; exact isBound_end l
    · exact (bound_here (l := l) (p := sz l) (by omega) c).2.2.2.1
  have := cutTo_max l (min l.length 16) (sz l) (by have := sz_le4 l; omega) hb
  unfold cut
  omega
/-- Behind a boundary before the cut, the next one is still not behind the cut; behind the cut it does not fit. -/
theorem cut_step {l : List UInt8} (h : okS 0 l = true) {e : Nat} (he : e < l.length) (hb : isBound l (e : Int) = true) (hle : e ≤ cut l) :
    sz (l.drop e) ≠ 0 ∧ e + sz (l.drop e) ≤ l.length ∧ isBound l ((e + sz (l.drop e) : Nat) : Int) = true ∧ (e < cut l ↔ e + sz (l.drop e) ≤ 16) ∧ (e < cut l → e + sz (l.drop e) ≤ cut l) := by
  have hd := okS_of_bound h (Nat.le_of_lt he) hb
  obtain ⟨a, b, c, d, f⟩ := bound_here (l := l) (p := e) he hd
  have hb2 : isBound l ((e + sz (l.drop e) : Nat) : Int) = true := by
    by_cases g : e + sz (l.drop e) = l.length
    · rw [g]; exact isBound_end l
    · exact (bound_here (l := l) (p := e + sz (l.drop e)) (by omega) c).2.2.2.1
  have hcb := cut_bound h
  have hcl := cut_le l
  have h5 : e < cut l → e + sz (l.drop e) ≤ cut l := by
    intro hlt
    apply Nat.le_of_not_lt
    intro g
    have := f (cut l) hlt g
    rw [hcb] at this
    cases this
  refine ⟨a, b, hb2, ⟨fun hlt => by have := h5 hlt; omega, fun g => ?_⟩, h5⟩
  have := cutTo_max l (min l.length 16) (e + sz (l.drop e)) (by omega) hb2
  unfold cut
  omega

def chunksL : Nat → List UInt8 → List (List UInt8)
  | 0, _ => []
  | f + 1, l => if l = [] then [] else l.take (cut l) :: chunksL f (l.drop (cut l))
def chunksOf (l : List UInt8) : List (List UInt8) := if isText l = true then chunksL l.length l else []

theorem chunksL_fuel : ∀ (f g : Nat) (l : List UInt8), okS 0 l = true → l.length ≤ f → l.length ≤ g → chunksL f l = chunksL g l := by
  intro f
  induction f with
  | zero =>
    intro g l h1 h2 h3
    have : l = [] := List.eq_nil_of_length_eq_zero (by omega)
    subst this
    cases g <;> simp [chunksL]
  | succ f ih =>
    intro g l h1 h2 h3
    by_cases hl : l = []
    · subst hl; cases g <;> simp [chunksL]
    · have hp := cut_pos h1 hl
      have hc := cut_le l
      cases g with
      | zero => exact absurd (List.eq_nil_of_length_eq_zero (by omega)) hl
      | succ g =>
        simp only [chunksL, if_neg hl]
        congr 1
        exact ih g _ (okS_of_bound h1 hc.1 (cut_bound h1)) (by rw [List.length_drop]; omega) (by rw [List.length_drop]; omega)

theorem chunksL_step {l : List UInt8} (h : okS 0 l = true) (hne : l ≠ []) : chunksL l.length l = l.take (cut l) :: chunksL (l.drop (cut l)).length (l.drop (cut l)) := by
  have hl : 0 < l.length := pos_of_ne hne
  have hp := cut_pos h hne
  have hc := cut_le l
  obtain ⟨n, hn⟩ : ∃ n, l.length = n + 1 := ⟨l.length - 1, by omega⟩
  conv => lhs; rw [hn]
  simp only [chunksL, if_neg hne]
  congr 1
  exact chunksL_fuel _ _ _ (okS_of_bound h hc.1 (cut_bound h)) (by rw [List.length_drop]; omega) (Nat.le_refl _)

theorem chunksL_flat : ∀ (n : Nat) (l : List UInt8), l.length ≤ n → okS 0 l = true → (chunksL l.length l).flatten = l := by
  intro n
  induction n with
  | zero =>
    intro l h1 h2
    have : l = [] := List.eq_nil_of_length_eq_zero (by omega)
    subst this
    simp [chunksL]
  | succ n ih =>
    intro l h1 h2
    by_cases hl : l = []
    · subst hl; simp [chunksL]
    · have hp := cut_pos h2 hl
      have hc := cut_le l
      rw [chunksL_step h2 hl, List.flatten_cons, ih _ (by rw [List.length_drop]; omega) (okS_of_bound h2 hc.1 (cut_bound h2)), List.take_append_drop]

theorem chunksL_ok : ∀ (n : Nat) (l : List UInt8), l.length ≤ n → l.length ≤ 400 → okS 0 l = true → ∀ c ∈ chunksL l.length l, chunkOk c = true := by
  intro n
  induction n with
  | zero =>
    intro l h1 _ h2
    have : l = [] := List.eq_nil_of_length_eq_zero (by omega)
    subst this
    simp [chunksL]
  | succ n ih =>
    intro l h1 h4 h2
    by_cases hl : l = []
    · subst hl; simp [chunksL]
    · have hp := cut_pos h2 hl
      have hc := cut_le l
      rw [chunksL_step h2 hl]
      intro c hcm
      rcases List.mem_cons.1 hcm with rfl | hcm
      · rw [chunkOk_iff, List.length_take]
        exact ⟨by omega, by omega, isText_take (isText_of h4 h2) hc.1 (cut_bound h2)⟩
      · exact ih _ (by rw [List.length_drop]; omega) (by rw [List.length_drop]; omega) (okS_of_bound h2 hc.1 (cut_bound h2)) c hcm

/-- No chunk but the last one has room for the first code point of the next. -/
theorem chunksL_full : ∀ (n : Nat) (l : List UInt8), l.length ≤ n → okS 0 l = true → ∀ i (h : i + 1 < (chunksL l.length l).length),
    16 < ((chunksL l.length l)[i]).length + sz ((chunksL l.length l)[i + 1]) := by
  intro n
  induction n with
  | zero =>
    intro l h1 h2 i h
    have : l = [] := List.eq_nil_of_length_eq_zero (by omega)
    subst this
    simp [chunksL] at h
  | succ n ih =>
    intro l h1 h2 i h
    by_cases hl : l = []
    · subst hl; simp [chunksL] at h
    · have hp := cut_pos h2 hl
      have hc := cut_le l
      have hd := okS_of_bound h2 hc.1 (cut_bound h2)
      have hst := chunksL_step h2 hl
      cases i with
      | zero =>
        have hne : l.drop (cut l) ≠ [] := by
          intro e
          rw [hst, e] at h
          simp [chunksL] at h
        have hlt : cut l < l.length := by
          apply Nat.lt_of_not_le
          intro g
          exact hne (List.drop_eq_nil_iff.2 g)
        have hst2 := chunksL_step hd hne
        rw [hst2] at hst
        obtain ⟨a, b, c, d, f⟩ := cut_step h2 hlt (cut_bound h2) (Nat.le_refl _)
        have hz : sz ((l.drop (cut l)).take (cut (l.drop (cut l)))) = sz (l.drop (cut l)) := by
          apply sz_take a
          obtain ⟨a', b', c', d', f'⟩ := cut_step hd (e := 0) (pos_of_ne hne) (isBound_zero _ hd) (Nat.zero_le _)
          have := f' (by have := cut_pos hd hne; omega)
          simpa using this
        simp only [hst, List.getElem_cons_zero, List.getElem_cons_succ]
        rw [hz, List.length_take]
        have : ¬ cut l + sz (l.drop (cut l)) ≤ 16 := fun g => by have := d.2 g; omega
        omega
      | succ i =>
        have h' : i + 1 < (chunksL (l.drop (cut l)).length (l.drop (cut l))).length := by rw [hst] at h; simpa using h
        have := ih _ (by rw [List.length_drop]; omega) hd i h'
        simpa only [hst, List.getElem_cons_succ] using this

theorem chunksOf_flat {l : List UInt8} (h : isText l = true) : (chunksOf l).flatten = l := by
  unfold chunksOf; rw [if_pos h]; exact chunksL_flat _ l (Nat.le_refl _) (isText_ok h)
theorem chunksOf_all (l : List UInt8) : ∀ c ∈ chunksOf l, chunkOk c = true := by
  unfold chunksOf
  split
  · rename_i h; exact chunksL_ok _ l (Nat.le_refl _) (isText_len h) (isText_ok h)
  · simp
theorem chunksOf_ok (l : List UInt8) : chunksOk (chunksOf l) = true := by
  unfold chunksOk
  simp only [Bool.and_eq_true, List.all_eq_true, decide_eq_true_eq]
  refine ⟨chunksOf_all l, ?_⟩
  by_cases h : isText l = true
  · rw [chunksOf_flat h]; exact isText_len h
  · unfold chunksOf; rw [if_neg h]; simp
theorem chunksOf_full {l : List UInt8} (i : Nat) (h : i + 1 < (chunksOf l).length) : 16 < ((chunksOf l)[i]).length + sz ((chunksOf l)[i + 1]) := by
  unfold chunksOf at h ⊢
  split at h
  · rename_i ht
    simp only [if_pos ht]
    exact chunksL_full _ l (Nat.le_refl _) (isText_ok ht) i h
  · simp at h

theorem flatten_len_le (ls : List (List UInt8)) (h : ∀ c ∈ ls, 1 ≤ c.length) : ls.length ≤ ls.flatten.length := by
  induction ls with
  | nil => simp
  | cons a t ih =>
    have h1 := h a (by simp)
    have h2 := ih (fun c hc => h c (by simp [hc]))
    simp only [List.flatten_cons, List.length_cons, List.length_append]
    omega
theorem chunksOk_all {ls : List (List UInt8)} (h : chunksOk ls = true) : (∀ c ∈ ls, chunkOk c = true) ∧ ls.flatten.length ≤ 400 := by
  unfold chunksOk at h; simpa using h
theorem chunksOk_len {ls : List (List UInt8)} (h : chunksOk ls = true) : ls.length ≤ 400 := by
  obtain ⟨a, b⟩ := chunksOk_all h
  have := flatten_len_le ls (fun c hc => ((chunkOk_iff c).1 (a c hc)).1)
  omega
theorem flatten_text : ∀ (ls : List (List UInt8)), (∀ c ∈ ls, chunkOk c = true) → okS 0 ls.flatten = true := by
  intro ls
  induction ls with
  | nil => intro _; simp [okS]
  | cons a t ih =>
    intro h
    rw [List.flatten_cons]
    exact okS_app _ a _ (Nat.le_refl _) (isText_ok ((chunkOk_iff a).1 (h a (by simp))).2.2) (ih (fun c hc => h c (by simp [hc])))
theorem chunksOk_text {ls : List (List UInt8)} (h : chunksOk ls = true) : isText ls.flatten = true :=
  isText_of (chunksOk_all h).2 (flatten_text ls (chunksOk_all h).1)

theorem flat_snoc (ls : List (List UInt8)) (k : Nat) (h : k < ls.length) : (ls.take (k + 1)).flatten = (ls.take k).flatten ++ ls[k] := by
  rw [List.take_succ_eq_append_getElem h, List.flatten_append]; simp

theorem chunkFrom_drop (ls : List (List UInt8)) (k : Nat) (h : k < ls.length) (a : Int) :
    chunkFrom k (ls.drop k) a = if a < (ls[k]).length then ((k : Int), a) else chunkFrom (k + 1) (ls.drop (k + 1)) (a - (ls[k]).length) := by
  rw [List.drop_eq_getElem_cons h]; rfl

end Go.Proofs.YtgpjjolgpppeeaaDoor.P

/-
  Chapter 2, the laws' helpers on chunks: contracts. Own work.
-/
namespace Go.Proofs.YtgpjjolgpppeeaaDoor
open Go.RowKit P
set_option linter.unusedVariables false

/-- What a reading of a slice of bytes gives. -/
theorem bRd_slice {w : World} {v : Value} {l : List UInt8} (h : bRd w [v] l) : ∃ A c, v = .slice A l.length c ∧ l.length ≤ c ∧ c ≤ maxLen ∧ Bs w A l := by
  obtain ⟨A, c, e, h⟩ := h
  cases e
  exact ⟨A, c, rfl, h⟩

/-- The slice of chunks that starts at A. -/
def Cs (w : World) (A : Option Addr) (ls : List (List UInt8)) : Prop := Sl 1 bRd w A ls
theorem Cs.below {w w' : World} {A : Option Addr} {ls : List (List UInt8)} (h : Cs w A ls) (hb : Below w.heap.size w w') : Cs w' A ls := Sl.below (E := Lay.bytes) h hb
theorem Cs.at_ {w : World} {A : Option Addr} {ls : List (List UInt8)} (h : Cs w A ls) (k : Nat) (hk : k < ls.length) :
    ∃ b off B c, A = some ⟨b, off, none⟩ ∧ b < w.heap.size ∧ w.cell? ⟨b, off + k, none⟩ = some (.slice B (ls[k]).length c) ∧ (ls[k]).length ≤ c ∧ c ≤ maxLen ∧ Bs w B ls[k] := by
  obtain ⟨b, off, v, hA, hb, hc, hr⟩ := Sl.at1 h k hk
  obtain ⟨B, c, rfl, h1, h2, h3⟩ := bRd_slice hr
  exact ⟨b, off, B, c, hA, hb, hc, h1, h2, h3⟩

def tot (ls : List (List UInt8)) : Nat := ls.flatten.length
theorem tot_take (ls : List (List UInt8)) (k : Nat) (h : k < ls.length) : tot (ls.take (k + 1)) = tot (ls.take k) + (ls[k]).length := by
  unfold tot; rw [flat_snoc ls k h, List.length_append]
theorem tot_all (ls : List (List UInt8)) : tot (ls.take ls.length) = tot ls := by rw [List.take_length]
theorem tot_mem {ls : List (List UInt8)} (k : Nat) (h : k < ls.length) : (ls[k]).length ≤ tot ls := by
  have h1 := tot_take ls k h
  have h2 : ls.flatten = (ls.take (k + 1)).flatten ++ (ls.drop (k + 1)).flatten := by rw [← List.flatten_append, List.take_append_drop]
  have h3 : tot ls = tot (ls.take (k + 1)) + tot (ls.drop (k + 1)) := by unfold tot; rw [← List.length_append, ← h2]
  omega

/-- One chunk more in a new row of chunks that is being filled. -/
theorem Cs_of {w : World} {g : Nat} {ls : List (List UInt8)} (h : ∀ k (hk : k < ls.length), ∃ v, w.cell? ⟨g, k, none⟩ = some v ∧ bRd w [v] ls[k]) (hg : g < w.heap.size) : Cs w (some ⟨g, 0, none⟩) ls := by
  intro k hk
  obtain ⟨v, hc, hr⟩ := h k hk
  refine ⟨g, 0, [v], rfl, hg, rfl, fun j hj => ?_, hr⟩
  have : j = 0 := by simpa using hj
  subst this
  simpa using hc

end Go.Proofs.YtgpjjolgpppeeaaDoor

/-
  A mark on bytes, under a wide bound: contract. Own work.
-/
namespace Go.Proofs.YtgpjjolgpppeeaaDoor
open Go.RowKit P
set_option linter.unusedVariables false
set_option linter.unusedSimpArgs false

set_option maxHeartbeats 800000 in
theorem markByteS_wide (v : Value) (l : List UInt8) (base k : Nat) (w : World) (hk : k ≤ 90000000) (hl : l.length ≤ 90000000) (h : Own w base v l) :
    Calls Tryd.prog 69 #[v, .int .i64 k] w fun e w' => e = .returned (.int .i64 ((k + l.length : Nat) : Int)) ∧ Own w' base v (marks k l.length) ∧ w.grownBy w' v.ownBlock := by
  by_cases h0 : l.length = 0
  · have hl0 := List.eq_nil_of_length_eq_zero h0
    subst hl0
    obtain ⟨A, c, rfl, _, _, _⟩ := h.form
    have hlen : ([] : List UInt8).length = 0 := rfl
    rw [hlen]
    go_enter Tryd.func69, Tryd.ntmps69
    go_wp2
    go_rounds 1
    go_ret
    exact ⟨by simp, h, World.grownBy.refl w _⟩
  · obtain ⟨g, cap, rfl, hgb⟩ : ∃ g cap, v = .slice (some ⟨g, 0, none⟩) l.length cap ∧ base ≤ g := by
      rcases h.2 with ⟨_, h2⟩ | ⟨g, cap, cur, hv, hb, _⟩
      · exact absurd h2 h0
      · exact ⟨g, cap, hv, hb⟩
    go_enter Tryd.func69, Tryd.ntmps69
    go_wp2
    go_loopw [1, 5] (fun kk i wr => ∃ j : Nat, j ≤ l.length ∧ i = .int .i64 j ∧ kk = .int .i64 ((k + j : Nat) : Int) ∧ Own wr base (.slice (some ⟨g, 0, none⟩) l.length cap) (marks k j ++ l.drop j) ∧ w.grownBy wr (some g)) (fun _ i _ => l.length - (intOf i).toNat)
    case atStart => exact ⟨0, Nat.zero_le _, rfl, rfl, h, World.grownBy.refl w _⟩
    case round =>
      obtain ⟨j, hj, rfl, rfl, hown, hgr⟩ := hrel
      have hlen : (marks k j ++ l.drop j).length = l.length := by rw [List.length_append, marks_length, List.length_drop]; omega
      by_cases hlt : j < l.length
      · have hcell : ∃ u, wr.cell? ⟨g, j, none⟩ = some u := by
          obtain ⟨A, c, hv, _, _, hB⟩ := hown.form
          obtain ⟨b', off', e, _, hc⟩ := hB j (by omega)
          rw [hlen] at hv
          cases hv
          cases e
          exact ⟨_, by simpa using hc⟩
        have hfz : wr.frozen? ⟨g, j, none⟩ = false := by
          rcases hown.2 with ⟨h3, _⟩ | ⟨g', cap', cur, hv, _, hh, _⟩
          · cases h3
          · rw [hlen] at hv; cases hv; simp [World.frozen?, hh]
        obtain ⟨u, hu⟩ := hcell
        have hown2 : Own (wr.setCell ⟨g, j, none⟩ (bV (UInt8.ofNat (k + j)))) base (.slice (some ⟨g, 0, none⟩) l.length cap) (marks k (j + 1) ++ l.drop (j + 1)) := by
          have hv0 : Own wr base (.slice (some ⟨g, 0, none⟩) (marks k j ++ l.drop j).length cap) (marks k j ++ l.drop j) := by rw [hlen]; exact hown
          have := Own.set hv0 j (by omega) (UInt8.ofNat (k + j))
          rw [hlen] at this
          have e : (marks k j ++ l.drop j).set j (UInt8.ofNat (k + j)) = marks k (j + 1) ++ l.drop (j + 1) := by
            rw [List.drop_eq_getElem_cons hlt, List.set_append_right _ _ (by rw [marks_length]; omega), marks_length, Nat.sub_self, List.set_cons_zero, marks_snoc, List.append_assoc, List.singleton_append]
          rw [e] at this
          exact this
        have hgr2 : w.grownBy (wr.setCell ⟨g, j, none⟩ (bV (UInt8.ofNat (k + j)))) (some g) := by
          refine ⟨hgr.os, hgr.tape, hgr.output, by simpa [World.setCell] using hgr.size, fun i hi hne => ?_⟩
          rw [Below.heap_setCell _ _ _ _ (fun e => hne (by rw [e]))]
          exact hgr.block i hi hne
        have hbv : bV (UInt8.ofNat (k + j)) = .int .u8 (IntKind.u8.wrap ((k + j : Nat) : Int)) := by
          unfold bV
          congr 1
        rw [hbv] at hown2 hgr2
        have hwr : IntKind.u8.wrap ((k + j : Nat) : Int) = ((k + j : Nat) : Int) % 256 := IntKind.wrap_u8 _
        rw [hwr] at hown2 hgr2
        clear hwr hbv hown hgr
        go_wp2
        go_roundw
        case rel => exact ⟨j + 1, by omega, by go_num, by go_num, hown2, hgr2⟩
        case measure => simp [intOf]; omega
      · have e : j = l.length := by omega
        subst e
        have hd : l.drop l.length = [] := List.drop_length
        rw [hd, List.append_nil] at hown
        go_wp2
        go_ret
        exact ⟨rfl, hown, hgr⟩

end Go.Proofs.YtgpjjolgpppeeaaDoor

/-
  One element of an own slice of anything, put anew: its cells in the row and what it owns. Own work.
-/
namespace Go.Proofs.YtgpjjolgpppeeaaDoor
open Go.RowKit P
set_option linter.unusedVariables false
set_option linter.unusedSimpArgs false

theorem Lay.put {α : Type} {T : TypeId} {E : Lay α} {w : World} {v : Value} {l : List α} {fp : List Nat} (h : (Lay.slice T E).ow w [v] l fp) (hn : fp.Nodup) (hpos : 0 < E.sz) (i : Nat) (hi : i < l.length) :
    ∃ g c cur us fi, v = .slice (some ⟨g, 0, none⟩) l.length c ∧ us.length = E.sz ∧ Blk w g cur T ∧ l.length * E.sz ≤ cur.size ∧ (∀ j (hj : j < us.length), cur[i * E.sz + j]? = some us[j]) ∧
      E.ow w us l[i] fi ∧ fi.Nodup ∧ g ∈ fp ∧ (∀ k ∈ fi, k ∈ fp ∧ k ≠ g) ∧ ∀ w' x' us' cur', us'.length = E.sz → Keeps (g :: fi) w w' → Blk w' g cur' T → cur'.size = cur.size → (∀ j (hj : j < us'.length), cur'[i * E.sz + j]? = some us'[j]) →
        (∀ q, q < i * E.sz ∨ i * E.sz + E.sz ≤ q → cur'[q]? = cur[q]?) → E.ow w' us' x' fi → (Lay.slice T E).ow w' [v] (l.set i x') fp := by
  obtain ⟨v', es, hv, hl, hrow, hes, hfp⟩ := h
  cases hv
  subst hl
  rw [List.length_map] at hi
  obtain ⟨a, e, b, hab, ha, he⟩ := split_at es i hi
  have hlen : ∀ e ∈ es, (e.1 : List Value).length = E.sz := fun e he => E.len (E.read (hes e he))
  have hei : (es.map (·.2.1))[i]'(by rw [List.length_map]; exact hi) = e.2.1 := by rw [List.getElem_map, ← he]
  have heo := hes e (by rw [he]; exact List.getElem_mem hi)
  rcases hrow.2 with ⟨hv, h0⟩ | ⟨g, cap, cur, hv, _, hh, hnc, hcm, hcs, htk⟩
  · omega
  · subst hv
    have hg : g < w.heap.size := (Array.getElem?_eq_some_iff.1 hh).1
    have hgfp : g ∈ fp := by rw [hfp]; simp [Value.ownBlock]
    rw [hfp, hab, List.flatMap_append, List.flatMap_cons] at hn
    simp only [Value.ownBlock, Option.toList_some, List.singleton_append, List.nodup_cons, List.mem_append, not_or] at hn
    obtain ⟨⟨n1, n2, n3⟩, hn⟩ := hn
    rw [List.nodup_append] at hn
    obtain ⟨na, hn, nd1⟩ := hn
    rw [List.nodup_append] at hn
    obtain ⟨ne, nb, nd2⟩ := hn
    have hcz : es.length * E.sz ≤ cur.size := by rw [hcs]; exact Nat.mul_le_mul_right _ hnc
    refine ⟨g, cap, cur, e.1, e.2.2, by simp, hlen e (by rw [he]; exact List.getElem_mem hi), hh, by rw [List.length_map]; exact hcz, fun j hj => ?_, by rw [hei]; exact heo, ne, hgfp, fun k hk => ⟨?_, fun x => n2 (by rw [← x]; exact hk)⟩, fun w' x' us' cur' hus hke hblk hsz hnew hold hox => ?_⟩
    · have hj' : j < (es[i].1).length := by rw [← he]; exact hj
      have hgt := flat_get E.sz es (·.1) hlen i hi j hj'
      rw [← htk, List.getElem?_take] at hgt
      split at hgt
      · simp only [Array.getElem?_toList] at hgt
        rw [hgt]
        simp only [he]
      · cases hgt
    · rw [hfp, hab, List.flatMap_append, List.flatMap_cons]
      simp [hk]
    · have hset : (es.map (·.2.1)).set i x' = (a ++ (us', x', e.2.2) :: b).map (·.2.1) := by
        rw [hab, List.map_append, List.map_cons, List.set_append_right _ _ (by rw [List.length_map]; omega), List.length_map, ha, Nat.sub_self, List.set_cons_zero, List.map_append, List.map_cons]
      rw [hset]
      have e1 : (a ++ (us', x', e.2.2) :: b).length = es.length := by rw [hab]; simp
      have hla : ∀ f ∈ a, (f.1 : List Value).length = E.sz := fun f hf => hlen f (by rw [hab]; exact List.mem_append.2 (.inl hf))
      have hfa := flat_len E.sz a (·.1) hla
      have hle : (e.1 : List Value).length = E.sz := hlen e (by rw [hab]; simp)
      have hfl := flat_len E.sz es (·.1) hlen
      refine ⟨_, a ++ (us', x', e.2.2) :: b, rfl, rfl, ?_, ?_, ?_⟩
      · rw [e1]
        refine ⟨?_, .inr ⟨g, cap, cur', rfl, Nat.zero_le _, hblk, hnc, hcm, by rw [hsz]; exact hcs, ?_⟩⟩
        · have h9 := hrow.1
          rw [← h9, hab]
          simp [hus, hle]
        · apply List.ext_getElem?
          intro q
          have htq : (cur.toList.take (es.length * E.sz))[q]? = (es.flatMap (·.1))[q]? := by rw [htk]
          rw [List.getElem?_take] at htq ⊢
          rw [List.flatMap_append, List.flatMap_cons]
          rw [hab, List.flatMap_append, List.flatMap_cons] at htq
          simp only [Array.getElem?_toList] at htq ⊢
          by_cases h1 : q < i * E.sz
          · rw [hold q (.inl h1)]
            rw [List.getElem?_append_left (by rw [hfa, ha]; exact h1)] at htq ⊢
            rw [← hab] at htq
            exact htq
          · by_cases h2 : q < i * E.sz + E.sz
            · have hq : q = i * E.sz + (q - i * E.sz) := by omega
              have hin : q < es.length * E.sz := by
                have : (i + 1) * E.sz ≤ es.length * E.sz := Nat.mul_le_mul_right _ hi
                rw [Nat.add_mul, Nat.one_mul] at this
                omega
              rw [if_pos hin]
              have h9 := hnew (q - i * E.sz) (by rw [hus]; omega)
              rw [← hq] at h9
              rw [h9, List.getElem?_append_right (by rw [hfa, ha]; omega), hfa, ha, List.getElem?_append_left (by rw [hus]; omega), List.getElem?_eq_getElem]
            · rw [hold q (.inr (by omega))]
              rw [List.getElem?_append_right (by rw [hfa, ha]; omega), hfa, ha, List.getElem?_append_right (by rw [hle]; omega), hle] at htq
              rw [List.getElem?_append_right (by rw [hfa, ha]; omega), hfa, ha, List.getElem?_append_right (by rw [hus]; omega), hus]
              rw [← hab] at htq
              exact htq
      · intro f hf
        rcases List.mem_append.1 hf with hf | hf
        · refine E.keeps (hes f (by rw [hab]; exact List.mem_append.2 (.inl hf))) hke (fun k hk hk2 => ?_)
          rcases List.mem_cons.1 hk2 with e9 | hk2
          · exact n1 (List.mem_flatMap.2 ⟨f, hf, by rw [← e9]; exact hk⟩)
          · exact nd1 k (List.mem_flatMap.2 ⟨f, hf, hk⟩) k (List.mem_append.2 (.inl hk2)) rfl
        · rcases List.mem_cons.1 hf with rfl | hf
          · exact hox
          · refine E.keeps (hes f (by rw [hab]; exact List.mem_append.2 (.inr (List.mem_cons_of_mem _ hf)))) hke (fun k hk hk2 => ?_)
            rcases List.mem_cons.1 hk2 with e9 | hk2
            · exact n3 (List.mem_flatMap.2 ⟨f, hf, by rw [← e9]; exact hk⟩)
            · exact nd2 k hk2 k (List.mem_flatMap.2 ⟨f, hf, hk⟩) rfl
      · rw [hfp, hab]; simp
end Go.Proofs.YtgpjjolgpppeeaaDoor
