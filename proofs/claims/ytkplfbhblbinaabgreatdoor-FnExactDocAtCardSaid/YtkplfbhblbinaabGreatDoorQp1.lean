/-
  Texts of one claim in one: P01d, P01e, P02, P04, P08, P08c, P09, P17. Own work.
-/
import Derived.Test.YtkplfbhblbinaabGreatDoorQP01
import Derived.Lib.IndexMore
import Derived.Lib.LastIndexLaws

/-
  Chapter 1 in plain Lean, the fourth part: places and counts are inverse. No program here. Own work.
-/
namespace Go.Proofs.YtkplfbhblbinaabGreatDoor.P

/-- In a text a boundary is a place from which the rest is a text. -/
theorem okS_bound (l : List UInt8) (k : Nat) (hk : k ≤ l.length) (hb : isBound l k = true) : ∀ (m p : Nat), k - p ≤ m → p ≤ k → okS 0 (l.drop p) = true → okS 0 (l.drop k) = true := by
  intro m
  induction m with
  | zero =>
    intro p h1 h2 h3
    have e : k = p := by omega
    rw [e]; exact h3
  | succ m ih =>
    intro p h1 h2 h3
    by_cases e : p = k
    · subst e; exact h3
    · obtain ⟨a, b, c, d, f⟩ := bound_here (p := p) (by omega) h3
      by_cases g : k < p + sz (l.drop p)
      · rw [f k (by omega) g] at hb; cases hb
      · exact ih _ (by omega) (by omega) c

theorem isText_ok {l : List UInt8} (h : isText l = true) : okS 0 l = true := by unfold isText at h; simp at h; exact h.2

theorem placeOf_count (l : List UInt8) (h : isText l = true) : placeOf l (runeCount l) = l.length := by
  have hr : runeCount l = (runesBefore l l.length : Int) := by
    unfold runeCount runesTo
    rw [if_pos ⟨h, isBound_end l⟩, Int.toNat_natCast]
  rw [hr]
  unfold placeOf
  rw [if_pos ⟨h, by omega⟩, Int.toNat_natCast]
  have := filter_find (fun k : Nat => isBound l k) (l.length + 1) l.length (by omega) (isBound_end l)
  unfold cuts runesBefore
  rw [this]
  rfl

theorem runesTo_pos {l : List UInt8} {a : Int} (h : 0 ≤ runesTo l a) : isText l = true ∧ ∃ k : Nat, a = k ∧ k ≤ l.length ∧ isBound l k = true ∧ runesTo l a = runesBefore l k := by
  unfold runesTo at h
  split at h
  · rename_i hc
    have hr : 0 ≤ a ∧ a ≤ l.length := by
      have := hc.2; unfold isBound at this; simp only [Bool.and_eq_true, decide_eq_true_eq] at this; exact this.1
    obtain ⟨k, rfl⟩ := Int.eq_ofNat_of_zero_le hr.1
    exact ⟨hc.1, k, rfl, by omega, hc.2, by unfold runesTo; rw [if_pos hc, Int.toNat_natCast]⟩
  · omega

theorem placeOf_runesTo (l : List UInt8) (a : Int) (h : 0 ≤ runesTo l a) : placeOf l (runesTo l a) = a := by
  obtain ⟨ht, k, rfl, hk, hb, hr⟩ := runesTo_pos h
  rw [hr]
  unfold placeOf
  rw [if_pos ⟨ht, by omega⟩, Int.toNat_natCast]
  have := filter_find (fun k : Nat => isBound l k) (l.length + 1) k (by omega) hb
  unfold cuts runesBefore
  rw [this]
  rfl

theorem placeOf_next (l : List UInt8) (a : Int) (h : 0 ≤ runesTo l a) (hne : a ≠ l.length) : placeOf l (runesTo l a + 1) = a + runeSize l a := by
  obtain ⟨ht, k, rfl, hk, hb, hr⟩ := runesTo_pos h
  have hkl : k < l.length := by omega
  have hok := okS_bound l k hk hb k 0 (by omega) (by omega) (isText_ok ht)
  obtain ⟨h1, h2, h3, h4, h5⟩ := bound_here hkl hok
  have hsz : runeSize l (k : Int) = sz (l.drop k) := by
    unfold runeSize runeAt sz
    rw [if_neg (by omega), Int.toNat_natCast]
  have hb2 : isBound l ((k + sz (l.drop k) : Nat) : Int) = true := by
    by_cases e : k + sz (l.drop k) = l.length
    · rw [e]; exact isBound_end l
    · exact (bound_here (by omega) h3).2.2.2.1
  have hfs := filter_step hkl h1
  have hlen : ((List.range (k + sz (l.drop k))).filter fun k : Nat => isBound l k).length = runesBefore l k + 1 := by rw [hfs]; simp [runesBefore]
  rw [hr, hsz]
  unfold placeOf
  rw [if_pos ⟨ht, by omega⟩]
  have := filter_find (fun k : Nat => isBound l k) (l.length + 1) (k + sz (l.drop k)) (by omega) hb2
  rw [hlen] at this
  have e : ((runesBefore l k : Int) + 1).toNat = runesBefore l k + 1 := by omega
  rw [e]
  unfold cuts
  rw [this]
  simp [placeIn]

theorem runesTo_not {l : List UInt8} (h : isText l = false) (a : Int) : runesTo l a = -1 := by
  unfold runesTo; rw [if_neg (by rw [h]; simp)]

theorem runesTo_ge (l : List UInt8) (a : Int) : -1 ≤ runesTo l a := by unfold runesTo; split <;> omega

theorem runesTo_bd (l : List UInt8) (a : Int) : runesTo l a ≤ l.length := by
  rcases Int.lt_or_le (runesTo l a) 0 with h | h
  · omega
  · obtain ⟨_, k, _, hk, _, hr⟩ := runesTo_pos h
    rw [hr]
    have : runesBefore l k ≤ k := by
      unfold runesBefore
      have := List.length_filter_le (fun k : Nat => isBound l k) (List.range k)
      simpa using this
    omega
end Go.Proofs.YtkplfbhblbinaabGreatDoor.P

/-
  Chapter 1 in plain Lean, the fifth part: decoding an encoding returns the code point, and encoding what was decoded returns the bytes. No program here. Own work.
-/
namespace Go.Proofs.YtkplfbhblbinaabGreatDoor.P

theorem enc_dec (r : Int) (h : codeSz r ≠ 0) (t : List UInt8) : decL (enc r ++ t) = r ∧ sz (enc r ++ t) = codeSz r := by
  have fin : ∀ b u, enc r ++ t = b :: u → rawSz b.toNat ≤ u.length + 1 → rawR b u = r → enc r = (b :: u).take (rawSz b.toNat) → decL (enc r ++ t) = r ∧ sz (enc r ++ t) = codeSz r := by
    intro b u e h1 h2 h3
    rw [e]
    obtain ⟨_, d2, _⟩ := dec_raw b u
    rw [← h2] at h3
    obtain ⟨e1, e2⟩ := d2 h1 h3
    rw [e1, h2]
    refine ⟨rfl, ?_⟩
    unfold sz
    rw [e1, h2]
  rcases codeSz_cases r with ⟨g, _⟩ | ⟨g, g1, g2⟩ | ⟨g, g1, g2⟩ | ⟨g, g1, g2, g3⟩ | ⟨g, g1, g2⟩
  · exact absurd g h
  · have he : enc r = [u8 r] := by simp [enc, g]
    have e0 := u8_toNat r (by omega) (by omega)
    have hs : rawSz (u8 r).toNat = 1 := by unfold rawSz; (repeat' split) <;> omega
    refine fin (u8 r) t (by rw [he]; rfl) (by omega) ?_ (by rw [he, hs]; rfl)
    simp [rawR, hs, leadM, e0]
  · have he : enc r = [u8 (192 + r / 64), u8 (128 + r % 64)] := by simp [enc, g]
    have e0 := u8_toNat (192 + r / 64) (by omega) (by omega)
    have e1 := u8_toNat (128 + r % 64) (by omega) (by omega)
    have hs : rawSz (u8 (192 + r / 64)).toNat = 2 := by unfold rawSz; (repeat' split) <;> omega
    refine fin (u8 (192 + r / 64)) (u8 (128 + r % 64) :: t) (by rw [he]; rfl) (by rw [hs]; simp) ?_ (by rw [he, hs]; rfl)
    simp only [rawR, hs, leadM]
    simp only [Nat.add_one_sub_one, List.take_succ_cons, List.take_zero, List.foldl_cons, List.foldl_nil, e0, e1]
    simp
    omega
  · have he : enc r = [u8 (224 + r / 4096), u8 (128 + r / 64 % 64), u8 (128 + r % 64)] := by simp [enc, g]
    have e0 := u8_toNat (224 + r / 4096) (by omega) (by omega)
    have e1 := u8_toNat (128 + r / 64 % 64) (by omega) (by omega)
    have e2 := u8_toNat (128 + r % 64) (by omega) (by omega)
    have hs : rawSz (u8 (224 + r / 4096)).toNat = 3 := by unfold rawSz; (repeat' split) <;> omega
    refine fin (u8 (224 + r / 4096)) (u8 (128 + r / 64 % 64) :: u8 (128 + r % 64) :: t) (by rw [he]; rfl) (by rw [hs]; simp) ?_ (by rw [he, hs]; rfl)
    simp only [rawR, hs, leadM]
    simp only [Nat.add_one_sub_one, List.take_succ_cons, List.take_zero, List.foldl_cons, List.foldl_nil, e0, e1, e2]
    simp
    omega
  · have he : enc r = [u8 (240 + r / 262144), u8 (128 + r / 4096 % 64), u8 (128 + r / 64 % 64), u8 (128 + r % 64)] := by simp [enc, g]
    have e0 := u8_toNat (240 + r / 262144) (by omega) (by omega)
    have e1 := u8_toNat (128 + r / 4096 % 64) (by omega) (by omega)
    have e2 := u8_toNat (128 + r / 64 % 64) (by omega) (by omega)
    have e3 := u8_toNat (128 + r % 64) (by omega) (by omega)
    have hs : rawSz (u8 (240 + r / 262144)).toNat = 4 := by unfold rawSz; (repeat' split) <;> omega
    refine fin (u8 (240 + r / 262144)) (u8 (128 + r / 4096 % 64) :: u8 (128 + r / 64 % 64) :: u8 (128 + r % 64) :: t) (by rw [he]; rfl) (by rw [hs]; simp) ?_ (by rw [he, hs]; rfl)
    simp only [rawR, hs, leadM]
    simp only [Nat.add_one_sub_one, List.take_succ_cons, List.take_zero, List.foldl_cons, List.foldl_nil, e0, e1, e2, e3]
    simp
    omega

theorem enc_at_one (r : Int) (h : 0 < (enc r).length) : runeAt (97 :: enc r) 1 = r := by
  have hc : codeSz r ≠ 0 := by rw [enc_length] at h; omega
  unfold runeAt
  rw [if_neg (by simp; omega)]
  have := (enc_dec r hc []).1
  simpa using this

theorem enc_size (r : Int) (h : 0 < (enc r).length) : runeSize (enc r) 0 = (enc r).length := by
  have hc : codeSz r ≠ 0 := by rw [enc_length] at h; omega
  have := (enc_dec r hc []).1
  rw [List.append_nil] at this
  unfold runeSize runeAt
  rw [if_neg (by omega), enc_length]
  simp [this]

theorem enc_text (r : Int) : isText (enc r) = true := by
  by_cases h0 : enc r = []
  · rw [h0]; rfl
  · have hpos : 0 < (enc r).length := List.length_pos_iff.2 h0
    have hc : codeSz r ≠ 0 := by rw [enc_length] at hpos; omega
    have hs := (enc_dec r hc []).2
    rw [List.append_nil] at hs
    have h4 := codeSz_le r
    unfold isText
    rw [okS_step h0, hs, enc_length]
    have hd : (enc r).drop (codeSz r) = [] := by rw [← enc_length]; exact List.drop_length
    rw [hd]
    simp [hc, okS]
    omega

theorem dec_enc (b : UInt8) (u : List UInt8) (h : sz (b :: u) ≠ 0) : enc (decL (b :: u)) = (b :: u).take (sz (b :: u)) := by
  obtain ⟨d1, d2, d3⟩ := dec_raw b u
  have zero : ∀ x, decL x = -1 → sz x = 0 := fun x e => by unfold sz; rw [e]; rfl
  by_cases h1 : u.length + 1 < rawSz b.toNat
  · exact absurd (zero _ (d1 h1)) h
  · by_cases h2 : enc (rawR b u) = (b :: u).take (rawSz b.toNat)
    · obtain ⟨e1, e2⟩ := d2 (by omega) h2
      rw [e1, e2, h2]
    · exact absurd (zero _ (d3 (by omega) h2)) h

theorem runeSize_in {l : List UInt8} {a : Int} (h : runeSize l a ≠ 0) : ∃ k : Nat, a = k ∧ k + runeSize l a ≤ l.length ∧ enc (runeAt l a) = (l.drop k).take (runeSize l a) := by
  unfold runeSize runeAt at h
  split at h
  · exact absurd rfl h
  · rename_i hr
    obtain ⟨k, rfl⟩ := Int.eq_ofNat_of_zero_le (show 0 ≤ a by omega)
    have hk : k < l.length := by omega
    have hv : runeAt l (k : Int) = decL (l.drop k) := by unfold runeAt; rw [if_neg hr, Int.toNat_natCast]
    have hs : runeSize l (k : Int) = sz (l.drop k) := by unfold runeSize sz; rw [hv]
    have hle := sz_le (l.drop k)
    rw [List.length_drop] at hle
    refine ⟨k, rfl, by rw [hs]; omega, ?_⟩
    rw [hv, hs]
    have hd : l.drop k = l[k] :: l.drop (k + 1) := List.drop_eq_getElem_cons hk
    rw [Int.toNat_natCast] at h
    rw [hd] at h ⊢
    exact dec_enc _ _ h
end Go.Proofs.YtkplfbhblbinaabGreatDoor.P

/-
  Chapter 2 in plain Lean: measures and chunks of texts. No program here. Own work.
-/
namespace Go.Proofs.YtkplfbhblbinaabGreatDoor.P
set_option linter.unusedVariables false

/-! ### texts taken apart -/
theorem isBound_drop (l : List UInt8) (p k : Nat) (hp : p ≤ l.length) (hk : p + k ≤ l.length) : isBound (l.drop p) (k : Int) = isBound l ((p + k : Nat) : Int) := by
  unfold isBound
  have e1 : ((l.drop p).length : Int) = (l.length : Int) - p := by rw [List.length_drop]; omega
  have e2 : (l.drop p).getD ((k : Int).toNat) 0 = l.getD (((p + k : Nat) : Int).toNat) 0 := by
    rw [Int.toNat_natCast, Int.toNat_natCast]
    simp [List.getD, List.getElem?_drop]
  rw [e1, e2]
  congr 1
  · rw [decide_eq_decide]; omega
  · congr 1
    rw [decide_eq_decide]; omega

theorem pos_of_ne {α : Type} {l : List α} (h : l ≠ []) : 0 < l.length := by
  cases l with
  | nil => exact absurd rfl h
  | cons a t => simp

theorem isBound_zero (l : List UInt8) (h : okS 0 l = true) : isBound l ((0 : Nat) : Int) = true := by
  cases l with
  | nil => exact isBound_end []
  | cons b u => exact (bound_here (l := b :: u) (p := 0) (by simp) (by simpa using h)).2.2.2.1

theorem okS_of_bound {l : List UInt8} (h : okS 0 l = true) {k : Nat} (hk : k ≤ l.length) (hb : isBound l (k : Int) = true) : okS 0 (l.drop k) = true :=
  okS_bound l k hk hb k 0 (by omega) (Nat.zero_le _) (by simpa using h)

/-- The first code point of what is cut off behind it. -/
theorem sz_app {a : List UInt8} (h : sz a ≠ 0) (t : List UInt8) : sz (a ++ t) = sz a := by
  cases a with
  | nil => exact absurd (by rfl) h
  | cons b u =>
    have h1 := dec_enc b u h
    have h2 : (b :: u) = enc (decL (b :: u)) ++ (b :: u).drop (sz (b :: u)) := by rw [h1, List.take_append_drop]
    have h3 := (enc_dec (decL (b :: u)) h ((b :: u).drop (sz (b :: u)) ++ t)).2
    rw [← List.append_assoc, ← h2] at h3
    exact h3

theorem sz_take {l : List UInt8} (h : sz l ≠ 0) (k : Nat) (hk : sz l ≤ k) : sz (l.take k) = sz l := by
  cases l with
  | nil => exact absurd (by rfl) h
  | cons b u =>
    have h1 := dec_enc b u h
    have h2 : (b :: u).take k = enc (decL (b :: u)) ++ ((b :: u).drop (sz (b :: u))).take (k - sz (b :: u)) := by
      rw [h1]
      conv => lhs; rw [show k = sz (b :: u) + (k - sz (b :: u)) by omega]
      rw [List.take_add]
    have h3 := (enc_dec (decL (b :: u)) h (((b :: u).drop (sz (b :: u))).take (k - sz (b :: u)))).2
    rw [← h2] at h3
    exact h3

theorem okS_app : ∀ (n : Nat) (a b : List UInt8), a.length ≤ n → okS 0 a = true → okS 0 b = true → okS 0 (a ++ b) = true := by
  intro n
  induction n with
  | zero =>
    intro a b h1 h2 h3
    have : a = [] := List.eq_nil_of_length_eq_zero (by omega)
    subst this
    simpa using h3
  | succ n ih =>
    intro a b h1 h2 h3
    by_cases ha : a = []
    · subst ha; simpa using h3
    · rw [okS_step ha] at h2
      simp only [Bool.and_eq_true, decide_eq_true_eq] at h2
      have hne : a ++ b ≠ [] := by simp [ha]
      have hle := sz_le a
      rw [okS_step hne, sz_app h2.1, List.drop_append_of_le_length hle, decide_eq_true h2.1, Bool.true_and]
      exact ih _ _ (by have := h2.1; rw [List.length_drop]; omega) h2.2 h3

theorem okS_take : ∀ (n : Nat) (l : List UInt8) (k : Nat), k ≤ n → k ≤ l.length → okS 0 l = true → isBound l (k : Int) = true → okS 0 (l.take k) = true := by
  intro n
  induction n with
  | zero =>
    intro l k h1 h2 h3 h4
    have : k = 0 := by omega
    subst this
    simp [okS]
  | succ n ih =>
    intro l k h1 h2 h3 h4
    by_cases hk : k = 0
    · subst hk; simp [okS]
    · obtain ⟨a, b, c, d, f⟩ := bound_here (l := l) (p := 0) (by omega) (by simpa using h3)
      simp only [List.drop_zero, Nat.zero_add] at a b c f
      have hkz : sz l ≤ k := by
        apply Nat.le_of_not_lt
        intro hlt
        rw [f k (by omega) hlt] at h4
        cases h4
      have hne : l.take k ≠ [] := by intro e; have := congrArg List.length e; rw [List.length_take, List.length_nil] at this; omega
      rw [okS_step hne, sz_take a k hkz, decide_eq_true a, Bool.true_and, List.drop_take]
      refine ih _ _ (by have := a; omega) (by rw [List.length_drop]; omega) c ?_
      rw [isBound_drop l (sz l) (k - sz l) b (by omega), show sz l + (k - sz l) = k by omega]
      exact h4

theorem isText_len {l : List UInt8} (h : isText l = true) : l.length ≤ 400 := by unfold isText at h; simp at h; exact h.1
theorem isText_of {l : List UInt8} (h : l.length ≤ 400) (k : okS 0 l = true) : isText l = true := by unfold isText; simp [h, k]
theorem isText_take {l : List UInt8} (h : isText l = true) {k : Nat} (hk : k ≤ l.length) (hb : isBound l (k : Int) = true) : isText (l.take k) = true :=
  isText_of (by have := isText_len h; rw [List.length_take]; omega) (okS_take k l k (Nat.le_refl _) hk (isText_ok h) hb)
theorem isText_drop {l : List UInt8} (h : isText l = true) {k : Nat} (hk : k ≤ l.length) (hb : isBound l (k : Int) = true) : isText (l.drop k) = true :=
  isText_of (by have := isText_len h; rw [List.length_drop]; omega) (okS_of_bound (isText_ok h) hk hb)

theorem isBound_app_left (a b : List UInt8) (k : Nat) (hk : k < a.length) : isBound (a ++ b) (k : Int) = isBound a (k : Int) := by
  rw [isBound_lt _ k (by rw [List.length_append]; omega), isBound_lt a k hk, List.getElem_append_left hk]
theorem isBound_app_right (a b : List UInt8) (k : Nat) (hk : k ≤ b.length) : isBound (a ++ b) ((a.length + k : Nat) : Int) = isBound b (k : Int) := by
  rw [← isBound_drop (a ++ b) a.length k (by simp) (by simp; omega)]
  simp

theorem runesBefore_app (a b : List UInt8) (k : Nat) (hk : k ≤ b.length + 1) (hb : okS 0 b = true) : runesBefore (a ++ b) (a.length + k) = runesBefore a a.length + runesBefore b k := by
  unfold runesBefore
  rw [List.range_add, List.filter_append, List.length_append]
  congr 1
  · congr 1
    apply List.filter_congr
    intro x hx
    exact isBound_app_left a b x (by simpa using hx)
  · have e : ((List.range k).map (a.length + ·)).filter (fun k : Nat => isBound (a ++ b) k) = ((List.range k).filter (fun k : Nat => isBound b k)).map (a.length + ·) := by
      rw [List.filter_map]
      congr 1
      apply List.filter_congr
      intro x hx
      have : x < k := by simpa using hx
      exact isBound_app_right a b x (by omega)
    rw [e, List.length_map]

theorem runeCount_is {l : List UInt8} (h : isText l = true) : runeCount l = (runesBefore l l.length : Int) := by
  unfold runeCount runesTo
  rw [if_pos ⟨h, isBound_end l⟩, Int.toNat_natCast]

theorem runeCount_app {a b : List UInt8} (ha : isText a = true) (hb : isText b = true) (hab : isText (a ++ b) = true) : runeCount (a ++ b) = runeCount a + runeCount b := by
  rw [runeCount_is ha, runeCount_is hb, runeCount_is hab, List.length_append, runesBefore_app a b b.length (by omega) (isText_ok hb)]
  omega

theorem runesBefore_len (l : List UInt8) (k : Nat) : runesBefore l k ≤ k := by
  unfold runesBefore
  have := List.length_filter_le (fun k : Nat => isBound l k) (List.range k)
  simpa using this

theorem isText_nil : isText [] = true := by decide
theorem runeCount_nil : runeCount [] = 0 := by decide

/-! ### measures -/
def lines (l : List UInt8) : Nat := l.count 10
theorem lines_le (l : List UInt8) : lines l ≤ l.length := List.count_le_length
theorem lines_app (a b : List UInt8) : lines (a ++ b) = lines a + lines b := List.count_append
theorem lines_snoc (l : List UInt8) (k : Nat) (h : k < l.length) : lines (l.take (k + 1)) = lines (l.take k) + if l[k] = 10 then 1 else 0 := by
  unfold lines
  rw [List.take_succ_eq_append_getElem h, List.count_append, List.count_singleton]
  congr 1
  by_cases e : l[k] = 10 <;> simp [e]

def mB (l : List UInt8) : Int := if isText l = true then l.length else 0
def mR (l : List UInt8) : Int := if isText l = true then runeCount l else 0
def mL (l : List UInt8) : Int := if isText l = true then lines l else 0

theorem runeCount_bd {l : List UInt8} (h : isText l = true) : 0 ≤ runeCount l ∧ runeCount l ≤ l.length := by
  rw [runeCount_is h]
  have := runesBefore_len l l.length
  omega
theorem m_bd (l : List UInt8) : 0 ≤ mB l ∧ mB l ≤ 400 ∧ 0 ≤ mR l ∧ mR l ≤ 400 ∧ 0 ≤ mL l ∧ mL l ≤ 400 := by
  unfold mB mR mL
  by_cases h : isText l = true
  · simp only [if_pos h]
    have := isText_len h
    have := runeCount_bd h
    have := lines_le l
    omega
  · simp only [if_neg h]
    omega

/-- Nothing but the empty text and what is no text has the zero measure. -/
theorem m_zero (l : List UInt8) : mB l = 0 ↔ (isText l = false ∨ l = []) := by
  unfold mB
  by_cases h : isText l = true
  · rw [if_pos h]
    constructor
    · intro e; right; exact List.eq_nil_of_length_eq_zero (by omega)
    · rintro (e | e)
      · rw [h] at e; cases e
      · subst e; rfl
  · rw [if_neg h]
    constructor
    · intro _; left; simpa using h
    · intro _; rfl
theorem m_zero_all (l : List UInt8) (h : mB l = 0) : mR l = 0 ∧ mL l = 0 := by
  rcases (m_zero l).1 h with e | e
  · unfold mR mL; simp [e]
  · subst e; unfold mR mL; simp [isText_nil, runeCount_nil, lines]

/-! ### chunks -/
def chunkOk (l : List UInt8) : Bool := decide (1 ≤ l.length) && decide (l.length ≤ 16) && isText l
def chunksOk (ls : List (List UInt8)) : Bool := ls.all chunkOk && decide (ls.flatten.length ≤ 400)
def chunksText (ls : List (List UInt8)) : List UInt8 := if chunksOk ls = true then ls.flatten else []

theorem chunkOk_iff (l : List UInt8) : chunkOk l = true ↔ 1 ≤ l.length ∧ l.length ≤ 16 ∧ isText l = true := by
  unfold chunkOk; simp [and_assoc]
theorem chunkOk_m (l : List UInt8) : chunkOk l = (decide (l.length ≤ 16) && decide (mB l ≠ 0)) := by
  rw [Bool.eq_iff_iff, chunkOk_iff]
  simp only [Bool.and_eq_true, decide_eq_true_eq, ne_eq, m_zero, not_or]
  constructor
  · rintro ⟨a, b, c⟩
    exact ⟨b, by simp [c], by intro e; subst e; simp at a⟩
  · rintro ⟨a, b, c⟩
    refine ⟨?_, a, by simpa using b⟩
    cases l with
    | nil => exact absurd rfl c
    | cons x t => simp

def chunkFrom (i : Nat) : List (List UInt8) → Int → Int × Int
  | [], at_ => if 0 < at_ then (-1, -1) else (i, 0)
  | l :: ls, at_ => if at_ < l.length then (i, at_) else chunkFrom (i + 1) ls (at_ - l.length)
def chunkFor (ls : List (List UInt8)) (at_ : Int) : Int × Int := if at_ < 0 ∨ chunksOk ls = false then (-1, -1) else chunkFrom 0 ls at_

/-- The greatest boundary up to k. -/
def cutTo (l : List UInt8) : Nat → Nat
  | 0 => 0
  | k + 1 => if isBound l ((k + 1 : Nat) : Int) = true then k + 1 else cutTo l k
def cut (l : List UInt8) : Nat := cutTo l (min l.length 16)

theorem cutTo_le (l : List UInt8) (k : Nat) : cutTo l k ≤ k := by
  induction k with
  | zero => simp [cutTo]
  | succ k ih => unfold cutTo; split <;> omega
theorem cutTo_bound (l : List UInt8) (h : okS 0 l = true) (k : Nat) : isBound l (cutTo l k : Int) = true := by
  induction k with
  | zero => exact isBound_zero l h
  | succ k ih => unfold cutTo; split <;> assumption
theorem cutTo_max (l : List UInt8) (k j : Nat) (hj : j ≤ k) (hb : isBound l (j : Int) = true) : j ≤ cutTo l k := by
  induction k with
  | zero => omega
  | succ k ih =>
    unfold cutTo
    split
    · exact hj
    · rename_i hn
      by_cases e : j = k + 1
      · subst e; exact absurd hb hn
      · exact ih (by omega)
theorem cutTo_here (l : List UInt8) (k : Nat) (h : isBound l (k : Int) = true) : cutTo l k = k := by
  cases k with
  | zero => rfl
  | succ k => unfold cutTo; rw [if_pos h]
theorem cutTo_next (l : List UInt8) (k : Nat) (h : isBound l ((k + 1 : Nat) : Int) = false) : cutTo l (k + 1) = cutTo l k := by
  conv => lhs; unfold cutTo
  rw [h]; simp

theorem cut_le (l : List UInt8) : cut l ≤ l.length ∧ cut l ≤ 16 := by
  have := cutTo_le l (min l.length 16)
  unfold cut
  omega
theorem cut_bound {l : List UInt8} (h : okS 0 l = true) : isBound l (cut l : Int) = true := cutTo_bound l h _
theorem sz_le4 (l : List UInt8) : sz l ≤ 4 := codeSz_le _
theorem cut_pos {l : List UInt8} (h : okS 0 l = true) (hne : l ≠ []) : 1 ≤ cut l := by
  have hl : 0 < l.length := pos_of_ne hne
  obtain ⟨a, b, c, d, f⟩ := bound_here (l := l) (p := 0) hl (by simpa using h)
  simp only [List.drop_zero, Nat.zero_add] at a b c f
  have hb : isBound l (sz l : Int) = true := by
    by_cases e : sz l = l.length
    · rw [e]; exact isBound_end l
    · exact (bound_here (l := l) (p := sz l) (by omega) c).2.2.2.1
  have := cutTo_max l (min l.length 16) (sz l) (by have := sz_le4 l; omega) hb
  unfold cut
  omega
/-- Behind a boundary before the cut, the next one is still not behind the cut; behind the cut it does not fit. -/
theorem cut_step {l : List UInt8} (h : okS 0 l = true) {e : Nat} (he : e < l.length) (hb : isBound l (e : Int) = true) (hle : e ≤ cut l) :
    sz (l.drop e) ≠ 0 ∧ e + sz (l.drop e) ≤ l.length ∧ isBound l ((e + sz (l.drop e) : Nat) : Int) = true ∧ (e < cut l ↔ e + sz (l.drop e) ≤ 16) ∧ (e < cut l → e + sz (l.drop e) ≤ cut l) := by
  have hd := okS_of_bound h (Nat.le_of_lt he) hb
  obtain ⟨a, b, c, d, f⟩ := bound_here (l := l) (p := e) he hd
  have hb2 : isBound l ((e + sz (l.drop e) : Nat) : Int) = true := by
    by_cases g : e + sz (l.drop e) = l.length
    · rw [g]; exact isBound_end l
    · exact (bound_here (l := l) (p := e + sz (l.drop e)) (by omega) c).2.2.2.1
  have hcb := cut_bound h
  have hcl := cut_le l
  have h5 : e < cut l → e + sz (l.drop e) ≤ cut l := by
    intro hlt
    apply Nat.le_of_not_lt
    intro g
    have := f (cut l) hlt g
    rw [hcb] at this
    cases this
  refine ⟨a, b, hb2, ⟨fun hlt => by have := h5 hlt; omega, fun g => ?_⟩, h5⟩
  have := cutTo_max l (min l.length 16) (e + sz (l.drop e)) (by omega) hb2
  unfold cut
  omega

def chunksL : Nat → List UInt8 → List (List UInt8)
  | 0, _ => []
  | f + 1, l => if l = [] then [] else l.take (cut l) :: chunksL f (l.drop (cut l))
def chunksOf (l : List UInt8) : List (List UInt8) := if isText l = true then chunksL l.length l else []

theorem chunksL_fuel : ∀ (f g : Nat) (l : List UInt8), okS 0 l = true → l.length ≤ f → l.length ≤ g → chunksL f l = chunksL g l := by
  intro f
  induction f with
  | zero =>
    intro g l h1 h2 h3
    have : l = [] := List.eq_nil_of_length_eq_zero (by omega)
    subst this
    cases g <;> simp [chunksL]
  | succ f ih =>
    intro g l h1 h2 h3
    by_cases hl : l = []
    · subst hl; cases g <;> simp [chunksL]
    · have hp := cut_pos h1 hl
      have hc := cut_le l
      cases g with
      | zero => exact absurd (List.eq_nil_of_length_eq_zero (by omega)) hl
      | succ g =>
        simp only [chunksL, if_neg hl]
        congr 1
        exact ih g _ (okS_of_bound h1 hc.1 (cut_bound h1)) (by rw [List.length_drop]; omega) (by rw [List.length_drop]; omega)

theorem chunksL_step {l : List UInt8} (h : okS 0 l = true) (hne : l ≠ []) : chunksL l.length l = l.take (cut l) :: chunksL (l.drop (cut l)).length (l.drop (cut l)) := by
  have hl : 0 < l.length := pos_of_ne hne
  have hp := cut_pos h hne
  have hc := cut_le l
  obtain ⟨n, hn⟩ : ∃ n, l.length = n + 1 := ⟨l.length - 1, by omega⟩
  conv => lhs; rw [hn]
  simp only [chunksL, if_neg hne]
  congr 1
  exact chunksL_fuel _ _ _ (okS_of_bound h hc.1 (cut_bound h)) (by rw [List.length_drop]; omega) (Nat.le_refl _)

theorem chunksL_flat : ∀ (n : Nat) (l : List UInt8), l.length ≤ n → okS 0 l = true → (chunksL l.length l).flatten = l := by
  intro n
  induction n with
  | zero =>
    intro l h1 h2
    have : l = [] := List.eq_nil_of_length_eq_zero (by omega)
    subst this
    simp [chunksL]
  | succ n ih =>
    intro l h1 h2
    by_cases hl : l = []
    · subst hl; simp [chunksL]
    · have hp := cut_pos h2 hl
      have hc := cut_le l
      rw [chunksL_step h2 hl, List.flatten_cons, ih _ (by rw [List.length_drop]; omega) (okS_of_bound h2 hc.1 (cut_bound h2)), List.take_append_drop]

theorem chunksL_ok : ∀ (n : Nat) (l : List UInt8), l.length ≤ n → l.length ≤ 400 → okS 0 l = true → ∀ c ∈ chunksL l.length l, chunkOk c = true := by
  intro n
  induction n with
  | zero =>
    intro l h1 _ h2
    have : l = [] := List.eq_nil_of_length_eq_zero (by omega)
    subst this
    simp [chunksL]
  | succ n ih =>
    intro l h1 h4 h2
    by_cases hl : l = []
    · subst hl; simp [chunksL]
    · have hp := cut_pos h2 hl
      have hc := cut_le l
      rw [chunksL_step h2 hl]
      intro c hcm
      rcases List.mem_cons.1 hcm with rfl | hcm
      · rw [chunkOk_iff, List.length_take]
        exact ⟨by omega, by omega, isText_take (isText_of h4 h2) hc.1 (cut_bound h2)⟩
      · exact ih _ (by rw [List.length_drop]; omega) (by rw [List.length_drop]; omega) (okS_of_bound h2 hc.1 (cut_bound h2)) c hcm

/-- No chunk but the last one has room for the first code point of the next. -/
theorem chunksL_full : ∀ (n : Nat) (l : List UInt8), l.length ≤ n → okS 0 l = true → ∀ i (h : i + 1 < (chunksL l.length l).length),
    16 < ((chunksL l.length l)[i]).length + sz ((chunksL l.length l)[i + 1]) := by
  intro n
  induction n with
  | zero =>
    intro l h1 h2 i h
    have : l = [] := List.eq_nil_of_length_eq_zero (by omega)
    subst this
    simp [chunksL] at h
  | succ n ih =>
    intro l h1 h2 i h
    by_cases hl : l = []
    · subst hl; simp [chunksL] at h
    · have hp := cut_pos h2 hl
      have hc := cut_le l
      have hd := okS_of_bound h2 hc.1 (cut_bound h2)
      have hst := chunksL_step h2 hl
      cases i with
      | zero =>
        have hne : l.drop (cut l) ≠ [] := by
          intro e
          rw [hst, e] at h
          simp [chunksL] at h
        have hlt : cut l < l.length := by
          apply Nat.lt_of_not_le
          intro g
          exact hne (List.drop_eq_nil_iff.2 g)
        have hst2 := chunksL_step hd hne
        rw [hst2] at hst
        obtain ⟨a, b, c, d, f⟩ := cut_step h2 hlt (cut_bound h2) (Nat.le_refl _)
        have hz : sz ((l.drop (cut l)).take (cut (l.drop (cut l)))) = sz (l.drop (cut l)) := by
          apply sz_take a
          obtain ⟨a', b', c', d', f'⟩ := cut_step hd (e := 0) (pos_of_ne hne) (isBound_zero _ hd) (Nat.zero_le _)
          have := f' (by have := cut_pos hd hne; omega)
          simpa using this
        simp only [hst, List.getElem_cons_zero, List.getElem_cons_succ]
        rw [hz, List.length_take]
        have : ¬ cut l + sz (l.drop (cut l)) ≤ 16 := fun g => by have := d.2 g; omega
        omega
      | succ i =>
        have h' : i + 1 < (chunksL (l.drop (cut l)).length (l.drop (cut l))).length := by rw [hst] at h; simpa using h
        have := ih _ (by rw [List.length_drop]; omega) hd i h'
        simpa only [hst, List.getElem_cons_succ] using this

theorem chunksOf_flat {l : List UInt8} (h : isText l = true) : (chunksOf l).flatten = l := by
  unfold chunksOf; rw [if_pos h]; exact chunksL_flat _ l (Nat.le_refl _) (isText_ok h)
theorem chunksOf_all (l : List UInt8) : ∀ c ∈ chunksOf l, chunkOk c = true := by
  unfold chunksOf
  split
  · rename_i h; exact chunksL_ok _ l (Nat.le_refl _) (isText_len h) (isText_ok h)
  · simp
theorem chunksOf_ok (l : List UInt8) : chunksOk (chunksOf l) = true := by
  unfold chunksOk
  simp only [Bool.and_eq_true, List.all_eq_true, decide_eq_true_eq]
  refine ⟨chunksOf_all l, ?_⟩
  by_cases h : isText l = true
  · rw [chunksOf_flat h]; exact isText_len h
  · unfold chunksOf; rw [if_neg h]; simp
theorem chunksOf_full {l : List UInt8} (i : Nat) (h : i + 1 < (chunksOf l).length) : 16 < ((chunksOf l)[i]).length + sz ((chunksOf l)[i + 1]) := by
  unfold chunksOf at h ⊢
  split at h
  · rename_i ht
    simp only [if_pos ht]
    exact chunksL_full _ l (Nat.le_refl _) (isText_ok ht) i h
  · simp at h

theorem flatten_len_le (ls : List (List UInt8)) (h : ∀ c ∈ ls, 1 ≤ c.length) : ls.length ≤ ls.flatten.length := by
  induction ls with
  | nil => simp
  | cons a t ih =>
    have h1 := h a (by simp)
    have h2 := ih (fun c hc => h c (by simp [hc]))
    simp only [List.flatten_cons, List.length_cons, List.length_append]
    omega
theorem chunksOk_all {ls : List (List UInt8)} (h : chunksOk ls = true) : (∀ c ∈ ls, chunkOk c = true) ∧ ls.flatten.length ≤ 400 := by
  unfold chunksOk at h; simpa using h
theorem chunksOk_len {ls : List (List UInt8)} (h : chunksOk ls = true) : ls.length ≤ 400 := by
  obtain ⟨a, b⟩ := chunksOk_all h
  have := flatten_len_le ls (fun c hc => ((chunkOk_iff c).1 (a c hc)).1)
  omega
theorem flatten_text : ∀ (ls : List (List UInt8)), (∀ c ∈ ls, chunkOk c = true) → okS 0 ls.flatten = true := by
  intro ls
  induction ls with
  | nil => intro _; simp [okS]
  | cons a t ih =>
    intro h
    rw [List.flatten_cons]
    exact okS_app _ a _ (Nat.le_refl _) (isText_ok ((chunkOk_iff a).1 (h a (by simp))).2.2) (ih (fun c hc => h c (by simp [hc])))
theorem chunksOk_text {ls : List (List UInt8)} (h : chunksOk ls = true) : isText ls.flatten = true :=
  isText_of (chunksOk_all h).2 (flatten_text ls (chunksOk_all h).1)

theorem flat_snoc (ls : List (List UInt8)) (k : Nat) (h : k < ls.length) : (ls.take (k + 1)).flatten = (ls.take k).flatten ++ ls[k] := by
  rw [List.take_succ_eq_append_getElem h, List.flatten_append]; simp

theorem chunkFrom_drop (ls : List (List UInt8)) (k : Nat) (h : k < ls.length) (a : Int) :
    chunkFrom k (ls.drop k) a = if a < (ls[k]).length then ((k : Int), a) else chunkFrom (k + 1) (ls.drop (k + 1)) (a - (ls[k]).length) := by
  rw [List.drop_eq_getElem_cons h]; rfl

end Go.Proofs.YtkplfbhblbinaabGreatDoor.P

/-
  Chapter 4 in plain Lean: ropes, their cuts, lines and columns. No program here. Own work.
  Chapter 4 in plain Lean: what the library's searches say of a text. Own work.
  Chapter 4 in plain Lean: the rolling hash of the library's backward search, and what that search finds. Own work.
-/
namespace Go.Proofs.YtkplfbhblbinaabGreatDoor.P

/-- Can the rope be cut at the offset? -/
def rCut (ls : List (List UInt8)) (a : Int) : Bool := chunksOk ls && isBound (chunksText ls) a

theorem chunksText_ok {ls : List (List UInt8)} (h : chunksOk ls = true) : chunksText ls = ls.flatten := by unfold chunksText; rw [if_pos h]
theorem chunksText_isText (ls : List (List UInt8)) : isText (chunksText ls) = true := by
  unfold chunksText
  split
  · rename_i h; exact chunksOk_text h
  · exact isText_nil

theorem rCut_text (ls : List (List UInt8)) (a : Int) : rCut ls a = (chunksOk ls && cutOk (chunksText ls) a) := by
  unfold rCut cutOk
  rw [chunksText_isText, Bool.true_and]

theorem rCut_true {ls : List (List UInt8)} {a : Int} (h : rCut ls a = true) : chunksOk ls = true ∧ ∃ k : Nat, a = k ∧ k ≤ (chunksText ls).length ∧ isBound (chunksText ls) (k : Int) = true := by
  unfold rCut at h
  rw [Bool.and_eq_true] at h
  refine ⟨h.1, ?_⟩
  have h2 := h.2
  by_cases ho : a < 0 ∨ ((chunksText ls).length : Int) < a
  · rw [isBound_out _ _ ho] at h2; exact absurd h2 (by simp)
  · exact ⟨a.toNat, by omega, by omega, by rw [show ((a.toNat : Nat) : Int) = a by omega]; exact h2⟩

/-- Where the last line of l begins. -/
def lineFrom (l : List UInt8) : Nat := l.length - (l.reverse.takeWhile (fun b => b != 10)).length
theorem lineFrom_nil : lineFrom [] = 0 := rfl
theorem lineFrom_le (l : List UInt8) : lineFrom l ≤ l.length := Nat.sub_le _ _
theorem lineFrom_snoc (l : List UInt8) (b : UInt8) : lineFrom (l ++ [b]) = if b = 10 then l.length + 1 else lineFrom l := by
  unfold lineFrom
  rw [List.reverse_append]
  simp only [List.reverse_singleton, List.singleton_append, List.takeWhile_cons, List.length_append, List.length_singleton]
  by_cases h : b = 10
  · subst h; simp
  · have hb : (b != 10) = true := by simpa using h
    rw [if_neg h, if_pos hb, List.length_cons]
    omega
theorem lineFrom_take (l : List UInt8) (k : Nat) (h : k < l.length) : lineFrom (l.take (k + 1)) = if l[k] = 10 then k + 1 else lineFrom (l.take k) := by
  rw [List.take_succ_eq_append_getElem h, lineFrom_snoc, List.length_take, show min k l.length = k by omega]

/-- The line and the column of an offset. -/
def ropeLine (ls : List (List UInt8)) (a : Int) : Int × Int :=
  if rCut ls a = true then ((lines ((chunksText ls).take a.toNat) : Int), runeCount (((chunksText ls).take a.toNat).drop (lineFrom ((chunksText ls).take a.toNat)))) else (-1, -1)

/-- Does p stand at offset i of the text? -/
def standsAt (t p : List UInt8) (i : Nat) : Prop := (t.drop i).take p.length = p
theorem standsAt_le {t p : List UInt8} {i : Nat} (h : standsAt t p i) (hi : i ≤ t.length) : i + p.length ≤ t.length := by
  have := congrArg List.length h
  rw [List.length_take, List.length_drop] at this
  omega
instance (t p : List UInt8) (i : Nat) : Decidable (standsAt t p i) := by unfold standsAt; exact inferInstance

/-- r is the nearest offset, from the given one on, at which p stands in t; -1 where there is none. -/
def IsFind (t p : List UInt8) (k : Nat) (r : Int) : Prop :=
  (∃ i : Nat, r = i ∧ k ≤ i ∧ i < t.length ∧ standsAt t p i ∧ ∀ j, k ≤ j → j < i → ¬ standsAt t p j) ∨ (r = -1 ∧ ∀ j, k ≤ j → j < t.length → ¬ standsAt t p j)
theorem IsFind.unique {t p : List UInt8} {k : Nat} {r s : Int} (h : IsFind t p k r) (g : IsFind t p k s) : r = s := by
  rcases h with ⟨i, rfl, h1, h2, h3, h4⟩ | ⟨rfl, h⟩ <;> rcases g with ⟨j, rfl, g1, g2, g3, g4⟩ | ⟨rfl, g⟩
  · rcases Nat.lt_trichotomy i j with x | x | x
    · exact absurd h3 (g4 i h1 x)
    · rw [x]
    · exact absurd g3 (h4 j g1 x)
  · exact absurd h3 (g i h1 h2)
  · exact absurd g3 (h j g1 g2)
  · rfl

/-- r is the last offset, up to the given one, at which p stands in t; -1 where there is none. -/
def IsFindBack (t p : List UInt8) (k : Nat) (r : Int) : Prop :=
  (∃ i : Nat, r = i ∧ i ≤ k ∧ standsAt t p i ∧ ∀ j, i < j → j ≤ k → ¬ standsAt t p j) ∨ (r = -1 ∧ ∀ j, j ≤ k → ¬ standsAt t p j)
theorem IsFindBack.unique {t p : List UInt8} {k : Nat} {r s : Int} (h : IsFindBack t p k r) (g : IsFindBack t p k s) : r = s := by
  rcases h with ⟨i, rfl, h1, h3, h4⟩ | ⟨rfl, h⟩ <;> rcases g with ⟨j, rfl, g1, g3, g4⟩ | ⟨rfl, g⟩
  · rcases Nat.lt_trichotomy i j with x | x | x
    · exact absurd g3 (h4 j x g1)
    · rw [x]
    · exact absurd h3 (g4 i x h1)
  · exact absurd h3 (g i h1)
  · exact absurd g3 (h j g1)
  · rfl

/-- Is there something to look for, at a place where one can begin? -/
def canFindR (ls : List (List UInt8)) (p : List UInt8) (a : Int) : Bool := rCut ls a && (isText p && decide (0 < p.length))
def FindsR (ls : List (List UInt8)) (p : List UInt8) (a r : Int) : Prop := (canFindR ls p a = true ∧ IsFind (chunksText ls) p a.toNat r) ∨ (canFindR ls p a = false ∧ r = -1)
def FindsBackR (ls : List (List UInt8)) (p : List UInt8) (a r : Int) : Prop := (canFindR ls p a = true ∧ IsFindBack (chunksText ls) p a.toNat r) ∨ (canFindR ls p a = false ∧ r = -1)
theorem FindsR.unique {ls : List (List UInt8)} {p : List UInt8} {a r s : Int} (h : FindsR ls p a r) (g : FindsR ls p a s) : r = s := by
  rcases h with ⟨h1, h2⟩ | ⟨h1, h2⟩ <;> rcases g with ⟨g1, g2⟩ | ⟨g1, g2⟩
  · exact h2.unique g2
  · rw [h1] at g1; cases g1
  · rw [h1] at g1; cases g1
  · rw [h2, g2]
theorem FindsBackR.unique {ls : List (List UInt8)} {p : List UInt8} {a r s : Int} (h : FindsBackR ls p a r) (g : FindsBackR ls p a s) : r = s := by
  rcases h with ⟨h1, h2⟩ | ⟨h1, h2⟩ <;> rcases g with ⟨g1, g2⟩ | ⟨g1, g2⟩
  · exact h2.unique g2
  · rw [h1] at g1; cases g1
  · rw [h1] at g1; cases g1
  · rw [h2, g2]

theorem chunksOk_append (ls rs : List (List UInt8)) : chunksOk (ls ++ rs) = (chunksOk ls && chunksOk rs && decide (ls.flatten.length + rs.flatten.length ≤ 400)) := by
  unfold chunksOk
  rw [List.all_append, List.flatten_append, List.length_append]
  rw [Bool.eq_iff_iff]
  simp only [Bool.and_eq_true, decide_eq_true_eq]
  constructor
  · rintro ⟨⟨a, b⟩, c⟩; exact ⟨⟨⟨a, by omega⟩, b, by omega⟩, c⟩
  · rintro ⟨⟨⟨a, _⟩, b, _⟩, c⟩; exact ⟨⟨a, b⟩, c⟩
end Go.Proofs.YtkplfbhblbinaabGreatDoor.P

namespace Go.Proofs.YtkplfbhblbinaabGreatDoor.P

theorem standsAt_iff (t p : List UInt8) (i : Nat) : standsAt t p i ↔ p <+: t.drop i := by
  unfold standsAt
  rw [List.prefix_iff_eq_take]
  exact eq_comm
theorem occAt_iff (t p : List UInt8) (k j : Nat) : Go.Lib.occAt (t.drop k) p j = true ↔ standsAt t p (k + j) := by
  rw [standsAt_iff]
  unfold Go.Lib.occAt
  rw [List.isPrefixOf_iff_prefix, List.drop_drop]

theorem find_of_index (t p : List UInt8) (k : Nat) (hk : k ≤ t.length) (hp : 0 < p.length) (r : Int) (hr : Go.Lib.index (t.drop k) p = r) :
    (r < 0 → IsFind t p k (-1)) ∧ (0 ≤ r → IsFind t p k ((k : Int) + r)) ∧ r ≤ t.length := by
  rcases Go.Lib.index_spec (t.drop k) p with ⟨h1, h2⟩ | ⟨i, h1, h2, h3, h4⟩
  · rw [h1] at hr
    subst hr
    refine ⟨fun _ => .inr ⟨rfl, fun j hj hlt hs => ?_⟩, fun h => absurd h (by decide), by omega⟩
    have := h2 (j - k) (by rw [List.length_drop]; omega)
    rw [Bool.eq_false_iff] at this
    exact this ((occAt_iff t p k (j - k)).2 (by rw [show k + (j - k) = j by omega]; exact hs))
  · rw [h1] at hr
    subst hr
    rw [List.length_drop] at h2
    have hs := (occAt_iff t p k i).1 h3
    have hle := standsAt_le hs (by omega)
    refine ⟨fun h => by omega, fun _ => .inl ⟨k + i, by omega, by omega, by omega, hs, fun j hj hlt hs' => ?_⟩, by omega⟩
    have := h4 (j - k) (by omega)
    rw [Bool.eq_false_iff] at this
    exact this ((occAt_iff t p k (j - k)).2 (by rw [show k + (j - k) = j by omega]; exact hs'))
end Go.Proofs.YtkplfbhblbinaabGreatDoor.P

namespace Go.Proofs.YtkplfbhblbinaabGreatDoor.P
open Go.Lib
set_option linter.unusedVariables false

theorem hashL (l : List UInt8) (k : Nat) (h1 : 1 ≤ k) (hk : k ≤ l.length) {h : Int} (hh : h = RK.H (l.drop k).reverse % 4294967296) :
    (h * 16777619 % 4294967296 + ((l[k - 1]'(by omega)).toNat : Int) % 4294967296) % 4294967296 = RK.H (l.drop (k - 1)).reverse % 4294967296 := by
  have := LastIndex.hashrev_step ⟨l.toArray⟩ k h1 (by simpa [ByteArray.size] using hk) (h := h) hh
  exact this

theorem rollL (t : List UInt8) (n i : Nat) (hn : 1 ≤ n) (hi : i + 1 + n ≤ t.length) {h pw : Int} (hh : h = RK.H (RK.win t (i + 1) n).reverse % 4294967296) (hp : pw = 16777619 ^ n % 4294967296) :
    (h * 16777619 + ((t[i]'(by omega)).toNat : Int) - pw * (((t[i + n]'(by omega)).toNat : Int) % 4294967296)) % 4294967296 = RK.H (RK.win t i n).reverse % 4294967296 := by
  have := LastIndex.rollrev_step ⟨t.toArray⟩ n i hn (by simpa [ByteArray.size] using hi) (h := h) (pw := pw) hh hp
  exact this

theorem noHashL (t p : List UInt8) (j : Nat) (hj : j + p.length ≤ t.length) {h hh : Int} (e1 : h = RK.H (RK.win t j p.length).reverse % 4294967296) (e2 : hh = RK.H p.reverse % 4294967296) (hne : ¬ h = hh) : ¬ standsAt t p j := by
  intro hs
  apply hne
  rw [e1, e2]
  have : RK.win t j p.length = p := hs
  rw [this]

theorem winL (t : List UInt8) (j n : Nat) (h : j + n = t.length) : t.drop j = RK.win t j n := (List.take_of_length_le (by rw [List.length_drop]; omega)).symm

/-- r is the last offset at which p stands in t, all of it; -1 where there is none. -/
def IsLast (t p : List UInt8) (r : Int) : Prop :=
  (∃ i : Nat, r = i ∧ i + p.length ≤ t.length ∧ standsAt t p i ∧ ∀ j, i < j → j + p.length ≤ t.length → ¬ standsAt t p j) ∨ (r = -1 ∧ ∀ j, j + p.length ≤ t.length → ¬ standsAt t p j)

theorem standsAt_take {t p : List UInt8} {n j : Nat} (h : j + p.length ≤ n) : standsAt (t.take n) p j ↔ standsAt t p j := by
  unfold standsAt
  rw [List.drop_take, List.take_take, Nat.min_eq_left (by omega)]

theorem findBack_of_last (t p : List UInt8) (k : Nat) (hk : k ≤ t.length) (hp : 0 < p.length) (r : Int) (h : IsLast (t.take (min (k + p.length) t.length)) p r) : IsFindBack t p k r := by
  have hl : (t.take (min (k + p.length) t.length)).length = min (k + p.length) t.length := by rw [List.length_take]; omega
  unfold IsLast at h
  rw [hl] at h
  rcases h with ⟨i, rfl, h1, h2, h3⟩ | ⟨rfl, h⟩
  · refine .inl ⟨i, rfl, by omega, (standsAt_take h1).1 h2, fun j hj hjk hs => ?_⟩
    have hle := standsAt_le hs (by omega)
    exact h3 j hj (by omega) ((standsAt_take (by omega)).2 hs)
  · refine .inr ⟨rfl, fun j hjk hs => ?_⟩
    have hle := standsAt_le hs (by omega)
    exact h j (by omega) ((standsAt_take (by omega)).2 hs)

theorem standsAt_one (t : List UInt8) (b : UInt8) (j : Nat) (h : j < t.length) : standsAt t [b] j ↔ t[j] = b := by
  have e : (t.drop j).take ([b] : List UInt8).length = [t[j]] := by rw [List.drop_eq_getElem_cons h]; rfl
  unfold standsAt
  rw [e, List.cons.injEq]
  exact ⟨fun h => h.1, fun h => ⟨h, rfl⟩⟩
theorem standsAt_all (t p : List UInt8) (h : p.length = t.length) : standsAt t p 0 ↔ t = p := by
  unfold standsAt
  rw [List.drop_zero, h, List.take_length]
end Go.Proofs.YtkplfbhblbinaabGreatDoor.P

/-
  Chapter 5, the mathematics of edits: when an edit is valid, what it makes, what undoes it. Own work.
-/
namespace Go.Proofs.YtkplfbhblbinaabGreatDoor
namespace P
set_option linter.unusedVariables false

/-- Whether the edit that puts p for the m bytes at a is valid for the text t. -/
def edOk (t : List UInt8) (a m : Int) (p : List UInt8) : Bool :=
  decide (0 ≤ m) && (isText t && (isText p && ((isBound t a && isBound t (a + m)) && decide ((t.length : Int) - m + p.length ≤ 400))))
/-- What it makes of t. -/
def edText (t : List UInt8) (a m : Int) (p : List UInt8) : List UInt8 := t.take a.toNat ++ (p ++ t.drop (a + m).toNat)
def edDo (t : List UInt8) (a m : Int) (p : List UInt8) : List UInt8 := if edOk t a m p = true then edText t a m p else []
/-- What it cuts. -/
def edCut (t : List UInt8) (a m : Int) : List UInt8 := (t.drop a.toNat).take m.toNat
def backA (t : List UInt8) (a m : Int) (p : List UInt8) : Int := if edOk t a m p = true then a else 0
def backM (t : List UInt8) (a m : Int) (p : List UInt8) : Int := if edOk t a m p = true then p.length else 0
def backP (t : List UInt8) (a m : Int) (p : List UInt8) : List UInt8 := if edOk t a m p = true then edCut t a m else []

theorem edOk_iff (t : List UInt8) (a m : Int) (p : List UInt8) : edOk t a m p = true ↔ 0 ≤ m ∧ isText t = true ∧ isText p = true ∧ isBound t a = true ∧ isBound t (a + m) = true ∧ (t.length : Int) - m + p.length ≤ 400 := by
  unfold edOk
  simp only [Bool.and_eq_true, decide_eq_true_eq, and_assoc]

theorem isBound_range {l : List UInt8} {a : Int} (h : isBound l a = true) : 0 ≤ a ∧ a ≤ l.length := by
  refine ⟨?_, ?_⟩
  all_goals
    apply Classical.byContradiction
    intro g
    rw [isBound_out l a (by omega)] at h
    cases h

theorem edOk_range {t : List UInt8} {a m : Int} {p : List UInt8} (h : edOk t a m p = true) :
    0 ≤ a ∧ 0 ≤ m ∧ a + m ≤ t.length ∧ t.length ≤ 400 ∧ p.length ≤ 400 ∧ (t.length : Int) - m + p.length ≤ 400 := by
  obtain ⟨h1, h2, h3, h4, h5, h6⟩ := (edOk_iff t a m p).1 h
  have := isBound_range h4
  have := isBound_range h5
  have := isText_len h2
  have := isText_len h3
  omega

theorem edText_len {t : List UInt8} {a m : Int} {p : List UInt8} (h : edOk t a m p = true) : ((edText t a m p).length : Int) = t.length - m + p.length := by
  have := edOk_range h
  unfold edText
  rw [List.length_append, List.length_append, List.length_take, List.length_drop]
  omega

theorem edCut_len {t : List UInt8} {a m : Int} {p : List UInt8} (h : edOk t a m p = true) : ((edCut t a m).length : Int) = m := by
  have := edOk_range h
  unfold edCut
  rw [List.length_take, List.length_drop]
  omega

theorem edDo_len (t : List UInt8) (a m : Int) (p : List UInt8) : (edDo t a m p).length ≤ 400 := by
  unfold edDo
  split
  · rename_i h
    have := edText_len h
    have := edOk_range h
    omega
  · simp
theorem backP_len (t : List UInt8) (a m : Int) (p : List UInt8) : (backP t a m p).length ≤ 400 := by
  unfold backP
  split
  · rename_i h
    have := edCut_len h
    have := edOk_range h
    omega
  · simp

/-- The text is what lies before, in and behind the cut. -/
theorem ed_parts {t : List UInt8} {a m : Int} {p : List UInt8} (h : edOk t a m p = true) : t = t.take a.toNat ++ (edCut t a m ++ t.drop (a + m).toNat) := by
  have hr := edOk_range h
  unfold edCut
  rw [show (a + m).toNat = a.toNat + m.toNat by omega, ← List.drop_drop, List.take_append_drop, List.take_append_drop]

/-- The three parts are texts. -/
theorem ed_texts {t : List UInt8} {a m : Int} {p : List UInt8} (h : edOk t a m p = true) : okS 0 (t.take a.toNat) = true ∧ okS 0 (edCut t a m) = true ∧ okS 0 (t.drop (a + m).toNat) = true ∧ okS 0 p = true := by
  have hr := edOk_range h
  obtain ⟨h1, h2, h3, h4, h5, h6⟩ := (edOk_iff t a m p).1 h
  have ht := isText_ok h2
  have b1 : isBound t ((a.toNat : Nat) : Int) = true := by rw [show ((a.toNat : Nat) : Int) = a by omega]; exact h4
  have b2 : isBound t (((a + m).toNat : Nat) : Int) = true := by rw [show (((a + m).toNat : Nat) : Int) = a + m by omega]; exact h5
  refine ⟨okS_take _ t a.toNat (Nat.le_refl _) (by omega) ht b1, ?_, okS_of_bound ht (by omega) b2, isText_ok h3⟩
  have hd := okS_of_bound ht (show a.toNat ≤ t.length by omega) b1
  have hb := isBound_drop t a.toNat m.toNat (by omega) (by omega)
  rw [show ((a.toNat + m.toNat : Nat) : Int) = (((a + m).toNat : Nat) : Int) by omega, b2] at hb
  exact okS_take _ (t.drop a.toNat) m.toNat (Nat.le_refl _) (by rw [List.length_drop]; omega) hd hb

theorem edText_ok {t : List UInt8} {a m : Int} {p : List UInt8} (h : edOk t a m p = true) : isText (edText t a m p) = true := by
  obtain ⟨h1, h2, h3, h4⟩ := ed_texts h
  have hl := edText_len h
  have hr := edOk_range h
  refine isText_of (by omega) ?_
  unfold edText
  exact okS_app _ _ _ (Nat.le_refl _) h1 (okS_app _ _ _ (Nat.le_refl _) h4 h3)

theorem bound_join {x y : List UInt8} (hy : okS 0 y = true) : isBound (x ++ y) ((x.length : Nat) : Int) = true := by
  have := isBound_app_right x y 0 (Nat.zero_le _)
  rw [isBound_zero y hy, Nat.add_zero] at this
  exact this

/-- The inverse edit is valid for the edited text. -/
theorem back_ok {t : List UInt8} {a m : Int} {p : List UInt8} (h : edOk t a m p = true) : edOk (edText t a m p) a p.length (edCut t a m) = true := by
  obtain ⟨h1, h2, h3, h4⟩ := ed_texts h
  have hr := edOk_range h
  have hl := edText_len h
  have hc := edCut_len h
  have htk : ((t.take a.toNat).length : Int) = a := by rw [List.length_take]; omega
  rw [edOk_iff]
  refine ⟨by omega, edText_ok h, isText_of (by omega) h2, ?_, ?_, by omega⟩
  · have := bound_join (x := t.take a.toNat) (okS_app _ _ _ (Nat.le_refl _) h4 h3)
    rw [htk] at this
    exact this
  · have := bound_join (x := t.take a.toNat ++ p) h3
    rw [List.append_assoc, List.length_append, Int.natCast_add, htk] at this
    exact this

/-- It restores the text, and cuts what was put. -/
theorem back_text {t : List UInt8} {a m : Int} {p : List UInt8} (h : edOk t a m p = true) : edText (edText t a m p) a p.length (edCut t a m) = t ∧ edCut (edText t a m p) a p.length = p := by
  have hr := edOk_range h
  have htk : (t.take a.toNat).length = a.toNat := by rw [List.length_take]; omega
  have e1 : (edText t a m p).take a.toNat = t.take a.toNat := by
    unfold edText
    rw [List.take_append_of_le_length (by omega), List.take_of_length_le (by omega)]
  have e2 : (edText t a m p).drop a.toNat = p ++ t.drop (a + m).toNat := by
    unfold edText
    rw [List.drop_append_of_le_length (by omega), List.drop_of_length_le (by omega), List.nil_append]
  have e3 : (edText t a m p).drop (a + (p.length : Int)).toNat = t.drop (a + m).toNat := by
    rw [show (a + (p.length : Int)).toNat = a.toNat + p.length by omega, ← List.drop_drop, e2, List.drop_append_of_le_length (Nat.le_refl _), List.drop_length, List.nil_append]
  refine ⟨?_, ?_⟩
  · rw [show edText (edText t a m p) a p.length (edCut t a m) = (edText t a m p).take a.toNat ++ (edCut t a m ++ (edText t a m p).drop (a + (p.length : Int)).toNat) from rfl, e1, e3]
    exact (ed_parts h).symm
  · rw [show edCut (edText t a m p) a p.length = ((edText t a m p).drop a.toNat).take ((p.length : Int)).toNat from rfl, e2]
    rw [show ((p.length : Int)).toNat = p.length by omega, List.take_append_of_le_length (Nat.le_refl _), List.take_length]
end P
end Go.Proofs.YtkplfbhblbinaabGreatDoor

/-
  Chapter 5, the mathematics of joined edits and of lists of edits. Own work.
-/
namespace Go.Proofs.YtkplfbhblbinaabGreatDoor
namespace P
set_option linter.unusedVariables false

def edSmall (a m : Int) (p : List UInt8) : Bool := decide (0 ≤ a) && (decide (a ≤ 400) && (decide (0 ≤ m) && (decide (m ≤ 400) && decide (p.length ≤ 400))))
theorem edSmall_iff (a m : Int) (p : List UInt8) : edSmall a m p = true ↔ 0 ≤ a ∧ a ≤ 400 ∧ 0 ≤ m ∧ m ≤ 400 ∧ p.length ≤ 400 := by
  unfold edSmall
  simp only [Bool.and_eq_true, decide_eq_true_eq]
/-- The put of the edit b n q behind the edit a m p, in one. -/
def joinPut (a : Int) (p : List UInt8) (b n : Int) (q : List UInt8) : List UInt8 := p.take (b - a).toNat ++ (q ++ p.drop (b - a + n).toNat)
def joinOk (a m : Int) (p : List UInt8) (b n : Int) (q : List UInt8) : Bool :=
  edSmall a m p && (edSmall b n q && (decide (a ≤ b) && (decide (b + n ≤ a + p.length) && decide ((joinPut a p b n q).length ≤ 400))))
theorem joinOk_iff (a m : Int) (p : List UInt8) (b n : Int) (q : List UInt8) : joinOk a m p b n q = true ↔ edSmall a m p = true ∧ edSmall b n q = true ∧ a ≤ b ∧ b + n ≤ a + p.length ∧ (joinPut a p b n q).length ≤ 400 := by
  unfold joinOk
  simp only [Bool.and_eq_true, decide_eq_true_eq]
def joinA (a m : Int) (p : List UInt8) (b n : Int) (q : List UInt8) : Int := if joinOk a m p b n q = true then a else 0
def joinM (a m : Int) (p : List UInt8) (b n : Int) (q : List UInt8) : Int := if joinOk a m p b n q = true then m else 0
def joinP (a m : Int) (p : List UInt8) (b n : Int) (q : List UInt8) : List UInt8 := if joinOk a m p b n q = true then joinPut a p b n q else []
theorem joinPut_len {a m : Int} {p : List UInt8} {b n : Int} {q : List UInt8} (h1 : edSmall a m p = true) (h2 : edSmall b n q = true) (h3 : a ≤ b) (h4 : b + n ≤ a + p.length) : ((joinPut a p b n q).length : Int) = p.length - n + q.length := by
  have s1 := (edSmall_iff a m p).1 h1
  have s2 := (edSmall_iff b n q).1 h2
  unfold joinPut
  rw [List.length_append, List.length_append, List.length_take, List.length_drop]
  omega
theorem joinP_len (a m : Int) (p : List UInt8) (b n : Int) (q : List UInt8) : (joinP a m p b n q).length ≤ 400 := by
  unfold joinP
  split
  · rename_i h; exact ((joinOk_iff a m p b n q).1 h).2.2.2.2
  · simp

/-- The joined edit has the effect of both. -/
theorem join_text {t : List UInt8} {a m : Int} {p : List UInt8} {b n : Int} {q : List UInt8} (h1 : edOk t a m p = true) (h2 : edOk (edText t a m p) b n q = true) (hj : joinOk a m p b n q = true) :
    edOk t a m (joinPut a p b n q) = true ∧ edText t a m (joinPut a p b n q) = edText (edText t a m p) b n q := by
  obtain ⟨s1, s2, h3, h4, h5⟩ := (joinOk_iff a m p b n q).1 hj
  have r1 := edOk_range h1
  have r2 := edOk_range h2
  have l1 := edText_len h1
  have hl := joinPut_len s1 s2 h3 h4
  obtain ⟨k1, k2, k3, k4, k5, k6⟩ := (edOk_iff t a m p).1 h1
  obtain ⟨g1, g2, g3, g4, g5, g6⟩ := (edOk_iff (edText t a m p) b n q).1 h2
  obtain ⟨t1, t2, t3, t4⟩ := ed_texts h1
  have htk : (t.take a.toNat).length = a.toNat := by rw [List.length_take]; omega
  -- inside what a has put
  have hin : ∀ k : Nat, k ≤ p.length → isBound (edText t a m p) (a + (k : Int)) = true → isBound p (k : Int) = true := by
    intro k hk hb
    have e1 : a + (k : Int) = (((t.take a.toNat).length + k : Nat) : Int) := by rw [htk]; omega
    unfold edText at hb
    rw [e1, isBound_app_right _ _ k (by rw [List.length_append]; omega)] at hb
    by_cases hlt : k < p.length
    · rwa [isBound_app_left p _ k hlt] at hb
    · rw [show k = p.length by omega]; exact isBound_end p
  have b1 : isBound p (((b - a).toNat : Nat) : Int) = true := hin _ (by omega) (by rw [show a + (((b - a).toNat : Nat) : Int) = b by omega]; exact g4)
  have b2 : isBound p (((b - a + n).toNat : Nat) : Int) = true := hin _ (by omega) (by rw [show a + (((b - a + n).toNat : Nat) : Int) = b + n by omega]; exact g5)
  have hput : okS 0 (joinPut a p b n q) = true := by
    unfold joinPut
    exact okS_app _ _ _ (Nat.le_refl _) (okS_take _ p _ (Nat.le_refl _) (by omega) t4 b1) (okS_app _ _ _ (Nat.le_refl _) (isText_ok g3) (okS_of_bound t4 (by omega) b2))
  refine ⟨(edOk_iff _ _ _ _).2 ⟨k1, k2, isText_of h5 hput, k4, k5, by omega⟩, ?_⟩
  have d1 : (edText t a m p).take b.toNat = t.take a.toNat ++ p.take (b - a).toNat := by
    unfold edText
    rw [List.take_append, List.take_of_length_le (by omega), htk, show b.toNat - a.toNat = (b - a).toNat by omega, List.take_append_of_le_length (by omega)]
  have d2 : (edText t a m p).drop (b + n).toNat = p.drop (b - a + n).toNat ++ t.drop (a + m).toNat := by
    unfold edText
    rw [List.drop_append, List.drop_of_length_le (by omega), htk, show (b + n).toNat - a.toNat = (b - a + n).toNat by omega, List.drop_append_of_le_length (by omega), List.nil_append]
  rw [show edText (edText t a m p) b n q = (edText t a m p).take b.toNat ++ (q ++ (edText t a m p).drop (b + n).toNat) from rfl, d1, d2]
  unfold edText joinPut
  simp only [List.append_assoc]

/-- An edit of a list. -/
abbrev Ed := Int × Int × List UInt8
/-- The edits done one behind the other, and how many of them were valid. -/
def edsRun : List UInt8 → List Ed → List UInt8 × Nat
  | t, [] => (t, 0)
  | t, e :: es => if edOk t e.1 e.2.1 e.2.2 = true then ((edsRun (edText t e.1 e.2.1 e.2.2) es).1, (edsRun (edText t e.1 e.2.1 e.2.2) es).2 + 1) else (t, 0)
def edsText (t : List UInt8) (es : List Ed) : List UInt8 := if isText t = true then (edsRun t es).1 else []
def edsN (t : List UInt8) (es : List Ed) : Int := if isText t = true then (edsRun t es).2 else -1
theorem edsRun_le (es : List Ed) : ∀ t, (edsRun t es).2 ≤ es.length := by
  induction es with
  | nil => intro t; exact Nat.le_refl _
  | cons e es ih =>
    intro t
    unfold edsRun
    split
    · have := ih (edText t e.1 e.2.1 e.2.2)
      simp only [List.length_cons]; omega
    · exact Nat.zero_le _
theorem edsRun_text (es : List Ed) : ∀ t, isText t = true → isText (edsRun t es).1 = true := by
  induction es with
  | nil => intro t h; exact h
  | cons e es ih =>
    intro t h
    unfold edsRun
    split
    · rename_i hok; exact ih _ (edText_ok hok)
    · exact h
/-- In two parts as at once. -/
theorem edsRun_split (es : List Ed) : ∀ (t : List UInt8) (k : Nat), k ≤ (edsRun t es).2 →
    (edsRun t (es.take k)).2 = k ∧ (edsRun (edsRun t (es.take k)).1 (es.drop k)).1 = (edsRun t es).1 ∧ (edsRun (edsRun t (es.take k)).1 (es.drop k)).2 + k = (edsRun t es).2 := by
  induction es with
  | nil =>
    intro t k hk
    have : k = 0 := by simpa [edsRun] using hk
    subst this
    exact ⟨rfl, rfl, rfl⟩
  | cons e es ih =>
    intro t k hk
    cases k with
    | zero => exact ⟨rfl, rfl, rfl⟩
    | succ k =>
      rw [List.take_succ_cons, List.drop_succ_cons]
      by_cases h : edOk t e.1 e.2.1 e.2.2 = true
      · have e1 : ∀ l, edsRun t (e :: l) = ((edsRun (edText t e.1 e.2.1 e.2.2) l).1, (edsRun (edText t e.1 e.2.1 e.2.2) l).2 + 1) := fun l => by
          show (if edOk t e.1 e.2.1 e.2.2 = true then _ else _) = _
          rw [if_pos h]
        rw [e1] at hk ⊢
        rw [e1]
        obtain ⟨g1, g2, g3⟩ := ih (edText t e.1 e.2.1 e.2.2) k (by simpa using hk)
        exact ⟨by simp only [g1], g2, by simp only; omega⟩
      · have e1 : ∀ l, edsRun t (e :: l) = (t, 0) := fun l => by
          show (if edOk t e.1 e.2.1 e.2.2 = true then _ else _) = _
          rw [if_neg h]
        rw [e1] at hk
        simp at hk
end P
end Go.Proofs.YtkplfbhblbinaabGreatDoor

/-
  Chapter 6, the mathematics of moved positions, spans, edits and selections. Own work.
-/
namespace Go.Proofs.YtkplfbhblbinaabGreatDoor
namespace P
set_option linter.unusedVariables false

/-- A position that may be moved. -/
def isPlace (p : Int) : Bool := decide (0 ≤ p) && decide (p ≤ 800)
theorem isPlace_iff (p : Int) : isPlace p = true ↔ 0 ≤ p ∧ p ≤ 800 := by unfold isPlace; simp only [Bool.and_eq_true, decide_eq_true_eq]
/-- Where a position goes by an edit that puts n bytes for the m at a, if what it does not leave alone goes to x. -/
def mvTo (p a m n x : Int) : Int := if p < a then p else if p = a ∨ p < a + m then x else p - m + n
def posOk (p a m : Int) (l : List UInt8) : Bool := edSmall a m l && isPlace p
def sideOf (right : Bool) (a n : Int) : Int := if right = true then a + n else a
def posMove (p : Int) (right : Bool) (a m : Int) (l : List UInt8) : Int := if posOk p a m l = true then mvTo p a m l.length (sideOf right a l.length) else -1
def spanOk (i j a m : Int) (l : List UInt8) : Bool := edSmall a m l && (isPlace i && (isPlace j && decide (i ≤ j)))
def spI (i a m n : Int) : Int := mvTo i a m n (a + n)
def spJ (i j a m n : Int) : Int := max (mvTo i a m n (a + n)) (mvTo j a m n a)
def spanI (i j a m : Int) (l : List UInt8) : Int := if spanOk i j a m l = true then spI i a m l.length else -1
def spanJ (i j a m : Int) (l : List UInt8) : Int := if spanOk i j a m l = true then spJ i j a m l.length else -1
def moveOk (a m : Int) (p : List UInt8) (b n : Int) (q : List UInt8) : Bool := edSmall a m p && edSmall b n q
def moveA (a m : Int) (p : List UInt8) (b n : Int) (q : List UInt8) : Int := if moveOk a m p b n q = true then spI a b n q.length else 0
def moveM (a m : Int) (p : List UInt8) (b n : Int) (q : List UInt8) : Int := if moveOk a m p b n q = true then spJ a (a + m) b n q.length - spI a b n q.length else 0
def moveP (a m : Int) (p : List UInt8) (b n : Int) (q : List UInt8) : List UInt8 := if moveOk a m p b n q = true then p else []
def hits (a m : Int) (l : List UInt8) (i j : Int) : Bool := edSmall a m l && (isPlace i && (isPlace j && (decide (i < j) && (decide (a < j) && decide (i < a + m)))))
def apart (a m : Int) (p : List UInt8) (b n : Int) (q : List UInt8) : Bool := edSmall a m p && (edSmall b n q && (decide (a + m < b) || decide (b + n < a)))
def selMvOk (f t a m : Int) (l : List UInt8) : Bool := edSmall a m l && (isPlace f && isPlace t)
def selF (f t a m : Int) (l : List UInt8) (own : Bool) : Int := if selMvOk f t a m l = true then mvTo f a m l.length (sideOf (own || decide (t < f)) a l.length) else 0
def selT (f t a m : Int) (l : List UInt8) (own : Bool) : Int := if selMvOk f t a m l = true then mvTo t a m l.length (sideOf (own || decide (f < t)) a l.length) else 0

theorem sideOf_bd (r : Bool) (a n : Int) (hn : 0 ≤ n) : a ≤ sideOf r a n ∧ sideOf r a n ≤ a + n := by unfold sideOf; split <;> omega
theorem mvTo_bd {p a m n x : Int} (hp : 0 ≤ p) (ha : 0 ≤ a) (hm : 0 ≤ m) (hn : 0 ≤ n) (hx : a ≤ x) (hx2 : x ≤ a + n) : 0 ≤ mvTo p a m n x ∧ mvTo p a m n x ≤ p + a + n := by
  unfold mvTo; split
  · omega
  · split <;> omega
theorem mvTo_le {p q a m n x y : Int} (hm : 0 ≤ m) (hn : 0 ≤ n) (hx : a ≤ x) (hxy : x ≤ y) (hy : y ≤ a + n) (hpq : p ≤ q) : mvTo p a m n x ≤ mvTo q a m n y := by
  unfold mvTo
  split
  · split
    · omega
    · split <;> omega
  · split
    · split
      · omega
      · split <;> omega
    · split
      · omega
      · split <;> omega
theorem posMove_neg {p a m : Int} {l : List UInt8} {r : Bool} : posMove p r a m l < 0 ↔ posOk p a m l = false := by
  unfold posMove
  split
  · rename_i h
    unfold posOk at h
    rw [Bool.and_eq_true, edSmall_iff, isPlace_iff] at h
    have h1 := sideOf_bd r a l.length (by omega)
    have h2 := mvTo_bd (p := p) (a := a) (m := m) (n := l.length) (x := sideOf r a l.length) (by omega) (by omega) (by omega) (by omega) h1.1 h1.2
    have h3 : posOk p a m l = true := by unfold posOk; rw [Bool.and_eq_true, edSmall_iff, isPlace_iff]; exact h
    rw [h3]
    constructor
    · intro h4; omega
    · intro h4; cases h4
  · rename_i h
    simp only [Bool.not_eq_true] at h
    rw [h]; simp
theorem moveOk_span {a m : Int} {p : List UInt8} {b n : Int} {q : List UInt8} (h : moveOk a m p b n q = true) : spanOk a (a + m) b n q = true ∧ spanI a (a + m) b n q = moveA a m p b n q ∧ spanJ a (a + m) b n q - spanI a (a + m) b n q = moveM a m p b n q := by
  have h' := h
  unfold moveOk at h
  rw [Bool.and_eq_true] at h
  have s := (edSmall_iff a m p).1 h.1
  have hs : spanOk a (a + m) b n q = true := by
    unfold spanOk
    rw [h.2, Bool.true_and, Bool.and_eq_true, isPlace_iff, Bool.and_eq_true, isPlace_iff, decide_eq_true_eq]
    omega
  unfold spanI spanJ moveA moveM
  rw [hs, h']
  exact ⟨rfl, rfl, rfl⟩
theorem spI_bd {i a m n : Int} (hp : 0 ≤ i) (ha : 0 ≤ a) (hm : 0 ≤ m) (hn : 0 ≤ n) : 0 ≤ spI i a m n ∧ spI i a m n ≤ i + a + n := mvTo_bd hp ha hm hn (by omega) (by omega)
theorem spJ_bd {i j a m n : Int} (hp : 0 ≤ i) (hij : i ≤ j) (ha : 0 ≤ a) (hm : 0 ≤ m) (hn : 0 ≤ n) : spI i a m n ≤ spJ i j a m n ∧ spJ i j a m n ≤ j + a + n := by
  have h1 := mvTo_bd (p := i) (x := a + n) hp ha hm hn (by omega) (by omega)
  have h2 := mvTo_bd (p := j) (x := a) (by omega) ha hm hn (by omega) (by omega)
  unfold spI spJ
  omega
/-- An empty span stays empty. -/
theorem spJ_same {i a m n : Int} (hm : 0 ≤ m) (hn : 0 ≤ n) : spJ i i a m n = spI i a m n := by
  have := mvTo_le (p := i) (q := i) (a := a) (m := m) (n := n) (x := a) (y := a + n) hm hn (by omega) (by omega) (by omega) (by omega)
  unfold spI spJ
  omega

/-- A boundary goes to a boundary. -/
theorem bound_moved {t : List UInt8} {b n : Int} {q : List UInt8} (h : edOk t b n q = true) {p x : Int} (hx : x = b ∨ x = b + q.length) (hp : isBound t p = true) : isBound (edText t b n q) (mvTo p b n q.length x) = true := by
  obtain ⟨h1, h2, h3, h4⟩ := ed_texts h
  have hr := edOk_range h
  have hpr := isBound_range hp
  have htk : ((t.take b.toNat).length : Int) = b := by rw [List.length_take]; omega
  unfold mvTo
  split
  · rename_i hlt
    obtain ⟨k, rfl⟩ : ∃ k : Nat, p = (k : Int) := ⟨p.toNat, by omega⟩
    unfold edText
    rw [isBound_app_left _ _ k (by omega)]
    have e : t = t.take b.toNat ++ t.drop b.toNat := (List.take_append_drop _ _).symm
    rw [e, isBound_app_left _ _ k (by omega)] at hp
    exact hp
  · split
    · rcases hx with rfl | rfl
      · have := bound_join (x := t.take x.toNat) (okS_app _ _ _ (Nat.le_refl _) h4 h3)
        rw [htk] at this
        exact this
      · have := bound_join (x := t.take b.toNat ++ q) h3
        rw [List.append_assoc, List.length_append, Int.natCast_add, htk] at this
        exact this
    · rename_i h5 h6
      obtain ⟨k, hk⟩ : ∃ k : Nat, p = b + n + (k : Int) := ⟨(p - b - n).toNat, by omega⟩
      subst hk
      have hd := isBound_drop t (b + n).toNat k (by omega) (by omega)
      rw [show (((b + n).toNat + k : Nat) : Int) = b + n + k by omega, hp] at hd
      have := isBound_app_right (t.take b.toNat ++ q) (t.drop (b + n).toNat) k (by rw [List.length_drop]; omega)
      rw [hd, List.append_assoc, List.length_append] at this
      unfold edText
      rw [show b + n + (k : Int) - n + q.length = (((t.take b.toNat).length + q.length + k : Nat) : Int) by omega]
      exact this

theorem take_app9 {α : Type} {x y : List α} {k : Nat} (h : x.length ≤ k) : (x ++ y).take k = x ++ y.take (k - x.length) := by rw [List.take_append, List.take_of_length_le h]
theorem drop_app9 {α : Type} {x y : List α} {k : Nat} (h : x.length ≤ k) : (x ++ y).drop k = y.drop (k - x.length) := by rw [List.drop_append, List.drop_of_length_le h, List.nil_append]
/-- Two edits that are apart: in either order the same. -/
theorem apart_text {t : List UInt8} {a m : Int} {p : List UInt8} {b n : Int} {q : List UInt8} (he : edOk t a m p = true) (hb : edOk t b n q = true) (hl : a + m < b) :
    edText (edText t a m p) (b - m + p.length) n q = edText (edText t b n q) a m p := by
  have hr := edOk_range he
  have hs := edOk_range hb
  have htk : (t.take a.toNat).length = a.toNat := by rw [List.length_take]; omega
  have htb : (t.take b.toNat).length = b.toNat := by rw [List.length_take]; omega
  have e1 : (edText t a m p).take (b - m + p.length).toNat = t.take a.toNat ++ (p ++ (t.drop (a + m).toNat).take (b - a - m).toNat) := by
    unfold edText
    rw [take_app9 (by omega), take_app9 (by omega), htk, show (b - m + (p.length : Int)).toNat - a.toNat - p.length = (b - a - m).toNat by omega]
  have e2 : (edText t a m p).drop (b - m + p.length + n).toNat = t.drop (b + n).toNat := by
    unfold edText
    rw [drop_app9 (by omega), drop_app9 (by omega), List.drop_drop]
    congr 1
    omega
  have e3 : (edText t b n q).take a.toNat = t.take a.toNat := by
    unfold edText
    rw [List.take_append_of_le_length (by omega), List.take_take, Nat.min_eq_left (by omega)]
  have e4 : (edText t b n q).drop (a + m).toNat = (t.drop (a + m).toNat).take (b - a - m).toNat ++ (q ++ t.drop (b + n).toNat) := by
    unfold edText
    rw [List.drop_append_of_le_length (by omega), List.drop_take, show b.toNat - (a + m).toNat = (b - a - m).toNat by omega]
  rw [show edText (edText t a m p) (b - m + p.length) n q = (edText t a m p).take (b - m + p.length).toNat ++ (q ++ (edText t a m p).drop (b - m + p.length + n).toNat) from rfl, e1, e2]
  rw [show edText (edText t b n q) a m p = (edText t b n q).take a.toNat ++ (p ++ (edText t b n q).drop (a + m).toNat) from rfl, e3, e4]
  simp only [List.append_assoc]
theorem apart_moves {a m b n : Int} {x y : Int} (ha : 0 ≤ a) (hm : 0 ≤ m) (hn : 0 ≤ n) (hx : 0 ≤ x) (hy : 0 ≤ y) (hl : a + m < b) :
    spI a b n y = a ∧ spJ a (a + m) b n y - spI a b n y = m ∧ spI b a m x = b - m + x ∧ spJ b (b + n) a m x - spI b a m x = n := by
  unfold spI spJ mvTo
  rw [if_pos (show a < b by omega), if_pos (show a + m < b by omega), if_neg (show ¬ b < a by omega), if_neg (show ¬ (b = a ∨ b < a + m) by omega), if_neg (show ¬ b + n < a by omega), if_neg (show ¬ (b + n = a ∨ b + n < a + m) by omega)]
  omega

/-- An edit moved by another. -/
def mvd (e b : Ed) : Ed := (moveA e.1 e.2.1 e.2.2 b.1 b.2.1 b.2.2, moveM e.1 e.2.1 e.2.2 b.1 b.2.1 b.2.2, moveP e.1 e.2.1 e.2.2 b.1 b.2.1 b.2.2)
/-- An edit moved by each of a list. -/
def mvRun : Ed → List Ed → Ed × Bool
  | e, [] => (e, true)
  | e, b :: bs => if moveOk e.1 e.2.1 e.2.2 b.1 b.2.1 b.2.2 = true then mvRun (mvd e b) bs else ((0, 0, []), false)
def moves (e : Ed) (es : List Ed) : Ed × Bool := if edSmall e.1 e.2.1 e.2.2 = true then mvRun e es else ((0, 0, []), false)
theorem mvd_p {e b : Ed} (h : moveOk e.1 e.2.1 e.2.2 b.1 b.2.1 b.2.2 = true) : (mvd e b).2.2 = e.2.2 := by unfold mvd moveP; rw [h]; rfl
theorem mvRun_len (es : List Ed) : ∀ e, (mvRun e es).1.2.2.length ≤ e.2.2.length := by
  induction es with
  | nil => intro e; exact Nat.le_refl _
  | cons b es ih =>
    intro e
    unfold mvRun
    split
    · rename_i h
      have := ih (mvd e b)
      rwa [mvd_p h] at this
    · exact Nat.zero_le _
theorem moves_len (e : Ed) (es : List Ed) : (moves e es).1.2.2.length ≤ 400 := by
  unfold moves
  split
  · rename_i h
    have := mvRun_len es e
    have := (edSmall_iff _ _ _).1 h
    omega
  · exact Nat.zero_le _
/-- In two parts as at once. -/
theorem mvRun_split (es : List Ed) : ∀ (e : Ed) (k : Nat), k ≤ es.length → (mvRun e es).2 = true →
    (mvRun e (es.take k)).2 = true ∧ mvRun (mvRun e (es.take k)).1 (es.drop k) = mvRun e es := by
  induction es with
  | nil => intro e k hk h; simp at hk; subst hk; exact ⟨rfl, rfl⟩
  | cons b es ih =>
    intro e k hk h
    cases k with
    | zero => exact ⟨rfl, rfl⟩
    | succ k =>
      rw [List.take_succ_cons, List.drop_succ_cons]
      by_cases hm : moveOk e.1 e.2.1 e.2.2 b.1 b.2.1 b.2.2 = true
      · have e1 : ∀ l, mvRun e (b :: l) = mvRun (mvd e b) l := fun l => by
          show (if moveOk e.1 e.2.1 e.2.2 b.1 b.2.1 b.2.2 = true then _ else _) = _
          rw [if_pos hm]
        rw [e1] at h ⊢
        rw [e1]
        exact ih (mvd e b) k (by simpa using hk) h
      · have e1 : mvRun e (b :: es) = ((0, 0, []), false) := by
          show (if moveOk e.1 e.2.1 e.2.2 b.1 b.2.1 b.2.2 = true then _ else _) = _
          rw [if_neg hm]
        rw [e1] at h; cases h
/-- If more is to come, the edit is small. -/
theorem mvRun_small {e : Ed} {es : List Ed} (h : (mvRun e es).2 = true) (hne : es ≠ []) : edSmall e.1 e.2.1 e.2.2 = true := by
  cases es with
  | nil => exact absurd rfl hne
  | cons b es =>
    unfold mvRun at h
    split at h
    · rename_i hm; unfold moveOk at hm; rw [Bool.and_eq_true] at hm; exact hm.1
    · cases h
end P
end Go.Proofs.YtkplfbhblbinaabGreatDoor

/-
  Chapter 8, plain: undo stacks as two lists of edits. Own work.
-/
namespace Go.Proofs.YtkplfbhblbinaabGreatDoor
open Go.RowKit P
set_option linter.unusedVariables false

def smallE (e : Ed) : Bool := edSmall e.1 e.2.1 e.2.2
/-- A list that a stack may hold. -/
def stFit (es : List Ed) : Bool := decide (es.length ≤ 6) && es.all smallE
def stOk (u r : List Ed) : Bool := stFit u && stFit r
theorem stFit_len {es : List Ed} (h : stFit es = true) : es.length ≤ 6 := by
  unfold stFit at h
  rw [Bool.and_eq_true] at h
  exact of_decide_eq_true h.1
theorem stFit_all {es : List Ed} (h : stFit es = true) : ∀ e ∈ es, smallE e = true := by
  unfold stFit at h
  rw [Bool.and_eq_true] at h
  exact List.all_eq_true.1 h.2
theorem stFit_of {es : List Ed} (hl : es.length ≤ 6) (h : ∀ e ∈ es, smallE e = true) : stFit es = true := by
  unfold stFit
  rw [Bool.and_eq_true]
  exact ⟨decide_eq_true hl, List.all_eq_true.2 h⟩
theorem stFit_big {es : List Ed} (h : ¬ es.length ≤ 6) : stFit es = false := by unfold stFit; rw [decide_eq_false h]; rfl
theorem stFit_bad {es : List Ed} {k : Nat} (hk : k < es.length) (h : smallE es[k] = false) : stFit es = false := by
  cases hf : stFit es
  · rfl
  · rw [stFit_all hf _ (List.getElem_mem hk)] at h; cases h
theorem stFit_yes {es : List Ed} (hl : es.length ≤ 6) : stFit es = es.all smallE := by unfold stFit; rw [decide_eq_true hl]; rfl

/-- A list with one more on top; a full one drops its oldest. -/
def topE (es : List Ed) (e : Ed) : List Ed := if es.length < 6 then es ++ [e] else (es ++ [e]).drop 1
theorem topE_full {es : List Ed} {e : Ed} (h : es.length = 6) : topE es e = es.drop 1 ++ [e] := by
  unfold topE
  rw [if_neg (by omega), List.drop_append_of_le_length (by omega)]
theorem topE_room {es : List Ed} {e : Ed} (h : es.length < 6) : topE es e = es ++ [e] := by unfold topE; rw [if_pos h]
theorem topE_len {es : List Ed} (e : Ed) (h : es.length ≤ 6) : (topE es e).length ≤ 6 := by
  unfold topE
  split
  · rw [List.length_append, List.length_singleton]; omega
  · rw [List.length_drop, List.length_append, List.length_singleton]; omega
def lastE (es : List Ed) : Ed := es.getLastD (0, 0, [])
/-- What StackPush, StackTop, StackTurn, StackMoved give; the flag last. -/
def pushOk (u r : List Ed) (e : Ed) : Bool := stOk u r && smallE e
def pushU (u r : List Ed) (e : Ed) : List Ed := if pushOk u r e = true then topE u e else []
def sideE (u r : List Ed) (redo : Bool) : List Ed := if redo = true then r else u
def topOk (u r : List Ed) (redo : Bool) : Bool := stOk u r && decide (0 < (sideE u r redo).length)
def topV (u r : List Ed) (redo : Bool) : Ed := if topOk u r redo = true then lastE (sideE u r redo) else (0, 0, [])
def turnOk (u r : List Ed) (redo : Bool) (e : Ed) : Bool := topOk u r redo && smallE e
def turnU (u r : List Ed) (redo : Bool) (e : Ed) : List Ed := if turnOk u r redo e = true then (if redo = true then topE u e else u.take (u.length - 1)) else []
def turnR (u r : List Ed) (redo : Bool) (e : Ed) : List Ed := if turnOk u r redo e = true then (if redo = true then r.take (r.length - 1) else topE r e) else []
end Go.Proofs.YtkplfbhblbinaabGreatDoor
