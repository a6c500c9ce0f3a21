/-
  Chapter 1 in plain Lean: encodings of code points and texts as lists of bytes. No program here. Own work.
  Chapter 1 in plain Lean, the second part: decoding, texts, boundaries. No program here. Own work.
  Chapter 1 in plain Lean, the third part: encodings, and that decoding by weighing and comparing is decoding by forms. No program here. Own work.
-/
import Derived.PlainAid
namespace Go.Proofs.YtgpjjolgpppeeaaDoor.P

/-- The length of the encoding of r, 0 where r is no code point. -/
def codeSz (r : Int) : Nat :=
  if r < 0 ∨ 1114111 < r ∨ (55296 ≤ r ∧ r ≤ 57343) then 0 else if r < 128 then 1 else if r < 2048 then 2 else if r < 65536 then 3 else 4

theorem codeSz_le (r : Int) : codeSz r ≤ 4 := by unfold codeSz; split <;> (try split) <;> (try split) <;> (try split) <;> omega

/-- The length of the encodings that start with the byte b. -/
def formSz (b : Nat) : Nat := if b < 128 then 1 else if b < 192 then 0 else if b < 224 then 2 else if b < 240 then 3 else if b < 248 then 4 else 0

def isCont (b : Nat) : Bool := decide (128 ≤ b ∧ b < 192)

/-- For a text: is the offset the first byte of a code point, or the end? -/
def isBound (l : List UInt8) (at_ : Int) : Bool :=
  decide (0 ≤ at_ ∧ at_ ≤ l.length) && (decide (at_ = l.length) || !isCont (l.getD at_.toNat 0).toNat)

theorem isBound_out (l : List UInt8) (at_ : Int) (h : at_ < 0 ∨ (l.length : Int) < at_) : isBound l at_ = false := by
  unfold isBound; rw [decide_eq_false (by omega)]; rfl
theorem isBound_end (l : List UInt8) : isBound l l.length = true := by
  unfold isBound; rw [decide_eq_true (by omega), decide_eq_true rfl]; rfl
theorem isBound_lt (l : List UInt8) (k : Nat) (h : k < l.length) : isBound l k = !isCont (l[k]).toNat := by
  unfold isBound; rw [decide_eq_true (by omega), decide_eq_false (by omega)]; simp [h]

/-- One byte more of an encoding. -/
def addC (r : Int) (b : Nat) : Int := if r < 0 ∨ isCont b = false then -1 else r * 64 + ((b % 64 : Nat) : Int)

theorem addC_bd (r : Int) (b : Nat) (m : Int) (h0 : 0 ≤ m) (h : r ≤ m) : addC r b ≤ 64 * m + 63 := by
  unfold addC; split <;> omega

end Go.Proofs.YtgpjjolgpppeeaaDoor.P

namespace Go.Proofs.YtgpjjolgpppeeaaDoor.P

def leadM (s : Nat) : Int := if s = 2 then 192 else if s = 3 then 224 else if s = 4 then 240 else 0

/-- The code point whose encoding the bytes begin with, or -1. -/
def decL : List UInt8 → Int
  | [] => -1
  | b :: u =>
    let s := formSz b.toNat
    if s = 0 ∨ u.length + 1 < s then -1
    else
      let r := (u.take (s - 1)).foldl (fun r x => addC r x.toNat) ((b.toNat : Int) - leadM s)
      if codeSz r = s then r else -1

def sz (l : List UInt8) : Nat := codeSz (decL l)

def runeAt (l : List UInt8) (at_ : Int) : Int := if at_ < 0 ∨ (l.length : Int) ≤ at_ then -1 else decL (l.drop at_.toNat)

def runeSize (l : List UInt8) (at_ : Int) : Nat := codeSz (runeAt l at_)

/-- With s bytes left of a code point that has begun, the rest is a text. -/
def okS : Nat → List UInt8 → Bool
  | 0, [] => true
  | _ + 1, [] => false
  | 0, b :: t => decide (sz (b :: t) ≠ 0) && okS (sz (b :: t) - 1) t
  | s + 1, _ :: t => okS s t

def isText (l : List UInt8) : Bool := decide (l.length ≤ 400) && okS 0 l

def cuts (l : List UInt8) : List Nat := (List.range (l.length + 1)).filter fun k : Nat => isBound l k

def placeIn : Option Nat → Int
  | some p => (p : Int)
  | none => -1

def placeOf (l : List UInt8) (n : Int) : Int := if isText l = true ∧ 0 ≤ n then placeIn (cuts l)[n.toNat]? else -1

def runesBefore (l : List UInt8) (k : Nat) : Nat := ((List.range k).filter fun k : Nat => isBound l k).length

def runesTo (l : List UInt8) (at_ : Int) : Int := if isText l = true ∧ isBound l at_ = true then (runesBefore l at_.toNat : Int) else -1

def cutOk (l : List UInt8) (at_ : Int) : Bool := isText l && isBound l at_

def runeCount (l : List UInt8) : Int := runesTo l l.length

/-! ### facts -/
theorem codeSz_neg : codeSz (-1) = 0 := rfl

theorem decL_cases (b : UInt8) (u : List UInt8) :
    decL (b :: u) = -1 ∨ (formSz b.toNat ≠ 0 ∧ formSz b.toNat ≤ u.length + 1 ∧ codeSz (decL (b :: u)) = formSz b.toNat ∧
      decL (b :: u) = (u.take (formSz b.toNat - 1)).foldl (fun r x => addC r x.toNat) ((b.toNat : Int) - leadM (formSz b.toNat))) := by
  simp only [decL]
  by_cases h : formSz b.toNat = 0 ∨ u.length + 1 < formSz b.toNat
  · rw [if_pos h]; exact .inl rfl
  · rw [if_neg h]
    split
    · rename_i e
      exact .inr ⟨by omega, by omega, e, rfl⟩
    · exact .inl rfl

theorem sz_le (l : List UInt8) : sz l ≤ l.length := by
  unfold sz
  cases l with
  | nil => simp [decL, codeSz_neg]
  | cons b u =>
    rcases decL_cases b u with h | ⟨h1, h2, h3, h4⟩
    · rw [h, codeSz_neg]; omega
    · rw [h3]; simpa using h2

theorem sz_pos_form {b : UInt8} {u : List UInt8} (h : sz (b :: u) ≠ 0) : sz (b :: u) = formSz b.toNat ∧ isCont b.toNat = false := by
  unfold sz at h ⊢
  rcases decL_cases b u with e | ⟨h1, h2, h3, h4⟩
  · rw [e, codeSz_neg] at h; exact absurd rfl h
  · refine ⟨h3, ?_⟩
    unfold formSz at h1
    unfold isCont
    simp only [decide_eq_false_iff_not]
    intro hc
    rw [if_neg (by omega), if_pos (by omega)] at h1
    exact h1 rfl

theorem foldl_neg (l : List UInt8) : l.foldl (fun r x => addC r x.toNat) (-1) = -1 := by
  induction l with
  | nil => rfl
  | cons x t ih => simp only [List.foldl_cons]; rw [show addC (-1) x.toNat = -1 from rfl, ih]

theorem foldl_cont (l : List UInt8) (r : Int) (h : l.foldl (fun r x => addC r x.toNat) r ≠ -1) : ∀ x ∈ l, isCont x.toNat = true := by
  induction l generalizing r with
  | nil => intro x hx; cases hx
  | cons y t ih =>
    intro x hx
    simp only [List.foldl_cons] at h
    have hy : isCont y.toNat = true := by
      cases e : isCont y.toNat with
      | true => rfl
      | false =>
        have : addC r y.toNat = -1 := by unfold addC; rw [if_pos (.inr e)]
        rw [this, foldl_neg] at h
        exact absurd rfl h
    cases hx with
    | head => exact hy
    | tail _ hm => exact ih _ h x hm

/-- The bytes behind the first of a code point continue it. -/
theorem sz_conts {b : UInt8} {u : List UInt8} (h : sz (b :: u) ≠ 0) : ∀ x ∈ u.take (sz (b :: u) - 1), isCont x.toNat = true := by
  have hs := (sz_pos_form h).1
  unfold sz at h
  rcases decL_cases b u with e | ⟨h1, h2, h3, h4⟩
  · rw [e, codeSz_neg] at h; exact absurd rfl h
  · rw [hs]
    refine foldl_cont _ ((b.toNat : Int) - leadM (formSz b.toNat)) ?_
    intro e
    rw [← h4] at e
    rw [e, codeSz_neg] at h3
    omega

theorem okS_drop (s : Nat) (t : List UInt8) (h : s ≤ t.length) : okS s t = okS 0 (t.drop s) := by
  induction s generalizing t with
  | zero => simp
  | succ s ih =>
    cases t with
    | nil => simp at h
    | cons b t => simp only [okS, List.drop_succ_cons]; exact ih t (by simpa using h)

theorem okS_step {t : List UInt8} (hne : t ≠ []) : okS 0 t = (decide (sz t ≠ 0) && okS 0 (t.drop (sz t))) := by
  cases t with
  | nil => exact absurd rfl hne
  | cons b u =>
    simp only [okS]
    by_cases h : sz (b :: u) = 0
    · simp [h]
    · have hle := sz_le (b :: u)
      rw [okS_drop _ _ (by simp at hle; omega)]
      congr 2
      conv => rhs; rw [show sz (b :: u) = (sz (b :: u) - 1) + 1 by omega]
      rfl

/-- Where a code point starts, a boundary is; within it there is none. -/
theorem bound_sz {l : List UInt8} {p : Nat} (hp : p < l.length) (h : sz (l.drop p) ≠ 0) :
    p + sz (l.drop p) ≤ l.length ∧ isBound l p = true ∧ ∀ j, p < j → j < p + sz (l.drop p) → isBound l j = false := by
  have hle := sz_le (l.drop p)
  rw [List.length_drop] at hle
  have hd : l.drop p = l[p] :: l.drop (p + 1) := List.drop_eq_getElem_cons hp
  refine ⟨by omega, ?_, ?_⟩
  · rw [isBound_lt l p hp]
    have h1 := h
    rw [hd] at h1
    rw [(sz_pos_form h1).2]; rfl
  · intro j h1 h2
    rw [isBound_lt l j (by omega)]
    have h3 := h
    rw [hd] at h2 h3
    have := sz_conts h3 l[j] (by
      rw [List.mem_iff_getElem]
      refine ⟨j - (p + 1), by simp; omega, ?_⟩
      simp only [List.getElem_take, List.getElem_drop]
      congr 1
      omega)
    rw [this]; rfl

/-- At a place from which the rest is a text, a code point starts; within it no other does. -/
theorem bound_here {l : List UInt8} {p : Nat} (hp : p < l.length) (h : okS 0 (l.drop p) = true) :
    sz (l.drop p) ≠ 0 ∧ p + sz (l.drop p) ≤ l.length ∧ okS 0 (l.drop (p + sz (l.drop p))) = true ∧ isBound l p = true ∧ ∀ j, p < j → j < p + sz (l.drop p) → isBound l j = false := by
  have hne : l.drop p ≠ [] := by intro e; have := congrArg List.length e; simp at this; omega
  rw [okS_step hne] at h
  simp only [Bool.and_eq_true, decide_eq_true_eq, List.drop_drop] at h
  obtain ⟨h1, h2, h3⟩ := bound_sz hp h.1
  exact ⟨h.1, h1, h.2, h2, h3⟩

theorem filter_step {l : List UInt8} {p : Nat} (hp : p < l.length) (h1 : sz (l.drop p) ≠ 0) :
    (List.range (p + sz (l.drop p))).filter (fun k : Nat => isBound l k) = (List.range p).filter (fun k : Nat => isBound l k) ++ [p] := by
  obtain ⟨h2, h4, h5⟩ := bound_sz hp h1
  have e : p + sz (l.drop p) = p + 1 + (sz (l.drop p) - 1) := by omega
  rw [e, List.range_add, List.filter_append, List.range_succ, List.filter_append]
  have e1 : ([p].filter fun k : Nat => isBound l k) = [p] := by simp [h4]
  have e2 : (((List.range (sz (l.drop p) - 1)).map (p + 1 + ·)).filter fun k : Nat => isBound l k) = [] := by
    rw [List.filter_eq_nil_iff]
    intro j hj
    simp only [List.mem_map, List.mem_range] at hj
    obtain ⟨i, hi, rfl⟩ := hj
    rw [h5 _ (by omega) (by omega)]
    simp
  rw [e1, e2, List.append_nil]

theorem filter_end (l : List UInt8) : (List.range (l.length + 1)).filter (fun k : Nat => isBound l k) = (List.range l.length).filter (fun k : Nat => isBound l k) ++ [l.length] := by
  rw [List.range_succ, List.filter_append]
  congr 1
  simp [isBound_end]

theorem filter_at (q : Nat → Bool) (n : Nat) : ∀ i k, ((List.range n).filter q)[i]? = some k → q k = true ∧ k < n ∧ ((List.range k).filter q).length = i := by
  induction n with
  | zero => intro i k h; simp at h
  | succ n ih =>
    intro i k h
    rw [List.range_succ, List.filter_append] at h
    by_cases hi : i < ((List.range n).filter q).length
    · rw [List.getElem?_append_left hi] at h
      obtain ⟨a, b, c⟩ := ih i k h
      exact ⟨a, by omega, c⟩
    · rw [List.getElem?_append_right (by omega)] at h
      by_cases hq : q n = true
      · have e : [n].filter q = [n] := by simp [hq]
        rw [e] at h
        have hz : i - ((List.range n).filter q).length = 0 := by
          rcases Nat.eq_zero_or_pos (i - ((List.range n).filter q).length) with h0 | h0
          · exact h0
          · rw [List.getElem?_eq_none (by simp; omega)] at h; cases h
        rw [hz] at h
        simp only [List.getElem?_cons_zero, Option.some.injEq] at h
        subst h
        exact ⟨hq, by omega, by omega⟩
      · have e : [n].filter q = [] := by simp [hq]
        rw [e] at h
        simp at h

theorem filter_find (q : Nat → Bool) (n k : Nat) (hk : k < n) (hq : q k = true) : ((List.range n).filter q)[((List.range k).filter q).length]? = some k := by
  have e : n = k + (n - k - 1 + 1) := by omega
  conv => lhs; rw [e]
  rw [List.range_add, List.filter_append, List.range_succ_eq_map, List.getElem?_append_right (Nat.le_refl _)]
  simp [hq]

theorem cuts_pos (l : List UInt8) : 0 < (cuts l).length := by
  unfold cuts
  rw [filter_end]
  simp

theorem cuts_length (l : List UInt8) : (cuts l).length = runesBefore l l.length + 1 := by
  unfold cuts
  rw [filter_end]
  simp [runesBefore]

def cutsOr (l : List UInt8) : List Nat := if isText l = true then cuts l else []

theorem isText_cuts (l : List UInt8) : isText l = decide (0 < (cutsOr l).length) := by
  unfold cutsOr
  by_cases h : isText l = true
  · rw [if_pos h, decide_eq_true (cuts_pos l), h]
  · rw [if_neg h]; simpa using h

theorem runeCount_cuts (l : List UInt8) : runeCount l = ((cutsOr l).length : Int) - 1 := by
  unfold runeCount runesTo cutsOr
  by_cases h : isText l = true
  · rw [if_pos ⟨h, isBound_end l⟩, if_pos h, cuts_length, Int.toNat_natCast]; omega
  · rw [if_neg (fun x => h x.1), if_neg h]; simp

theorem placeOf_out (l : List UInt8) (n : Int) (h : n < 0 ∨ ((cutsOr l).length : Int) ≤ n) : placeOf l n = -1 := by
  unfold placeOf
  by_cases hc : isText l = true ∧ 0 ≤ n
  · rw [if_pos hc]
    have e : cutsOr l = cuts l := by unfold cutsOr; rw [if_pos hc.1]
    rw [e] at h
    rw [List.getElem?_eq_none (by omega)]
    rfl
  · rw [if_neg hc]

theorem placeOf_in (l : List UInt8) (n : Nat) (h : n < (cutsOr l).length) : placeOf l n = ((cutsOr l)[n] : Nat) := by
  have ht : isText l = true := by rw [isText_cuts]; simp; omega
  have e : cutsOr l = cuts l := by unfold cutsOr; rw [if_pos ht]
  unfold placeOf
  rw [if_pos ⟨ht, by omega⟩, Int.toNat_natCast]
  have h2 : (cuts l)[n]? = some ((cutsOr l)[n]) := by rw [← e]; exact List.getElem?_eq_getElem h
  rw [h2]
  rfl

theorem runesTo_found (l : List UInt8) (i : Nat) (h : i < (cutsOr l).length) : runesTo l ((cutsOr l)[i] : Nat) = i := by
  have ht : isText l = true := by rw [isText_cuts]; simp; omega
  have e : cutsOr l = cuts l := by unfold cutsOr; rw [if_pos ht]
  have h2 : (cuts l)[i]? = some ((cutsOr l)[i]) := by rw [← e]; exact List.getElem?_eq_getElem h
  obtain ⟨a, b, c⟩ := filter_at (fun k : Nat => isBound l k) _ _ _ h2
  unfold runesTo
  rw [if_pos ⟨ht, a⟩, Int.toNat_natCast]
  unfold runesBefore
  omega

theorem runesTo_none (l : List UInt8) (a : Int) (h : ∀ i (h : i < (cutsOr l).length), ((cutsOr l)[i] : Int) ≠ a) : runesTo l a = -1 := by
  unfold runesTo
  rw [if_neg]
  rintro ⟨ht, hb⟩
  have hr : 0 ≤ a ∧ a ≤ l.length := by
    have := hb; unfold isBound at this; simp only [Bool.and_eq_true, decide_eq_true_eq] at this; exact this.1
  obtain ⟨k, rfl⟩ := Int.eq_ofNat_of_zero_le hr.1
  have e : cutsOr l = cuts l := by unfold cutsOr; rw [if_pos ht]
  have := filter_find (fun k : Nat => isBound l k) (l.length + 1) k (by omega) hb
  obtain ⟨hi, hx⟩ := List.getElem?_eq_some_iff.1 this
  have hi2 : ((List.range k).filter fun k : Nat => isBound l k).length < (cutsOr l).length := by rw [e]; exact hi
  refine h _ hi2 ?_
  have : (cutsOr l)[((List.range k).filter fun k : Nat => isBound l k).length] = k := by
    simp only [e]
    exact hx
  omega

theorem cutOk_runesTo (l : List UInt8) (a : Int) : cutOk l a = decide (0 ≤ runesTo l a) := by
  unfold cutOk runesTo
  by_cases h : isText l = true ∧ isBound l a = true
  · rw [if_pos h, h.1, h.2, decide_eq_true (by omega)]; rfl
  · rw [if_neg h]
    cases h1 : isText l <;> cases h2 : isBound l a <;> simp_all

end Go.Proofs.YtgpjjolgpppeeaaDoor.P

namespace Go.Proofs.YtgpjjolgpppeeaaDoor.P

def u8 (x : Int) : UInt8 := UInt8.ofNat x.toNat

theorem u8_toNat (x : Int) (h0 : 0 ≤ x) (h1 : x < 256) : ((u8 x).toNat : Int) = x := by
  unfold u8
  rw [UInt8.toNat_ofNat']
  omega

/-- The encoding of a code point, empty where r is none. -/
def enc (r : Int) : List UInt8 :=
  match codeSz r with
  | 0 => []
  | 1 => [u8 r]
  | 2 => [u8 (192 + r / 64), u8 (128 + r % 64)]
  | 3 => [u8 (224 + r / 4096), u8 (128 + r / 64 % 64), u8 (128 + r % 64)]
  | _ => [u8 (240 + r / 262144), u8 (128 + r / 4096 % 64), u8 (128 + r / 64 % 64), u8 (128 + r % 64)]

theorem codeSz_cases (r : Int) : (codeSz r = 0 ∧ (r < 0 ∨ 1114111 < r ∨ (55296 ≤ r ∧ r ≤ 57343))) ∨ (codeSz r = 1 ∧ 0 ≤ r ∧ r < 128) ∨ (codeSz r = 2 ∧ 128 ≤ r ∧ r < 2048) ∨
    (codeSz r = 3 ∧ 2048 ≤ r ∧ r < 65536 ∧ (r < 55296 ∨ 57343 < r)) ∨ (codeSz r = 4 ∧ 65536 ≤ r ∧ r ≤ 1114111) := by
  unfold codeSz
  (repeat' split) <;> omega

theorem enc_length (r : Int) : (enc r).length = codeSz r := by
  rcases codeSz_cases r with h | h | h | h | h <;> simp [enc, h.1]

/-- What the first byte says of the length, unchecked. -/
def rawSz (b : Nat) : Nat := if 240 ≤ b then 4 else if 224 ≤ b then 3 else if 192 ≤ b then 2 else 1

def rawR (b : UInt8) (u : List UInt8) : Int := (u.take (rawSz b.toNat - 1)).foldl (fun r x => 64 * r + (x.toNat : Int) - 128) ((b.toNat : Int) - leadM (rawSz b.toNat))

def eqB (a b : UInt8) : Prop := (a.toNat : Int) = (b.toNat : Int)
theorem eqB_iff (a b : UInt8) : a = b ↔ (a.toNat : Int) = (b.toNat : Int) := by
  constructor
  · intro h; rw [h]
  · intro h; exact UInt8.toNat_inj.1 (by omega)

theorem enc1_eq (r : Int) (b : UInt8) : enc r = [b] ↔ (0 ≤ r ∧ r < 128 ∧ r = (b.toNat : Int)) := by
  rcases codeSz_cases r with h | h | h | h | h <;> simp only [enc, h.1, List.cons.injEq, and_true, reduceCtorEq, false_iff, and_false, eqB_iff]
  all_goals (try rw [u8_toNat _ (by omega) (by omega)])
  all_goals omega

theorem enc2_eq (r : Int) (a b : UInt8) : enc r = [a, b] ↔ (128 ≤ r ∧ r < 2048 ∧ 192 + r / 64 = (a.toNat : Int) ∧ 128 + r % 64 = (b.toNat : Int)) := by
  rcases codeSz_cases r with h | h | h | h | h <;> simp only [enc, h.1, List.cons.injEq, and_true, reduceCtorEq, false_iff, and_false, eqB_iff]
  all_goals (try rw [u8_toNat _ (by omega) (by omega), u8_toNat _ (by omega) (by omega)])
  all_goals omega

theorem enc3_eq (r : Int) (a b c : UInt8) : enc r = [a, b, c] ↔ (2048 ≤ r ∧ r < 65536 ∧ (r < 55296 ∨ 57343 < r) ∧ 224 + r / 4096 = (a.toNat : Int) ∧ 128 + r / 64 % 64 = (b.toNat : Int) ∧ 128 + r % 64 = (c.toNat : Int)) := by
  rcases codeSz_cases r with h | h | h | h | h <;> simp only [enc, h.1, List.cons.injEq, and_true, reduceCtorEq, false_iff, and_false, eqB_iff]
  all_goals (try rw [u8_toNat _ (by omega) (by omega), u8_toNat _ (by omega) (by omega), u8_toNat _ (by omega) (by omega)])
  all_goals omega

theorem enc4_eq (r : Int) (a b c d : UInt8) : enc r = [a, b, c, d] ↔ (65536 ≤ r ∧ r ≤ 1114111 ∧ 240 + r / 262144 = (a.toNat : Int) ∧ 128 + r / 4096 % 64 = (b.toNat : Int) ∧ 128 + r / 64 % 64 = (c.toNat : Int) ∧ 128 + r % 64 = (d.toNat : Int)) := by
  rcases codeSz_cases r with h | h | h | h | h <;> simp only [enc, h.1, List.cons.injEq, and_true, reduceCtorEq, false_iff, and_false, eqB_iff]
  all_goals (try rw [u8_toNat _ (by omega) (by omega), u8_toNat _ (by omega) (by omega), u8_toNat _ (by omega) (by omega), u8_toNat _ (by omega) (by omega)])
  all_goals omega

theorem addC_cont (r : Int) (b : Nat) (hb : b < 256) (h : 0 ≤ r) : (isCont b = true ∧ 128 ≤ b ∧ b < 192 ∧ addC r b = 64 * r + b - 128) ∨ ((b < 128 ∨ 192 ≤ b) ∧ addC r b = -1) := by
  unfold addC isCont
  by_cases hc : 128 ≤ b ∧ b < 192
  · left
    refine ⟨by simp [hc], hc.1, hc.2, ?_⟩
    rw [if_neg (by simp [hc]; omega)]
    omega
  · right
    exact ⟨by omega, by rw [if_pos (.inr (by simpa using hc))]⟩

/-- DECODING BY WEIGHING: long enough, and the encoding of what was weighed is just these bytes. -/
theorem dec_raw (b : UInt8) (u : List UInt8) :
    (u.length + 1 < rawSz b.toNat → decL (b :: u) = -1) ∧
    (rawSz b.toNat ≤ u.length + 1 → enc (rawR b u) = (b :: u).take (rawSz b.toNat) → decL (b :: u) = rawR b u ∧ sz (b :: u) = rawSz b.toNat) ∧
    (rawSz b.toNat ≤ u.length + 1 → enc (rawR b u) ≠ (b :: u).take (rawSz b.toNat) → decL (b :: u) = -1) := by
  have hb := b.toNat_lt
  have hf := fun k => (show formSz b.toNat = k → formSz b.toNat = k from id)
  have hz : ∀ r, decL (b :: u) = r → sz (b :: u) = codeSz r := fun r e => by unfold sz; rw [e]
  by_cases h1 : b.toNat < 128
  · have hs : rawSz b.toNat = 1 := by unfold rawSz; (repeat' split) <;> omega
    have hF : formSz b.toNat = 1 := by unfold formSz; (repeat' split) <;> omega
    have hc : codeSz (b.toNat : Int) = 1 := by unfold codeSz; (repeat' split) <;> omega
    have hd : decL (b :: u) = b.toNat := by simp [decL, hF, leadM, hc]
    have hr : rawR b u = b.toNat := by simp [rawR, hs, leadM]
    rw [hs, hr]
    refine ⟨fun h => by omega, fun _ _ => ⟨hd, (hz _ hd).trans hc⟩, fun _ h => absurd ?_ h⟩
    simp only [List.take_succ_cons, List.take_zero]
    exact (enc1_eq _ _).2 ⟨by omega, by omega, rfl⟩
  by_cases h2 : b.toNat < 192
  · have hs : rawSz b.toNat = 1 := by unfold rawSz; (repeat' split) <;> omega
    have hF : formSz b.toNat = 0 := by unfold formSz; (repeat' split) <;> omega
    have hd : decL (b :: u) = -1 := by simp [decL, hF]
    have hr : rawR b u = b.toNat := by simp [rawR, hs, leadM]
    rw [hs, hr]
    refine ⟨fun _ => hd, fun _ h => ?_, fun _ _ => hd⟩
    simp only [List.take_succ_cons, List.take_zero] at h
    have := (enc1_eq _ _).1 h
    omega
  by_cases h3 : b.toNat < 224
  · have hs : rawSz b.toNat = 2 := by unfold rawSz; (repeat' split) <;> omega
    have hF : formSz b.toNat = 2 := by unfold formSz; (repeat' split) <;> omega
    rw [hs]
    refine ⟨fun h => by simp only [decL, hF]; rw [if_pos (by omega)], ?_⟩
    match u with
    | [] => exact ⟨fun h => by simp at h, fun h => by simp at h⟩
    | x :: t =>
      have hx := x.toNat_lt
      have hr : rawR b (x :: t) = 64 * ((b.toNat : Int) - 192) + x.toNat - 128 := by simp [rawR, hs, leadM]
      have hdd : decL (b :: x :: t) = if codeSz (addC ((b.toNat : Int) - 192) x.toNat) = 2 then addC ((b.toNat : Int) - 192) x.toNat else -1 := by
        simp only [decL, hF]; rw [if_neg (by simp)]; rfl
      rw [hr]
      simp only [List.take_succ_cons, List.take_zero, ne_eq, enc2_eq]
      rcases addC_cont ((b.toNat : Int) - 192) x.toNat hx (by omega) with ⟨_, c1, c2, he⟩ | ⟨c1, he⟩
      · rw [he] at hdd
        rcases codeSz_cases (64 * ((b.toNat : Int) - 192) + x.toNat - 128) with g | g | g | g | g <;> rw [g.1] at hdd <;> simp at hdd
        all_goals refine ⟨fun _ h => ?_, fun _ h => ?_⟩
        all_goals first
          | omega
          | exact hdd
          | exact ⟨hdd, (hz _ hdd).trans g.1⟩
      · rw [he, codeSz_neg] at hdd
        exact ⟨fun _ h => by omega, fun _ _ => by simpa using hdd⟩
  by_cases h4 : b.toNat < 240
  · have hs : rawSz b.toNat = 3 := by unfold rawSz; (repeat' split) <;> omega
    have hF : formSz b.toNat = 3 := by unfold formSz; (repeat' split) <;> omega
    rw [hs]
    refine ⟨fun h => by simp only [decL, hF]; rw [if_pos (by omega)], ?_⟩
    match u with
    | [] => exact ⟨fun h => by simp at h, fun h => by simp at h⟩
    | [_] => exact ⟨fun h => by simp at h, fun h => by simp at h⟩
    | x :: y :: t =>
      have hx := x.toNat_lt
      have hy := y.toNat_lt
      have hr : rawR b (x :: y :: t) = 64 * (64 * ((b.toNat : Int) - 224) + x.toNat - 128) + y.toNat - 128 := by simp [rawR, hs, leadM]
      have hdd : decL (b :: x :: y :: t) = if codeSz (addC (addC ((b.toNat : Int) - 224) x.toNat) y.toNat) = 3 then addC (addC ((b.toNat : Int) - 224) x.toNat) y.toNat else -1 := by
        simp only [decL, hF]; rw [if_neg (by simp)]; rfl
      rw [hr]
      simp only [List.take_succ_cons, List.take_zero, ne_eq, enc3_eq]
      rcases addC_cont ((b.toNat : Int) - 224) x.toNat hx (by omega) with ⟨_, c1, c2, he⟩ | ⟨c1, he⟩
      · rw [he] at hdd
        rcases addC_cont (64 * ((b.toNat : Int) - 224) + x.toNat - 128) y.toNat hy (by omega) with ⟨_, d1, d2, hf⟩ | ⟨d1, hf⟩
        · rw [hf] at hdd
          rcases codeSz_cases (64 * (64 * ((b.toNat : Int) - 224) + x.toNat - 128) + y.toNat - 128) with g | g | g | g | g <;> rw [g.1] at hdd <;> simp at hdd
          all_goals refine ⟨fun _ h => ?_, fun _ h => ?_⟩
          all_goals first
            | omega
            | exact hdd
            | exact ⟨hdd, (hz _ hdd).trans g.1⟩
        · rw [hf, codeSz_neg] at hdd
          exact ⟨fun _ h => by omega, fun _ _ => by simpa using hdd⟩
      · rw [he, show addC (-1) y.toNat = -1 from rfl, codeSz_neg] at hdd
        exact ⟨fun _ h => by omega, fun _ _ => by simpa using hdd⟩
  · have hs : rawSz b.toNat = 4 := by unfold rawSz; (repeat' split) <;> omega
    rw [hs]
    by_cases h5 : b.toNat < 248
    · have hF : formSz b.toNat = 4 := by unfold formSz; (repeat' split) <;> omega
      refine ⟨fun h => by simp only [decL, hF]; rw [if_pos (by omega)], ?_⟩
      match u with
      | [] => exact ⟨fun h => by simp at h, fun h => by simp at h⟩
      | [_] => exact ⟨fun h => by simp at h, fun h => by simp at h⟩
      | [_, _] => exact ⟨fun h => by simp at h, fun h => by simp at h⟩
      | x :: y :: z :: t =>
        have hx := x.toNat_lt
        have hy := y.toNat_lt
        have hzz := z.toNat_lt
        have hr : rawR b (x :: y :: z :: t) = 64 * (64 * (64 * ((b.toNat : Int) - 240) + x.toNat - 128) + y.toNat - 128) + z.toNat - 128 := by simp [rawR, hs, leadM]
        have hdd : decL (b :: x :: y :: z :: t) = if codeSz (addC (addC (addC ((b.toNat : Int) - 240) x.toNat) y.toNat) z.toNat) = 4 then addC (addC (addC ((b.toNat : Int) - 240) x.toNat) y.toNat) z.toNat else -1 := by
          simp only [decL, hF]; rw [if_neg (by simp)]; rfl
        rw [hr]
        simp only [List.take_succ_cons, List.take_zero, ne_eq, enc4_eq]
        rcases addC_cont ((b.toNat : Int) - 240) x.toNat hx (by omega) with ⟨_, c1, c2, he⟩ | ⟨c1, he⟩
        · rw [he] at hdd
          rcases addC_cont (64 * ((b.toNat : Int) - 240) + x.toNat - 128) y.toNat hy (by omega) with ⟨_, d1, d2, hf⟩ | ⟨d1, hf⟩
          · rw [hf] at hdd
            rcases addC_cont (64 * (64 * ((b.toNat : Int) - 240) + x.toNat - 128) + y.toNat - 128) z.toNat hzz (by omega) with ⟨_, e1, e2, hg⟩ | ⟨e1, hg⟩
            · rw [hg] at hdd
              rcases codeSz_cases (64 * (64 * (64 * ((b.toNat : Int) - 240) + x.toNat - 128) + y.toNat - 128) + z.toNat - 128) with g | g | g | g | g <;> rw [g.1] at hdd <;> simp at hdd
              all_goals refine ⟨fun _ h => ?_, fun _ h => ?_⟩
              all_goals first
                | omega
                | exact hdd
                | exact ⟨hdd, (hz _ hdd).trans g.1⟩
            · rw [hg, codeSz_neg] at hdd
              exact ⟨fun _ h => by omega, fun _ _ => by simpa using hdd⟩
          · rw [hf, show addC (-1) z.toNat = -1 from rfl, codeSz_neg] at hdd
            exact ⟨fun _ h => by omega, fun _ _ => by simpa using hdd⟩
        · rw [he, show addC (-1) y.toNat = -1 from rfl, show addC (-1) z.toNat = -1 from rfl, codeSz_neg] at hdd
          exact ⟨fun _ h => by omega, fun _ _ => by simpa using hdd⟩
    · have hF : formSz b.toNat = 0 := by unfold formSz; (repeat' split) <;> omega
      have hd : decL (b :: u) = -1 := by simp [decL, hF]
      refine ⟨fun _ => hd, fun hl h => ?_, fun _ _ => hd⟩
      match u with
      | [] => simp at hl
      | [_] => simp at hl
      | [_, _] => simp at hl
      | x :: y :: z :: t =>
        have hr : rawR b (x :: y :: z :: t) = 64 * (64 * (64 * ((b.toNat : Int) - 240) + x.toNat - 128) + y.toNat - 128) + z.toNat - 128 := by simp [rawR, hs, leadM]
        rw [hr] at h
        simp only [List.take_succ_cons, List.take_zero, enc4_eq] at h
        omega

end Go.Proofs.YtgpjjolgpppeeaaDoor.P
