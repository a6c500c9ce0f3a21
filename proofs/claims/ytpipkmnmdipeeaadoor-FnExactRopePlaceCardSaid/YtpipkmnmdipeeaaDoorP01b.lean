/-
  Chapter 1 in plain Lean, the second part: decoding, texts, boundaries. No program here. Own work.
-/
import Derived.Test.YtpipkmnmdipeeaaDoorP01
namespace Go.Proofs.YtpipkmnmdipeeaaDoor.P

def leadM (s : Nat) : Int := if s = 2 then 192 else if s = 3 then 224 else if s = 4 then 240 else 0

/-- The code point whose encoding the bytes begin with, or -1. -/
def decL : List UInt8 → Int
  | [] => -1
  | b :: u =>
    let s := formSz b.toNat
    if s = 0 ∨ u.length + 1 < s then -1
    else
      let r := (u.take (s - 1)).foldl (fun r x => addC r x.toNat) ((b.toNat : Int) - leadM s)
      if codeSz r = s then r else -1

def sz (l : List UInt8) : Nat := codeSz (decL l)

def runeAt (l : List UInt8) (at_ : Int) : Int := if at_ < 0 ∨ (l.length : Int) ≤ at_ then -1 else decL (l.drop at_.toNat)

def runeSize (l : List UInt8) (at_ : Int) : Nat := codeSz (runeAt l at_)

/-- With s bytes left of a code point that has begun, the rest is a text. -/
def okS : Nat → List UInt8 → Bool
  | 0, [] => true
  | _ + 1, [] => false
  | 0, b :: t => decide (sz (b :: t) ≠ 0) && okS (sz (b :: t) - 1) t
  | s + 1, _ :: t => okS s t

def isText (l : List UInt8) : Bool := decide (l.length ≤ 400) && okS 0 l

def cuts (l : List UInt8) : List Nat := (List.range (l.length + 1)).filter fun k : Nat => isBound l k

def placeIn : Option Nat → Int
  | some p => (p : Int)
  | none => -1

def placeOf (l : List UInt8) (n : Int) : Int := if isText l = true ∧ 0 ≤ n then placeIn (cuts l)[n.toNat]? else -1

def runesBefore (l : List UInt8) (k : Nat) : Nat := ((List.range k).filter fun k : Nat => isBound l k).length

def runesTo (l : List UInt8) (at_ : Int) : Int := if isText l = true ∧ isBound l at_ = true then (runesBefore l at_.toNat : Int) else -1

def cutOk (l : List UInt8) (at_ : Int) : Bool := isText l && isBound l at_

def runeCount (l : List UInt8) : Int := runesTo l l.length

/-! ### facts -/
theorem codeSz_neg : codeSz (-1) = 0 := rfl

theorem decL_cases (b : UInt8) (u : List UInt8) :
    decL (b :: u) = -1 ∨ (formSz b.toNat ≠ 0 ∧ formSz b.toNat ≤ u.length + 1 ∧ codeSz (decL (b :: u)) = formSz b.toNat ∧
      decL (b :: u) = (u.take (formSz b.toNat - 1)).foldl (fun r x => addC r x.toNat) ((b.toNat : Int) - leadM (formSz b.toNat))) := by
  simp only [decL]
  by_cases h : formSz b.toNat = 0 ∨ u.length + 1 < formSz b.toNat
  · rw [if_pos h]; exact .inl rfl
  · rw [if_neg h]
    split
    · rename_i e
      exact .inr ⟨by omega, by omega, e, rfl⟩
    · exact .inl rfl

theorem sz_le (l : List UInt8) : sz l ≤ l.length := by
  unfold sz
  cases l with
  | nil => simp [decL, codeSz_neg]
  | cons b u =>
    rcases decL_cases b u with h | ⟨h1, h2, h3, h4⟩
    · rw [h, codeSz_neg]; omega
    · rw [h3]; simpa using h2

theorem sz_pos_form {b : UInt8} {u : List UInt8} (h : sz (b :: u) ≠ 0) : sz (b :: u) = formSz b.toNat ∧ isCont b.toNat = false := by
  unfold sz at h ⊢
  rcases decL_cases b u with e | ⟨h1, h2, h3, h4⟩
  · rw [e, codeSz_neg] at h; exact absurd rfl h
  · refine ⟨h3, ?_⟩
    unfold formSz at h1
    unfold isCont
    simp only [decide_eq_false_iff_not]
    intro hc
    rw [if_neg (by omega), if_pos (by omega)] at h1
    exact h1 rfl

theorem foldl_neg (l : List UInt8) : l.foldl (fun r x => addC r x.toNat) (-1) = -1 := by
  induction l with
  | nil => rfl
  | cons x t ih => simp only [List.foldl_cons]; rw [show addC (-1) x.toNat = -1 from rfl, ih]

theorem foldl_cont (l : List UInt8) (r : Int) (h : l.foldl (fun r x => addC r x.toNat) r ≠ -1) : ∀ x ∈ l, isCont x.toNat = true := by
  induction l generalizing r with
  | nil => intro x hx; cases hx
  | cons y t ih =>
    intro x hx
    simp only [List.foldl_cons] at h
    have hy : isCont y.toNat = true := by
      cases e : isCont y.toNat with
      | true => rfl
      | false =>
        have : addC r y.toNat = -1 := by unfold addC; rw [if_pos (.inr e)]
        rw [this, foldl_neg] at h
        exact absurd rfl h
    cases hx with
    | head => exact hy
    | tail _ hm => exact ih _ h x hm

/-- The bytes behind the first of a code point continue it. -/
theorem sz_conts {b : UInt8} {u : List UInt8} (h : sz (b :: u) ≠ 0) : ∀ x ∈ u.take (sz (b :: u) - 1), isCont x.toNat = true := by
  have hs := (sz_pos_form h).1
  unfold sz at h
  rcases decL_cases b u with e | ⟨h1, h2, h3, h4⟩
  · rw [e, codeSz_neg] at h; exact absurd rfl h
  · rw [hs]
    refine foldl_cont _ ((b.toNat : Int) - leadM (formSz b.toNat)) ?_
    intro e
    rw [← h4] at e
    rw [e, codeSz_neg] at h3
    omega

theorem okS_drop (s : Nat) (t : List UInt8) (h : s ≤ t.length) : okS s t = okS 0 (t.drop s) := by
  induction s generalizing t with
  | zero => simp
  | succ s ih =>
    cases t with
    | nil => simp at h
    | cons b t => simp only [okS, List.drop_succ_cons]; exact ih t (by simpa using h)

theorem okS_step {t : List UInt8} (hne : t ≠ []) : okS 0 t = (decide (sz t ≠ 0) && okS 0 (t.drop (sz t))) := by
  cases t with
  | nil => exact absurd rfl hne
  | cons b u =>
    simp only [okS]
    by_cases h : sz (b :: u) = 0
    · simp [h]
    · have hle := sz_le (b :: u)
      rw [okS_drop _ _ (by simp at hle; omega)]
      congr 2
      conv => rhs; rw [show sz (b :: u) = (sz (b :: u) - 1) + 1 by omega]
      rfl

/-- Where a code point starts, a boundary is; within it there is none. -/
theorem bound_sz {l : List UInt8} {p : Nat} (hp : p < l.length) (h : sz (l.drop p) ≠ 0) :
    p + sz (l.drop p) ≤ l.length ∧ isBound l p = true ∧ ∀ j, p < j → j < p + sz (l.drop p) → isBound l j = false := by
  have hle := sz_le (l.drop p)
  rw [List.length_drop] at hle
  have hd : l.drop p = l[p] :: l.drop (p + 1) := List.drop_eq_getElem_cons hp
  refine ⟨by omega, ?_, ?_⟩
  · rw [isBound_lt l p hp]
    have h1 := h
    rw [hd] at h1
    rw [(sz_pos_form h1).2]; rfl
  · intro j h1 h2
    rw [isBound_lt l j (by omega)]
    have h3 := h
    rw [hd] at h2 h3
    have := sz_conts h3 l[j] (by
      rw [List.mem_iff_getElem]
      refine ⟨j - (p + 1), by simp; omega, ?_⟩
      simp only [List.getElem_take, List.getElem_drop]
      congr 1
      omega)
    rw [this]; rfl

/-- At a place from which the rest is a text, a code point starts; within it no other does. -/
theorem bound_here {l : List UInt8} {p : Nat} (hp : p < l.length) (h : okS 0 (l.drop p) = true) :
    sz (l.drop p) ≠ 0 ∧ p + sz (l.drop p) ≤ l.length ∧ okS 0 (l.drop (p + sz (l.drop p))) = true ∧ isBound l p = true ∧ ∀ j, p < j → j < p + sz (l.drop p) → isBound l j = false := by
  have hne : l.drop p ≠ [] := by intro e; have := congrArg List.length e; simp at this; omega
  rw [okS_step hne] at h
  simp only [Bool.and_eq_true, decide_eq_true_eq, List.drop_drop] at h
  obtain ⟨h1, h2, h3⟩ := bound_sz hp h.1
  exact ⟨h.1, h1, h.2, h2, h3⟩

theorem filter_step {l : List UInt8} {p : Nat} (hp : p < l.length) (h1 : sz (l.drop p) ≠ 0) :
    (List.range (p + sz (l.drop p))).filter (fun k : Nat => isBound l k) = (List.range p).filter (fun k : Nat => isBound l k) ++ [p] := by
  obtain ⟨h2, h4, h5⟩ := bound_sz hp h1
  have e : p + sz (l.drop p) = p + 1 + (sz (l.drop p) - 1) := by omega
  rw [e, List.range_add, List.filter_append, List.range_succ, List.filter_append]
  have e1 : ([p].filter fun k : Nat => isBound l k) = [p] := by simp [h4]
  have e2 : (((List.range (sz (l.drop p) - 1)).map (p + 1 + ·)).filter fun k : Nat => isBound l k) = [] := by
    rw [List.filter_eq_nil_iff]
    intro j hj
    simp only [List.mem_map, List.mem_range] at hj
    obtain ⟨i, hi, rfl⟩ := hj
    rw [h5 _ (by omega) (by omega)]
    simp
  rw [e1, e2, List.append_nil]

theorem filter_end (l : List UInt8) : (List.range (l.length + 1)).filter (fun k : Nat => isBound l k) = (List.range l.length).filter (fun k : Nat => isBound l k) ++ [l.length] := by
  rw [List.range_succ, List.filter_append]
  congr 1
  simp [isBound_end]

theorem filter_at (q : Nat → Bool) (n : Nat) : ∀ i k, ((List.range n).filter q)[i]? = some k → q k = true ∧ k < n ∧ ((List.range k).filter q).length = i := by
  induction n with
  | zero => intro i k h; simp at h
  | succ n ih =>
    intro i k h
    rw [List.range_succ, List.filter_append] at h
    by_cases hi : i < ((List.range n).filter q).length
    · rw [List.getElem?_append_left hi] at h
      obtain ⟨a, b, c⟩ := ih i k h
      exact ⟨a, by omega, c⟩
    · rw [List.getElem?_append_right (by omega)] at h
      by_cases hq : q n = true
      · have e : [n].filter q = [n] := by simp [hq]
        rw [e] at h
        have hz : i - ((List.range n).filter q).length = 0 := by
          rcases Nat.eq_zero_or_pos (i - ((List.range n).filter q).length) with h0 | h0
          · exact h0
          · rw [List.getElem?_eq_none (by simp; omega)] at h; cases h
        rw [hz] at h
        simp only [List.getElem?_cons_zero, Option.some.injEq] at h
        subst h
        exact ⟨hq, by omega, by omega⟩
      · have e : [n].filter q = [] := by simp [hq]
        rw [e] at h
        simp at h

theorem filter_find (q : Nat → Bool) (n k : Nat) (hk : k < n) (hq : q k = true) : ((List.range n).filter q)[((List.range k).filter q).length]? = some k := by
  have e : n = k + (n - k - 1 + 1) := by omega
  conv => lhs; rw [e]
  rw [List.range_add, List.filter_append, List.range_succ_eq_map, List.getElem?_append_right (Nat.le_refl _)]
  simp [hq]

theorem cuts_pos (l : List UInt8) : 0 < (cuts l).length := by
  unfold cuts
  rw [filter_end]
  simp

theorem cuts_length (l : List UInt8) : (cuts l).length = runesBefore l l.length + 1 := by
  unfold cuts
  rw [filter_end]
  simp [runesBefore]

def cutsOr (l : List UInt8) : List Nat := if isText l = true then cuts l else []

theorem isText_cuts (l : List UInt8) : isText l = decide (0 < (cutsOr l).length) := by
  unfold cutsOr
  by_cases h : isText l = true
  · rw [if_pos h, decide_eq_true (cuts_pos l), h]
  · rw [if_neg h]; simpa using h

theorem runeCount_cuts (l : List UInt8) : runeCount l = ((cutsOr l).length : Int) - 1 := by
  unfold runeCount runesTo cutsOr
  by_cases h : isText l = true
  · rw [if_pos ⟨h, isBound_end l⟩, if_pos h, cuts_length, Int.toNat_natCast]; omega
  · rw [if_neg (fun x => h x.1), if_neg h]; simp

theorem placeOf_out (l : List UInt8) (n : Int) (h : n < 0 ∨ ((cutsOr l).length : Int) ≤ n) : placeOf l n = -1 := by
  unfold placeOf
  by_cases hc : isText l = true ∧ 0 ≤ n
  · rw [if_pos hc]
    have e : cutsOr l = cuts l := by unfold cutsOr; rw [if_pos hc.1]
    rw [e] at h
    rw [List.getElem?_eq_none (by omega)]
    rfl
  · rw [if_neg hc]

theorem placeOf_in (l : List UInt8) (n : Nat) (h : n < (cutsOr l).length) : placeOf l n = ((cutsOr l)[n] : Nat) := by
  have ht : isText l = true := by rw [isText_cuts]; simp; omega
  have e : cutsOr l = cuts l := by unfold cutsOr; rw [if_pos ht]
  unfold placeOf
  rw [if_pos ⟨ht, by omega⟩, Int.toNat_natCast]
  have h2 : (cuts l)[n]? = some ((cutsOr l)[n]) := by rw [← e]; exact List.getElem?_eq_getElem h
  rw [h2]
  rfl

theorem runesTo_found (l : List UInt8) (i : Nat) (h : i < (cutsOr l).length) : runesTo l ((cutsOr l)[i] : Nat) = i := by
  have ht : isText l = true := by rw [isText_cuts]; simp; omega
  have e : cutsOr l = cuts l := by unfold cutsOr; rw [if_pos ht]
  have h2 : (cuts l)[i]? = some ((cutsOr l)[i]) := by rw [← e]; exact List.getElem?_eq_getElem h
  obtain ⟨a, b, c⟩ := filter_at (fun k : Nat => isBound l k) _ _ _ h2
  unfold runesTo
  rw [if_pos ⟨ht, a⟩, Int.toNat_natCast]
  unfold runesBefore
  omega

theorem runesTo_none (l : List UInt8) (a : Int) (h : ∀ i (h : i < (cutsOr l).length), ((cutsOr l)[i] : Int) ≠ a) : runesTo l a = -1 := by
  unfold runesTo
  rw [if_neg]
  rintro ⟨ht, hb⟩
  have hr : 0 ≤ a ∧ a ≤ l.length := by
    have := hb; unfold isBound at this; simp only [Bool.and_eq_true, decide_eq_true_eq] at this; exact this.1
  obtain ⟨k, rfl⟩ := Int.eq_ofNat_of_zero_le hr.1
  have e : cutsOr l = cuts l := by unfold cutsOr; rw [if_pos ht]
  have := filter_find (fun k : Nat => isBound l k) (l.length + 1) k (by omega) hb
  obtain ⟨hi, hx⟩ := List.getElem?_eq_some_iff.1 this
  have hi2 : ((List.range k).filter fun k : Nat => isBound l k).length < (cutsOr l).length := by rw [e]; exact hi
  refine h _ hi2 ?_
  have : (cutsOr l)[((List.range k).filter fun k : Nat => isBound l k).length] = k := by
    simp only [e]
    exact hx
  omega

theorem cutOk_runesTo (l : List UInt8) (a : Int) : cutOk l a = decide (0 ≤ runesTo l a) := by
  unfold cutOk runesTo
  by_cases h : isText l = true ∧ isBound l a = true
  · rw [if_pos h, h.1, h.2, decide_eq_true (by omega)]; rfl
  · rw [if_neg h]
    cases h1 : isText l <;> cases h2 : isBound l a <;> simp_all

end Go.Proofs.YtpipkmnmdipeeaaDoor.P
