/-
  Chapter 2 in plain Lean: measures and chunks of texts. No program here. Own work.
-/
import Derived.Test.YtgpjjolgpppeeaaP01e
namespace Go.Proofs.Ytgpjjolgpppeeaa.P
set_option linter.unusedVariables false

/-! ### texts taken apart -/
theorem isBound_drop (l : List UInt8) (p k : Nat) (hp : p ≤ l.length) (hk : p + k ≤ l.length) : isBound (l.drop p) (k : Int) = isBound l ((p + k : Nat) : Int) := by
  unfold isBound
  have e1 : ((l.drop p).length : Int) = (l.length : Int) - p := by rw [List.length_drop]; omega
  have e2 : (l.drop p).getD ((k : Int).toNat) 0 = l.getD (((p + k : Nat) : Int).toNat) 0 := by
    rw [Int.toNat_natCast, Int.toNat_natCast]
    simp [List.getD, List.getElem?_drop]
  rw [e1, e2]
  congr 1
  · rw [decide_eq_decide]; omega
  · congr 1
    rw [decide_eq_decide]; omega

theorem pos_of_ne {α : Type} {l : List α} (h : l ≠ []) : 0 < l.length := by
  cases l with
  | nil => exact absurd rfl h
  | cons a t => simp

theorem isBound_zero (l : List UInt8) (h : okS 0 l = true) : isBound l ((0 : Nat) : Int) = true := by
  cases l with
  | nil => exact isBound_end []
  | cons b u => exact (bound_here (l := b :: u) (p := 0) (by simp) (by simpa using h)).2.2.2.1

theorem okS_of_bound {l : List UInt8} (h : okS 0 l = true) {k : Nat} (hk : k ≤ l.length) (hb : isBound l (k : Int) = true) : okS 0 (l.drop k) = true :=
  okS_bound l k hk hb k 0 (by omega) (Nat.zero_le _) (by simpa using h)

/-- The first code point of what is cut off behind it. -/
theorem sz_app {a : List UInt8} (h : sz a ≠ 0) (t : List UInt8) : sz (a ++ t) = sz a := by
  cases a with
  | nil => exact absurd (by rfl) h
  | cons b u =>
    have h1 := dec_enc b u h
    have h2 : (b :: u) = enc (decL (b :: u)) ++ (b :: u).drop (sz (b :: u)) := by rw [h1, List.take_append_drop]
    have h3 := (enc_dec (decL (b :: u)) h ((b :: u).drop (sz (b :: u)) ++ t)).2
    rw [← List.append_assoc, ← h2] at h3
    exact h3

theorem sz_take {l : List UInt8} (h : sz l ≠ 0) (k : Nat) (hk : sz l ≤ k) : sz (l.take k) = sz l := by
  cases l with
  | nil => exact absurd (by rfl) h
  | cons b u =>
    have h1 := dec_enc b u h
    have h2 : (b :: u).take k = enc (decL (b :: u)) ++ ((b :: u).drop (sz (b :: u))).take (k - sz (b :: u)) := by
      rw [h1]
      conv => lhs; rw [show k = sz (b :: u) + (k - sz (b :: u)) by omega]
      rw [List.take_add]
    have h3 := (enc_dec (decL (b :: u)) h (((b :: u).drop (sz (b :: u))).take (k - sz (b :: u)))).2
    rw [← h2] at h3
    exact h3

theorem okS_app : ∀ (n : Nat) (a b : List UInt8), a.length ≤ n → okS 0 a = true → okS 0 b = true → okS 0 (a ++ b) = true := by
  intro n
  induction n with
  | zero =>
    intro a b h1 h2 h3
    have : a = [] := List.eq_nil_of_length_eq_zero (by omega)
    subst this
    simpa using h3
  | succ n ih =>
    intro a b h1 h2 h3
    by_cases ha : a = []
    · subst ha; simpa using h3
    · rw [okS_step ha] at h2
      simp only [Bool.and_eq_true, decide_eq_true_eq] at h2
      have hne : a ++ b ≠ [] := by simp [ha]
      have hle := sz_le a
      rw [okS_step hne, sz_app h2.1, List.drop_append_of_le_length hle, decide_eq_true h2.1, Bool.true_and]
      exact ih _ _ (by have := h2.1; rw [List.length_drop]; omega) h2.2 h3

theorem okS_take : ∀ (n : Nat) (l : List UInt8) (k : Nat), k ≤ n → k ≤ l.length → okS 0 l = true → isBound l (k : Int) = true → okS 0 (l.take k) = true := by
  intro n
  induction n with
  | zero =>
    intro l k h1 h2 h3 h4
    have : k = 0 := by omega
    subst this
    simp [okS]
  | succ n ih =>
    intro l k h1 h2 h3 h4
    by_cases hk : k = 0
    · subst hk; simp [okS]
    · obtain ⟨a, b, c, d, f⟩ := bound_here (l := l) (p := 0) (by omega) (by simpa using h3)
      simp only [List.drop_zero, Nat.zero_add] at a b c f
      have hkz : sz l ≤ k := by
        apply Nat.le_of_not_lt
        intro hlt
        rw [f k (by omega) hlt] at h4
        cases h4
      have hne : l.take k ≠ [] := by intro e; have := congrArg List.length e; rw [List.length_take, List.length_nil] at this; omega
      rw [okS_step hne, sz_take a k hkz, decide_eq_true a, Bool.true_and, List.drop_take]
      refine ih _ _ (by have := a; omega) (by rw [List.length_drop]; omega) c ?_
      rw [isBound_drop l (sz l) (k - sz l) b (by omega), show sz l + (k - sz l) = k by omega]
      exact h4

theorem isText_len {l : List UInt8} (h : isText l = true) : l.length ≤ 400 := by unfold isText at h; simp at h; exact h.1
theorem isText_of {l : List UInt8} (h : l.length ≤ 400) (k : okS 0 l = true) : isText l = true := by unfold isText; simp [h, k]
theorem isText_take {l : List UInt8} (h : isText l = true) {k : Nat} (hk : k ≤ l.length) (hb : isBound l (k : Int) = true) : isText (l.take k) = true :=
  isText_of (by have := isText_len h; rw [List.length_take]; omega) (okS_take k l k (Nat.le_refl _) hk (isText_ok h) hb)
theorem isText_drop {l : List UInt8} (h : isText l = true) {k : Nat} (hk : k ≤ l.length) (hb : isBound l (k : Int) = true) : isText (l.drop k) = true :=
  isText_of (by have := isText_len h; rw [List.length_drop]; omega) (okS_of_bound (isText_ok h) hk hb)

theorem isBound_app_left (a b : List UInt8) (k : Nat) (hk : k < a.length) : isBound (a ++ b) (k : Int) = isBound a (k : Int) := by
  rw [isBound_lt _ k (by rw [List.length_append]; omega), isBound_lt a k hk, List.getElem_append_left hk]
theorem isBound_app_right (a b : List UInt8) (k : Nat) (hk : k ≤ b.length) : isBound (a ++ b) ((a.length + k : Nat) : Int) = isBound b (k : Int) := by
  rw [← isBound_drop (a ++ b) a.length k (by simp) (by simp; omega)]
  simp

theorem runesBefore_app (a b : List UInt8) (k : Nat) (hk : k ≤ b.length + 1) (hb : okS 0 b = true) : runesBefore (a ++ b) (a.length + k) = runesBefore a a.length + runesBefore b k := by
  unfold runesBefore
  rw [List.range_add, List.filter_append, List.length_append]
  congr 1
  · congr 1
    apply List.filter_congr
    intro x hx
    exact isBound_app_left a b x (by simpa using hx)
  · have e : ((List.range k).map (a.length + ·)).filter (fun k : Nat => isBound (a ++ b) k) = ((List.range k).filter (fun k : Nat => isBound b k)).map (a.length + ·) := by
      rw [List.filter_map]
      congr 1
      apply List.filter_congr
      intro x hx
      have : x < k := by simpa using hx
      exact isBound_app_right a b x (by omega)
    rw [e, List.length_map]

theorem runeCount_is {l : List UInt8} (h : isText l = true) : runeCount l = (runesBefore l l.length : Int) := by
  unfold runeCount runesTo
  rw [if_pos ⟨h, isBound_end l⟩, Int.toNat_natCast]

theorem runeCount_app {a b : List UInt8} (ha : isText a = true) (hb : isText b = true) (hab : isText (a ++ b) = true) : runeCount (a ++ b) = runeCount a + runeCount b := by
  rw [runeCount_is ha, runeCount_is hb, runeCount_is hab, List.length_append, runesBefore_app a b b.length (by omega) (isText_ok hb)]
  omega

theorem runesBefore_len (l : List UInt8) (k : Nat) : runesBefore l k ≤ k := by
  unfold runesBefore
  have := List.length_filter_le (fun k : Nat => isBound l k) (List.range k)
  simpa using this

theorem isText_nil : isText [] = true := by decide
theorem runeCount_nil : runeCount [] = 0 := by decide

/-! ### measures -/
def lines (l : List UInt8) : Nat := l.count 10
theorem lines_le (l : List UInt8) : lines l ≤ l.length := List.count_le_length
theorem lines_app (a b : List UInt8) : lines (a ++ b) = lines a + lines b := List.count_append
theorem lines_snoc (l : List UInt8) (k : Nat) (h : k < l.length) : lines (l.take (k + 1)) = lines (l.take k) + if l[k] = 10 then 1 else 0 := by
  unfold lines
  rw [List.take_succ_eq_append_getElem h, List.count_append, List.count_singleton]
  congr 1
  by_cases e : l[k] = 10 <;> simp [e]

def mB (l : List UInt8) : Int := if isText l = true then l.length else 0
def mR (l : List UInt8) : Int := if isText l = true then runeCount l else 0
def mL (l : List UInt8) : Int := if isText l = true then lines l else 0

theorem runeCount_bd {l : List UInt8} (h : isText l = true) : 0 ≤ runeCount l ∧ runeCount l ≤ l.length := by
  rw [runeCount_is h]
  have := runesBefore_len l l.length
  omega
theorem m_bd (l : List UInt8) : 0 ≤ mB l ∧ mB l ≤ 400 ∧ 0 ≤ mR l ∧ mR l ≤ 400 ∧ 0 ≤ mL l ∧ mL l ≤ 400 := by
  unfold mB mR mL
  by_cases h : isText l = true
  · simp only [if_pos h]
    have := isText_len h
    have := runeCount_bd h
    have := lines_le l
    omega
  · simp only [if_neg h]
    omega

/-- Nothing but the empty text and what is no text has the zero measure. -/
theorem m_zero (l : List UInt8) : mB l = 0 ↔ (isText l = false ∨ l = []) := by
  unfold mB
  by_cases h : isText l = true
  · rw [if_pos h]
    constructor
    · intro e; right; exact List.eq_nil_of_length_eq_zero (by omega)
    · rintro (e | e)
      · rw [h] at e; cases e
      · subst e; rfl
  · rw [if_neg h]
    constructor
    · intro _; left; simpa using h
    · intro _; rfl
theorem m_zero_all (l : List UInt8) (h : mB l = 0) : mR l = 0 ∧ mL l = 0 := by
  rcases (m_zero l).1 h with e | e
  · unfold mR mL; simp [e]
  · subst e; unfold mR mL; simp [isText_nil, runeCount_nil, lines]

/-! ### chunks -/
def chunkOk (l : List UInt8) : Bool := decide (1 ≤ l.length) && decide (l.length ≤ 16) && isText l
def chunksOk (ls : List (List UInt8)) : Bool := ls.all chunkOk && decide (ls.flatten.length ≤ 400)
def chunksText (ls : List (List UInt8)) : List UInt8 := if chunksOk ls = true then ls.flatten else []

theorem chunkOk_iff (l : List UInt8) : chunkOk l = true ↔ 1 ≤ l.length ∧ l.length ≤ 16 ∧ isText l = true := by
  unfold chunkOk; simp [and_assoc]
theorem chunkOk_m (l : List UInt8) : chunkOk l = (decide (l.length ≤ 16) && decide (mB l ≠ 0)) := by
  rw [Bool.eq_iff_iff, chunkOk_iff]
  simp only [Bool.and_eq_true, decide_eq_true_eq, ne_eq, m_zero, not_or]
  constructor
  · rintro ⟨a, b, c⟩
    exact ⟨b, by simp [c], by intro e; subst e; simp at a⟩
  · rintro ⟨a, b, c⟩
    refine ⟨?_, a, by simpa using b⟩
    cases l with
    | nil => exact absurd rfl c
    | cons x t => simp

def chunkFrom (i : Nat) : List (List UInt8) → Int → Int × Int
  | [], at_ => if 0 < at_ then (-1, -1) else (i, 0)
  | l :: ls, at_ => if at_ < l.length then (i, at_) else chunkFrom (i + 1) ls (at_ - l.length)
def chunkFor (ls : List (List UInt8)) (at_ : Int) : Int × Int := if at_ < 0 ∨ chunksOk ls = false then (-1, -1) else chunkFrom 0 ls at_

/-- The greatest boundary up to k. -/
def cutTo (l : List UInt8) : Nat → Nat
  | 0 => 0
  | k + 1 => if isBound l ((k + 1 : Nat) : Int) = true then k + 1 else cutTo l k
def cut (l : List UInt8) : Nat := cutTo l (min l.length 16)

theorem cutTo_le (l : List UInt8) (k : Nat) : cutTo l k ≤ k := by
  induction k with
  | zero => simp [cutTo]
  | succ k ih => unfold cutTo; split <;> omega
theorem cutTo_bound (l : List UInt8) (h : okS 0 l = true) (k : Nat) : isBound l (cutTo l k : Int) = true := by
  induction k with
  | zero => exact isBound_zero l h
  | succ k ih => unfold cutTo; split <;> assumption
theorem cutTo_max (l : List UInt8) (k j : Nat) (hj : j ≤ k) (hb : isBound l (j : Int) = true) : j ≤ cutTo l k := by
  induction k with
  | zero => omega
  | succ k ih =>
    unfold cutTo
    split
    · exact hj
    · rename_i hn
      by_cases e : j = k + 1
      · subst e; exact absurd hb hn
      · exact ih (by omega)
theorem cutTo_here (l : List UInt8) (k : Nat) (h : isBound l (k : Int) = true) : cutTo l k = k := by
  cases k with
  | zero => rfl
  | succ k => unfold cutTo; rw [if_pos h]
theorem cutTo_next (l : List UInt8) (k : Nat) (h : isBound l ((k + 1 : Nat) : Int) = false) : cutTo l (k + 1) = cutTo l k := by
  conv => lhs; unfold cutTo
  rw [h]; simp

theorem cut_le (l : List UInt8) : cut l ≤ l.length ∧ cut l ≤ 16 := by
  have := cutTo_le l (min l.length 16)
  unfold cut
  omega
theorem cut_bound {l : List UInt8} (h : okS 0 l = true) : isBound l (cut l : Int) = true := cutTo_bound l h _
theorem sz_le4 (l : List UInt8) : sz l ≤ 4 := codeSz_le _
theorem cut_pos {l : List UInt8} (h : okS 0 l = true) (hne : l ≠ []) : 1 ≤ cut l := by
  have hl : 0 < l.length := pos_of_ne hne
  obtain ⟨a, b, c, d, f⟩ := bound_here (l := l) (p := 0) hl (by simpa using h)
  simp only [List.drop_zero, Nat.zero_add] at a b c f
  have hb : isBound l (sz l : Int) = true := by
    by_cases e : sz l = l.length
    · rw [e]; exact isBound_end l
    · exact (bound_here (l := l) (p := sz l) (by omega) c).2.2.2.1
  have := cutTo_max l (min l.length 16) (sz l) (by have := sz_le4 l; omega) hb
  unfold cut
  omega
/-- Behind a boundary before the cut, the next one is still not behind the cut; behind the cut it does not fit. -/
theorem cut_step {l : List UInt8} (h : okS 0 l = true) {e : Nat} (he : e < l.length) (hb : isBound l (e : Int) = true) (hle : e ≤ cut l) :
    sz (l.drop e) ≠ 0 ∧ e + sz (l.drop e) ≤ l.length ∧ isBound l ((e + sz (l.drop e) : Nat) : Int) = true ∧ (e < cut l ↔ e + sz (l.drop e) ≤ 16) ∧ (e < cut l → e + sz (l.drop e) ≤ cut l) := by
  have hd := okS_of_bound h (Nat.le_of_lt he) hb
  obtain ⟨a, b, c, d, f⟩ := bound_here (l := l) (p := e) he hd
  have hb2 : isBound l ((e + sz (l.drop e) : Nat) : Int) = true := by
    by_cases g : e + sz (l.drop e) = l.length
    · rw [g]; exact isBound_end l
    · exact (bound_here (l := l) (p := e + sz (l.drop e)) (by omega) c).2.2.2.1
  have hcb := cut_bound h
  have hcl := cut_le l
  have h5 : e < cut l → e + sz (l.drop e) ≤ cut l := by
    intro hlt
    apply Nat.le_of_not_lt
    intro g
    have := f (cut l) hlt g
    rw [hcb] at this
    cases this
  refine ⟨a, b, hb2, ⟨fun hlt => by have := h5 hlt; omega, fun g => ?_⟩, h5⟩
  have := cutTo_max l (min l.length 16) (e + sz (l.drop e)) (by omega) hb2
  unfold cut
  omega

def chunksL : Nat → List UInt8 → List (List UInt8)
  | 0, _ => []
  | f + 1, l => if l = [] then [] else l.take (cut l) :: chunksL f (l.drop (cut l))
def chunksOf (l : List UInt8) : List (List UInt8) := if isText l = true then chunksL l.length l else []

theorem chunksL_fuel : ∀ (f g : Nat) (l : List UInt8), okS 0 l = true → l.length ≤ f → l.length ≤ g → chunksL f l = chunksL g l := by
  intro f
  induction f with
  | zero =>
    intro g l h1 h2 h3
    have : l = [] := List.eq_nil_of_length_eq_zero (by omega)
    subst this
    cases g <;> simp [chunksL]
  | succ f ih =>
    intro g l h1 h2 h3
    by_cases hl : l = []
    · subst hl; cases g <;> simp [chunksL]
    · have hp := cut_pos h1 hl
      have hc := cut_le l
      cases g with
      | zero => exact absurd (List.eq_nil_of_length_eq_zero (by omega)) hl
      | succ g =>
        simp only [chunksL, if_neg hl]
        congr 1
        exact ih g _ (okS_of_bound h1 hc.1 (cut_bound h1)) (by rw [List.length_drop]; omega) (by rw [List.length_drop]; omega)

theorem chunksL_step {l : List UInt8} (h : okS 0 l = true) (hne : l ≠ []) : chunksL l.length l = l.take (cut l) :: chunksL (l.drop (cut l)).length (l.drop (cut l)) := by
  have hl : 0 < l.length := pos_of_ne hne
  have hp := cut_pos h hne
  have hc := cut_le l
  obtain ⟨n, hn⟩ : ∃ n, l.length = n + 1 := ⟨l.length - 1, by omega⟩
  conv => lhs; rw [hn]
  simp only [chunksL, if_neg hne]
  congr 1
  exact chunksL_fuel _ _ _ (okS_of_bound h hc.1 (cut_bound h)) (by rw [List.length_drop]; omega) (Nat.le_refl _)

theorem chunksL_flat : ∀ (n : Nat) (l : List UInt8), l.length ≤ n → okS 0 l = true → (chunksL l.length l).flatten = l := by
  intro n
  induction n with
  | zero =>
    intro l h1 h2
    have : l = [] := List.eq_nil_of_length_eq_zero (by omega)
    subst this
    simp [chunksL]
  | succ n ih =>
    intro l h1 h2
    by_cases hl : l = []
    · subst hl; simp [chunksL]
    · have hp := cut_pos h2 hl
      have hc := cut_le l
      rw [chunksL_step h2 hl, List.flatten_cons, ih _ (by rw [List.length_drop]; omega) (okS_of_bound h2 hc.1 (cut_bound h2)), List.take_append_drop]

theorem chunksL_ok : ∀ (n : Nat) (l : List UInt8), l.length ≤ n → l.length ≤ 400 → okS 0 l = true → ∀ c ∈ chunksL l.length l, chunkOk c = true := by
  intro n
  induction n with
  | zero =>
    intro l h1 _ h2
    have : l = [] := List.eq_nil_of_length_eq_zero (by omega)
    subst this
    simp [chunksL]
  | succ n ih =>
    intro l h1 h4 h2
    by_cases hl : l = []
    · subst hl; simp [chunksL]
    · have hp := cut_pos h2 hl
      have hc := cut_le l
      rw [chunksL_step h2 hl]
      intro c hcm
      rcases List.mem_cons.1 hcm with rfl | hcm
      · rw [chunkOk_iff, List.length_take]
        exact ⟨by omega, by omega, isText_take (isText_of h4 h2) hc.1 (cut_bound h2)⟩
      · exact ih _ (by rw [List.length_drop]; omega) (by rw [List.length_drop]; omega) (okS_of_bound h2 hc.1 (cut_bound h2)) c hcm

/-- No chunk but the last one has room for the first code point of the next. -/
theorem chunksL_full : ∀ (n : Nat) (l : List UInt8), l.length ≤ n → okS 0 l = true → ∀ i (h : i + 1 < (chunksL l.length l).length),
    16 < ((chunksL l.length l)[i]).length + sz ((chunksL l.length l)[i + 1]) := by
  intro n
  induction n with
  | zero =>
    intro l h1 h2 i h
    have : l = [] := List.eq_nil_of_length_eq_zero (by omega)
    subst this
    simp [chunksL] at h
  | succ n ih =>
    intro l h1 h2 i h
    by_cases hl : l = []
    · subst hl; simp [chunksL] at h
    · have hp := cut_pos h2 hl
      have hc := cut_le l
      have hd := okS_of_bound h2 hc.1 (cut_bound h2)
      have hst := chunksL_step h2 hl
      cases i with
      | zero =>
        have hne : l.drop (cut l) ≠ [] := by
          intro e
          rw [hst, e] at h
          simp [chunksL] at h
        have hlt : cut l < l.length := by
          apply Nat.lt_of_not_le
          intro g
          exact hne (List.drop_eq_nil_iff.2 g)
        have hst2 := chunksL_step hd hne
        rw [hst2] at hst
        obtain ⟨a, b, c, d, f⟩ := cut_step h2 hlt (cut_bound h2) (Nat.le_refl _)
        have hz : sz ((l.drop (cut l)).take (cut (l.drop (cut l)))) = sz (l.drop (cut l)) := by
          apply sz_take a
          obtain ⟨a', b', c', d', f'⟩ := cut_step hd (e := 0) (pos_of_ne hne) (isBound_zero _ hd) (Nat.zero_le _)
          have := f' (by have := cut_pos hd hne; omega)
          simpa using this
        simp only [hst, List.getElem_cons_zero, List.getElem_cons_succ]
        rw [hz, List.length_take]
        have : ¬ cut l + sz (l.drop (cut l)) ≤ 16 := fun g => by have := d.2 g; omega
        omega
      | succ i =>
        have h' : i + 1 < (chunksL (l.drop (cut l)).length (l.drop (cut l))).length := by rw [hst] at h; simpa using h
        have := ih _ (by rw [List.length_drop]; omega) hd i h'
        simpa only [hst, List.getElem_cons_succ] using this

theorem chunksOf_flat {l : List UInt8} (h : isText l = true) : (chunksOf l).flatten = l := by
  unfold chunksOf; rw [if_pos h]; exact chunksL_flat _ l (Nat.le_refl _) (isText_ok h)
theorem chunksOf_all (l : List UInt8) : ∀ c ∈ chunksOf l, chunkOk c = true := by
  unfold chunksOf
  split
  · rename_i h; exact chunksL_ok _ l (Nat.le_refl _) (isText_len h) (isText_ok h)
  · simp
theorem chunksOf_ok (l : List UInt8) : chunksOk (chunksOf l) = true := by
  unfold chunksOk
  simp only [Bool.and_eq_true, List.all_eq_true, decide_eq_true_eq]
  refine ⟨chunksOf_all l, ?_⟩
  by_cases h : isText l = true
  · rw [chunksOf_flat h]; exact isText_len h
  · unfold chunksOf; rw [if_neg h]; simp
theorem chunksOf_full {l : List UInt8} (i : Nat) (h : i + 1 < (chunksOf l).length) : 16 < ((chunksOf l)[i]).length + sz ((chunksOf l)[i + 1]) := by
  unfold chunksOf at h ⊢
  split at h
  · rename_i ht
    simp only [if_pos ht]
    exact chunksL_full _ l (Nat.le_refl _) (isText_ok ht) i h
  · simp at h

theorem flatten_len_le (ls : List (List UInt8)) (h : ∀ c ∈ ls, 1 ≤ c.length) : ls.length ≤ ls.flatten.length := by
  induction ls with
  | nil => simp
  | cons a t ih =>
    have h1 := h a (by simp)
    have h2 := ih (fun c hc => h c (by simp [hc]))
    simp only [List.flatten_cons, List.length_cons, List.length_append]
    omega
theorem chunksOk_all {ls : List (List UInt8)} (h : chunksOk ls = true) : (∀ c ∈ ls, chunkOk c = true) ∧ ls.flatten.length ≤ 400 := by
  unfold chunksOk at h; simpa using h
theorem chunksOk_len {ls : List (List UInt8)} (h : chunksOk ls = true) : ls.length ≤ 400 := by
  obtain ⟨a, b⟩ := chunksOk_all h
  have := flatten_len_le ls (fun c hc => ((chunkOk_iff c).1 (a c hc)).1)
  omega
theorem flatten_text : ∀ (ls : List (List UInt8)), (∀ c ∈ ls, chunkOk c = true) → okS 0 ls.flatten = true := by
  intro ls
  induction ls with
  | nil => intro _; simp [okS]
  | cons a t ih =>
    intro h
    rw [List.flatten_cons]
    exact okS_app _ a _ (Nat.le_refl _) (isText_ok ((chunkOk_iff a).1 (h a (by simp))).2.2) (ih (fun c hc => h c (by simp [hc])))
theorem chunksOk_text {ls : List (List UInt8)} (h : chunksOk ls = true) : isText ls.flatten = true :=
  isText_of (chunksOk_all h).2 (flatten_text ls (chunksOk_all h).1)

theorem flat_snoc (ls : List (List UInt8)) (k : Nat) (h : k < ls.length) : (ls.take (k + 1)).flatten = (ls.take k).flatten ++ ls[k] := by
  rw [List.take_succ_eq_append_getElem h, List.flatten_append]; simp

theorem chunkFrom_drop (ls : List (List UInt8)) (k : Nat) (h : k < ls.length) (a : Int) :
    chunkFrom k (ls.drop k) a = if a < (ls[k]).length then ((k : Int), a) else chunkFrom (k + 1) (ls.drop (k + 1)) (a - (ls[k]).length) := by
  rw [List.drop_eq_getElem_cons h]; rfl

end Go.Proofs.Ytgpjjolgpppeeaa.P
