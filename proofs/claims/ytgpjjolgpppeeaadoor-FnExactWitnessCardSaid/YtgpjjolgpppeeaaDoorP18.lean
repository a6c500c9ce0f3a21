/-
  Chapter 9, plain: requests, replies and frames as lists of bytes. Own work.
-/
import Derived.Test.YtgpjjolgpppeeaaDoorP01
namespace Go.Proofs.YtgpjjolgpppeeaaDoor
open P
set_option linter.unusedVariables false

def isW (n : Int) : Bool := decide (0 ≤ n ∧ n ≤ 65535)
/-- Which kinds use C, B, A, a text that is not empty, a text. -/
def rqC (k : Int) : Bool := decide (k = 12 ∨ k = 13)
def rqB (k : Int) : Bool := rqC k || decide (k = 4 ∨ k = 5 ∨ k = 6 ∨ k = 10 ∨ k = 11 ∨ k = 14)
def rqA (k : Int) : Bool := rqB k || decide (k = 3 ∨ k = 7 ∨ k = 8 ∨ k = 9)
def rqF (k : Int) : Bool := decide (k = 7 ∨ k = 8)
def rqX (k : Int) : Bool := rqF k || decide (k = 3 ∨ k = 5)
def rqHead (k s a b c : Int) : Bool := decide (1 ≤ k ∧ k ≤ 16) && decide (1 ≤ s ∧ s ≤ 8) && isW a && isW b && isW c
def rqNums (k a b c : Int) : Bool := (rqA k || decide (a = 0)) && (rqB k || decide (b = 0)) && (rqC k || decide (c = 0))
def rqTail (k : Int) (n : Nat) : Bool := (rqX k || decide (n = 0)) && (!rqF k || decide (0 < n))
def rqOk (k s a b c : Int) (t : List UInt8) : Bool := rqHead k s a b c && (isText t && decide (t.length ≤ 100)) && (rqNums k a b c && rqTail k t.length)
def rqEd (k : Int) : Bool := decide (k = 3 ∨ k = 4 ∨ k = 5)

/-- A number in two bytes. -/
def w2 (n : Int) : List UInt8 := [u8 (n / 256), u8 (n % 256)]
def wd (l : List UInt8) (i : Nat) : Int := 256 * ((l.getD i 0).toNat : Int) + ((l.getD (i + 1) 0).toNat : Int)
def rqEnc (k s a b c : Int) (t : List UInt8) : List UInt8 := u8 k :: u8 s :: (w2 a ++ (w2 b ++ (w2 c ++ (u8 t.length :: t))))
def rqBytes (k s a b c : Int) (t : List UInt8) : List UInt8 := if rqOk k s a b c t = true then rqEnc k s a b c t else []
def gb (d : List UInt8) (i : Nat) : Int := ((d.getD i 0).toNat : Int)
/-- Is d the encoding of a request? -/
def rqGood (d : List UInt8) : Bool := decide (9 ≤ d.length) && decide ((d.length : Int) - 9 = gb d 8) && rqOk (gb d 0) (gb d 1) (wd d 2) (wd d 4) (wd d 6) (d.drop 9)

def rpOk (k a b : Int) (t : List UInt8) : Bool := decide (0 ≤ k ∧ k ≤ 10) && isW a && isW b && isText t && (decide (k = 0) || (decide (a = 0 ∧ b = 0) && decide (t.length = 0)))
def rpEnc (k a b : Int) (t : List UInt8) : List UInt8 := u8 k :: (w2 a ++ (w2 b ++ (w2 t.length ++ t)))
def rpBytes (k a b : Int) (t : List UInt8) : List UInt8 := if rpOk k a b t = true then rpEnc k a b t else []
def rpGood (d : List UInt8) : Bool := decide (7 ≤ d.length) && decide ((d.length : Int) - 7 = wd d 5) && rpOk (gb d 0) (wd d 1) (wd d 3) (d.drop 7)

def frOk (ps : List (List UInt8)) : Bool := decide (ps.length ≤ 100) && ps.all (fun t => decide (t.length ≤ 1000))
def frOne (t : List UInt8) : List UInt8 := w2 t.length ++ t
def frAll (ps : List (List UInt8)) : List UInt8 := ps.flatMap frOne
def frOf (ps : List (List UInt8)) : List UInt8 := if frOk ps = true then frAll ps else []
/-- Is there a whole piece at the start of d? -/
def frHas (d : List UInt8) : Bool := decide (2 ≤ d.length) && (decide (wd d 0 ≤ 1000) && decide (2 + wd d 0 ≤ d.length))
def frCut : Nat → List UInt8 → List (List UInt8) × Nat
  | 0, _ => ([], 0)
  | f + 1, d => if frHas d = true then ((d.drop 2).take (wd d 0).toNat :: (frCut f (d.drop (2 + (wd d 0).toNat))).1, 2 + (wd d 0).toNat + (frCut f (d.drop (2 + (wd d 0).toNat))).2) else ([], 0)

theorem w2_len (n : Int) : (w2 n).length = 2 := rfl
theorem frOne_len (t : List UInt8) : (frOne t).length = 2 + t.length := by unfold frOne; rw [List.length_append, w2_len]
theorem gb_bd (d : List UInt8) (i : Nat) : 0 ≤ gb d i ∧ gb d i ≤ 255 := by have := (d.getD i 0).toNat_lt; unfold gb; omega
theorem wd_bd (d : List UInt8) (i : Nat) : 0 ≤ wd d i ∧ wd d i ≤ 65535 := by have := (d.getD i 0).toNat_lt; have := (d.getD (i + 1) 0).toNat_lt; unfold wd; omega
theorem wd_w2 (n : Int) (h0 : 0 ≤ n) (h1 : n ≤ 65535) (r : List UInt8) : wd (w2 n ++ r) 0 = n := by
  unfold wd w2
  simp only [List.cons_append, List.nil_append, List.getD_cons_zero, List.getD_cons_succ, Nat.zero_add]
  rw [u8_toNat _ (by omega) (by omega), u8_toNat _ (by omega) (by omega)]
  omega
theorem u8_gb (d : List UInt8) (i : Nat) : u8 (gb d i) = d.getD i 0 := by
  apply UInt8.toNat_inj.1
  have := (d.getD i 0).toNat_lt
  have h := u8_toNat (gb d i) (gb_bd d i).1 (by have := (gb_bd d i).2; omega)
  unfold gb at h ⊢
  omega
theorem w2_wd (d : List UInt8) (i : Nat) : w2 (wd d i) = [d.getD i 0, d.getD (i + 1) 0] := by
  have h1 := (d.getD i 0).toNat_lt
  have h2 := (d.getD (i + 1) 0).toNat_lt
  have e1 : wd d i / 256 = gb d i := by unfold wd gb; omega
  have e2 : wd d i % 256 = gb d (i + 1) := by unfold wd gb; omega
  unfold w2
  rw [e1, e2, u8_gb, u8_gb]

/-- One step of the cut. -/
theorem frCut_step (f : Nat) (d : List UInt8) (h : frHas d = true) : frCut (f + 1) d = ((d.drop 2).take (wd d 0).toNat :: (frCut f (d.drop (2 + (wd d 0).toNat))).1, 2 + (wd d 0).toNat + (frCut f (d.drop (2 + (wd d 0).toNat))).2) := by
  rw [frCut, if_pos h]
theorem frCut_stop (f : Nat) (d : List UInt8) (h : frHas d = false) : frCut f d = ([], 0) := by
  cases f
  · rfl
  · rw [frCut, if_neg (by rw [h]; simp)]
theorem frCut_le : ∀ (f : Nat) (d : List UInt8), (frCut f d).1.length ≤ f ∧ (frCut f d).2 ≤ d.length
  | 0, d => ⟨Nat.le_refl _, Nat.zero_le _⟩
  | f + 1, d => by
    cases h : frHas d
    · rw [frCut_stop _ _ h]; exact ⟨Nat.zero_le _, Nat.zero_le _⟩
    · rw [frCut_step _ _ h]
      have := frCut_le f (d.drop (2 + (wd d 0).toNat))
      have hb := wd_bd d 0
      unfold frHas at h
      simp only [Bool.and_eq_true, decide_eq_true_eq] at h
      rw [List.length_drop] at this
      refine ⟨by simp; omega, ?_⟩
      show 2 + (wd d 0).toNat + _ ≤ _
      omega
theorem frHas_one (t r : List UInt8) (h : t.length ≤ 1000) : frHas (frOne t ++ r) = true := by
  have hw : wd (frOne t ++ r) 0 = t.length := by
    unfold frOne
    rw [List.append_assoc]
    exact wd_w2 _ (by omega) (by omega) _
  unfold frHas
  rw [hw, List.length_append, frOne_len]
  simp only [Bool.and_eq_true, decide_eq_true_eq]
  omega
theorem frCut_one (f : Nat) (t r : List UInt8) (h : t.length ≤ 1000) : frCut (f + 1) (frOne t ++ r) = (t :: (frCut f r).1, 2 + t.length + (frCut f r).2) := by
  have hw : wd (frOne t ++ r) 0 = t.length := by
    unfold frOne
    rw [List.append_assoc]
    exact wd_w2 _ (by omega) (by omega) _
  rw [frCut_step _ _ (frHas_one t r h), hw, Int.toNat_natCast]
  have e1 : (frOne t ++ r).drop (2 + t.length) = r := by rw [← frOne_len t, List.drop_left]
  have e2 : ((frOne t ++ r).drop 2).take t.length = t := by
    unfold frOne
    rw [List.append_assoc]
    show (t ++ r).take t.length = t
    rw [List.take_left]
  rw [e1, e2]
theorem frCut_all (r : List UInt8) : ∀ (ps : List (List UInt8)) (f : Nat), ps.length ≤ f → (∀ t ∈ ps, t.length ≤ 1000) → frCut f (frAll ps ++ r) = (ps ++ (frCut (f - ps.length) r).1, (frAll ps).length + (frCut (f - ps.length) r).2)
  | [], f, _, _ => by simp [frAll]
  | t :: ps, 0, h, _ => by simp at h
  | t :: ps, f + 1, h, ht => by
    have e : frAll (t :: ps) = frOne t ++ frAll ps := rfl
    rw [e, List.append_assoc, frCut_one f t _ (ht t (List.mem_cons_self ..)), frCut_all r ps f (by simpa using h) (fun x hx => ht x (List.mem_cons_of_mem _ hx)), List.length_append, frOne_len]
    simp only [List.length_cons, Nat.add_sub_add_right, List.cons_append, Prod.mk.injEq, true_and]
    omega
/-- A piece that lacks its end is no piece. -/
theorem frHas_cut (t : List UInt8) (m : Nat) (h : t.length ≤ 1000) (hm : m < 2 + t.length) : frHas ((frOne t).take m) = false := by
  by_cases h2 : m < 2
  · unfold frHas
    rw [decide_eq_false (by rw [List.length_take]; omega)]
    rfl
  · have hw : wd ((frOne t).take m) 0 = t.length := by
      obtain ⟨j, rfl⟩ : ∃ j, m = j + 2 := ⟨m - 2, by omega⟩
      have e : (frOne t).take (j + 2) = w2 t.length ++ t.take j := by unfold frOne w2; simp
      rw [e]
      exact wd_w2 _ (by omega) (by omega) _
    unfold frHas
    rw [hw, List.length_take, frOne_len]
    simp only [Bool.and_eq_false_iff, decide_eq_false_iff_not]
    omega
theorem nine {d : List UInt8} (h : 9 ≤ d.length) : ∃ a b c e f g i j k r, d = a :: b :: c :: e :: f :: g :: i :: j :: k :: r := by
  match d, h with
  | a :: b :: c :: e :: f :: g :: i :: j :: k :: r, _ => exact ⟨a, b, c, e, f, g, i, j, k, r, rfl⟩
theorem seven {d : List UInt8} (h : 7 ≤ d.length) : ∃ a b c e f g i r, d = a :: b :: c :: e :: f :: g :: i :: r := by
  match d, h with
  | a :: b :: c :: e :: f :: g :: i :: r, _ => exact ⟨a, b, c, e, f, g, i, r, rfl⟩
/-- What is read out of d is encoded as d just where the length of the text is told. -/
theorem rqEnc_get {d : List UInt8} (h : 9 ≤ d.length) (h2 : d.length ≤ 109) : rqEnc (gb d 0) (gb d 1) (wd d 2) (wd d 4) (wd d 6) (d.drop 9) = d ↔ (d.length : Int) - 9 = gb d 8 := by
  obtain ⟨a, b, c, e, f, g, i, j, k, r, rfl⟩ := nine h
  have hl : (a :: b :: c :: e :: f :: g :: i :: j :: k :: r).length = r.length + 9 := rfl
  rw [hl] at h2 ⊢
  unfold rqEnc
  rw [w2_wd, w2_wd, w2_wd, u8_gb, u8_gb]
  show a :: b :: c :: e :: f :: g :: i :: j :: u8 (r.length : Int) :: r = a :: b :: c :: e :: f :: g :: i :: j :: k :: r ↔ ((r.length + 9 : Nat) : Int) - 9 = (k.toNat : Int)
  have hu := u8_toNat (r.length : Int) (by omega) (by omega)
  constructor
  · intro he
    simp only [List.cons.injEq, true_and, and_true] at he
    rw [← he, hu]; omega
  · intro he
    have : u8 (r.length : Int) = k := UInt8.toNat_inj.1 (by omega)
    rw [this]
theorem rqOk_len {k s a b c : Int} {t : List UInt8} (h : rqOk k s a b c t = true) : t.length ≤ 100 := by
  unfold rqOk at h
  simp only [Bool.and_eq_true, decide_eq_true_eq] at h
  exact h.1.2.2
/-- The model's test of what it has read. -/
theorem rqGood_model {d : List UInt8} (h : 9 ≤ d.length) : rqGood d = (rqOk (gb d 0) (gb d 1) (wd d 2) (wd d 4) (wd d 6) (d.drop 9) && decide (rqBytes (gb d 0) (gb d 1) (wd d 2) (wd d 4) (wd d 6) (d.drop 9) = d)) := by
  unfold rqGood rqBytes
  rw [decide_eq_true h, Bool.true_and]
  cases ho : rqOk (gb d 0) (gb d 1) (wd d 2) (wd d 4) (wd d 6) (d.drop 9)
  · simp
  · have := rqOk_len ho
    rw [List.length_drop] at this
    rw [if_pos rfl, Bool.and_true, Bool.true_and]
    exact decide_eq_decide.2 (rqEnc_get h (by omega)).symm
theorem rqGood_short {d : List UInt8} (h : d.length < 9) : rqGood d = false := by unfold rqGood; rw [decide_eq_false (by omega)]; rfl
theorem rqGood_wrong {d : List UInt8} (h : (d.length : Int) - 9 ≠ gb d 8) : rqGood d = false := by unfold rqGood; rw [decide_eq_false h]; simp
theorem rqGood_right {d : List UInt8} (h : 9 ≤ d.length) (h2 : (d.length : Int) - 9 = gb d 8) : rqGood d = rqOk (gb d 0) (gb d 1) (wd d 2) (wd d 4) (wd d 6) (d.drop 9) := by
  unfold rqGood; rw [decide_eq_true h, decide_eq_true h2]; rfl
theorem rpEnc_get {d : List UInt8} (h : 7 ≤ d.length) (h2 : d.length ≤ 407) : rpEnc (gb d 0) (wd d 1) (wd d 3) (d.drop 7) = d ↔ (d.length : Int) - 7 = wd d 5 := by
  obtain ⟨a, b, c, e, f, g, i, r, rfl⟩ := seven h
  have hl : (a :: b :: c :: e :: f :: g :: i :: r).length = r.length + 7 := rfl
  rw [hl] at h2 ⊢
  unfold rpEnc
  rw [w2_wd, w2_wd, u8_gb]
  show a :: b :: c :: e :: f :: u8 ((r.length : Int) / 256) :: u8 ((r.length : Int) % 256) :: r = a :: b :: c :: e :: f :: g :: i :: r ↔ ((r.length + 7 : Nat) : Int) - 7 = 256 * (g.toNat : Int) + (i.toNat : Int)
  have hu := u8_toNat ((r.length : Int) / 256) (by omega) (by omega)
  have hv := u8_toNat ((r.length : Int) % 256) (by omega) (by omega)
  have hg := g.toNat_lt
  have hi := i.toNat_lt
  constructor
  · intro he
    simp only [List.cons.injEq, true_and, and_true] at he
    rw [← he.1, ← he.2, hu, hv]; omega
  · intro he
    have e1 : u8 ((r.length : Int) / 256) = g := UInt8.toNat_inj.1 (by omega)
    have e2 : u8 ((r.length : Int) % 256) = i := UInt8.toNat_inj.1 (by omega)
    rw [e1, e2]
theorem rpOk_len {k a b : Int} {t : List UInt8} (h : rpOk k a b t = true) : t.length ≤ 400 := by
  unfold rpOk isText at h
  simp only [Bool.and_eq_true, decide_eq_true_eq] at h
  exact h.1.2.1
theorem rpGood_model {d : List UInt8} (h : 7 ≤ d.length) : rpGood d = (rpOk (gb d 0) (wd d 1) (wd d 3) (d.drop 7) && decide (rpBytes (gb d 0) (wd d 1) (wd d 3) (d.drop 7) = d)) := by
  unfold rpGood rpBytes
  rw [decide_eq_true h, Bool.true_and]
  cases ho : rpOk (gb d 0) (wd d 1) (wd d 3) (d.drop 7)
  · simp
  · have := rpOk_len ho
    rw [List.length_drop] at this
    rw [if_pos rfl, Bool.and_true, Bool.true_and]
    exact decide_eq_decide.2 (rpEnc_get h (by omega)).symm
theorem rpGood_short {d : List UInt8} (h : d.length < 7) : rpGood d = false := by unfold rpGood; rw [decide_eq_false (by omega)]; rfl
theorem rpGood_wrong {d : List UInt8} (h : (d.length : Int) - 7 ≠ wd d 5) : rpGood d = false := by unfold rpGood; rw [decide_eq_false h]; simp
theorem rpGood_right {d : List UInt8} (h : 7 ≤ d.length) (h2 : (d.length : Int) - 7 = wd d 5) : rpGood d = rpOk (gb d 0) (wd d 1) (wd d 3) (d.drop 7) := by
  unfold rpGood; rw [decide_eq_true h, decide_eq_true h2]; rfl
/-- The encoding of a valid request is read back. -/
theorem rq_back {k s a b c : Int} {t : List UInt8} (h : rqOk k s a b c t = true) : gb (rqEnc k s a b c t) 0 = k ∧ gb (rqEnc k s a b c t) 1 = s ∧ wd (rqEnc k s a b c t) 2 = a ∧ wd (rqEnc k s a b c t) 4 = b ∧ wd (rqEnc k s a b c t) 6 = c ∧ (rqEnc k s a b c t).drop 9 = t ∧ rqGood (rqEnc k s a b c t) = true := by
  have h0 := h
  have hl := rqOk_len h
  unfold rqOk rqHead isW at h
  simp only [Bool.and_eq_true, decide_eq_true_eq] at h
  have e0 : gb (rqEnc k s a b c t) 0 = k := u8_toNat k (by omega) (by omega)
  have e1 : gb (rqEnc k s a b c t) 1 = s := u8_toNat s (by omega) (by omega)
  have e2 : wd (rqEnc k s a b c t) 2 = a := wd_w2 a (by omega) (by omega) []
  have e3 : wd (rqEnc k s a b c t) 4 = b := wd_w2 b (by omega) (by omega) []
  have e4 : wd (rqEnc k s a b c t) 6 = c := wd_w2 c (by omega) (by omega) []
  have e5 : (rqEnc k s a b c t).drop 9 = t := rfl
  have e6 : gb (rqEnc k s a b c t) 8 = t.length := u8_toNat (t.length : Int) (by omega) (by omega)
  have e7 : (rqEnc k s a b c t).length = t.length + 9 := rfl
  refine ⟨e0, e1, e2, e3, e4, e5, ?_⟩
  rw [rqGood_right (by omega) (by rw [e6, e7]; omega), e0, e1, e2, e3, e4, e5]
  exact h0
theorem rp_back {k a b : Int} {t : List UInt8} (h : rpOk k a b t = true) : gb (rpEnc k a b t) 0 = k ∧ wd (rpEnc k a b t) 1 = a ∧ wd (rpEnc k a b t) 3 = b ∧ (rpEnc k a b t).drop 7 = t ∧ rpGood (rpEnc k a b t) = true := by
  have h0 := h
  have hl := rpOk_len h
  unfold rpOk isW at h
  simp only [Bool.and_eq_true, decide_eq_true_eq] at h
  have e0 : gb (rpEnc k a b t) 0 = k := u8_toNat k (by omega) (by omega)
  have e2 : wd (rpEnc k a b t) 1 = a := wd_w2 a (by omega) (by omega) []
  have e3 : wd (rpEnc k a b t) 3 = b := wd_w2 b (by omega) (by omega) []
  have e5 : (rpEnc k a b t).drop 7 = t := rfl
  have e6 : wd (rpEnc k a b t) 5 = t.length := wd_w2 (t.length : Int) (by omega) (by omega) []
  have e7 : (rpEnc k a b t).length = t.length + 7 := rfl
  refine ⟨e0, e2, e3, e5, ?_⟩
  rw [rpGood_right (by omega) (by rw [e6, e7]; omega), e0, e2, e3, e5]
  exact h0
end Go.Proofs.YtgpjjolgpppeeaaDoor
