/-
  Chapter 4 in plain Lean: a text by its lines, and where a line and a column lie. Own work.
  Chapter 4 in plain Lean: the place of a line and a column. Own work.
-/
import Derived.Test.YtkplfbhblbinaaaDoorP04
import Derived.Test.YtkplfbhblbinaaaDoorP01d
import Derived.Lib.SlSplitV
namespace Go.Proofs.YtkplfbhblbinaaaDoor.P
set_option linter.unusedVariables false

def linesOf : List UInt8 → List (List UInt8)
  | [] => [[]]
  | b :: t => if b = 10 then [] :: linesOf t else match linesOf t with
    | [] => [[b]]
    | h :: r => (b :: h) :: r

theorem linesOf_cons (b : UInt8) (t : List UInt8) : linesOf (b :: t) = if b = 10 then [] :: linesOf t else match linesOf t with
    | [] => [[b]]
    | h :: r => (b :: h) :: r := rfl
theorem linesOf_ne (l : List UInt8) : linesOf l ≠ [] := by
  cases l with
  | nil => simp [linesOf]
  | cons b t =>
    unfold linesOf
    split
    · simp
    · split <;> simp
theorem linesOf_no : ∀ (l : List UInt8), (10 : UInt8) ∉ l → linesOf l = [l]
  | [], _ => rfl
  | b :: t, h => by
    have hb : b ≠ 10 := fun e => h (by simp [e])
    have ht := linesOf_no t (fun e => h (by simp [e]))
    rw [linesOf_cons, if_neg hb, ht]
theorem linesOf_app : ∀ (a t : List UInt8), (10 : UInt8) ∉ a → linesOf (a ++ 10 :: t) = a :: linesOf t
  | [], t, _ => by simp [linesOf]
  | b :: a, t, h => by
    have hb : b ≠ 10 := fun e => h (by simp [e])
    have ht := linesOf_app a t (fun e => h (by simp [e]))
    rw [List.cons_append, linesOf_cons, if_neg hb, ht]

/-- A list without newlines, or what is ahead of the first and what is behind it. -/
theorem line_cases (l : List UInt8) : (10 : UInt8) ∉ l ∨ ∃ a t, l = a ++ 10 :: t ∧ (10 : UInt8) ∉ a := by
  induction l with
  | nil => left; simp
  | cons b l ih =>
    by_cases hb : b = 10
    · exact .inr ⟨[], l, by rw [hb]; rfl, by simp⟩
    · rcases ih with h | ⟨a, t, rfl, h⟩
      · left; simp; exact ⟨fun e => hb e.symm, h⟩
      · exact .inr ⟨b :: a, t, rfl, by simp; exact ⟨fun e => hb e.symm, h⟩⟩

def startOf (ls : List (List UInt8)) (m : Nat) : Nat := ((ls.take m).map fun l => l.length + 1).sum
theorem startOf_zero (ls : List (List UInt8)) : startOf ls 0 = 0 := by simp [startOf]
theorem startOf_cons (a : List UInt8) (r : List (List UInt8)) (m : Nat) : startOf (a :: r) (m + 1) = a.length + 1 + startOf r m := by simp [startOf]
theorem startOf_succ (ls : List (List UInt8)) (m : Nat) (h : m < ls.length) : startOf ls (m + 1) = startOf ls m + (ls[m].length + 1) := by
  unfold startOf
  rw [List.take_succ_eq_append_getElem h, List.map_append, List.sum_append]
  simp

theorem lineFrom_no {l : List UInt8} (h : (10 : UInt8) ∉ l) : lineFrom l = 0 := by
  have key : ∀ k, k ≤ l.length → lineFrom (l.take k) = 0 := by
    intro k
    induction k with
    | zero => intro _; rw [List.take_zero]; rfl
    | succ k ih =>
      intro hk
      rw [lineFrom_take l k (by omega), if_neg (fun e => h (by rw [← e]; exact List.getElem_mem _))]
      exact ih (by omega)
  have := key l.length (Nat.le_refl _)
  rwa [List.take_length] at this
theorem lineFrom_nl (a u : List UInt8) : lineFrom (a ++ 10 :: u) = a.length + 1 + lineFrom u := by
  have key : ∀ k, k ≤ u.length → lineFrom (a ++ 10 :: u.take k) = a.length + 1 + lineFrom (u.take k) := by
    intro k
    induction k with
    | zero => intro _; rw [List.take_zero, lineFrom_snoc, if_pos rfl, lineFrom_nil]
    | succ k ih =>
      intro hk
      rw [List.take_succ_eq_append_getElem (by omega), show a ++ 10 :: (u.take k ++ [u[k]]) = (a ++ 10 :: u.take k) ++ [u[k]] by simp, lineFrom_snoc, lineFrom_snoc, ih (by omega)]
      split
      · simp; omega
      · rfl
  have := key u.length (Nat.le_refl _)
  rwa [List.take_length] at this
theorem count_no {l : List UInt8} (h : (10 : UInt8) ∉ l) : lines l = 0 := by unfold lines; exact List.count_eq_zero.2 h
theorem count_nl (a u : List UInt8) : lines (a ++ 10 :: u) = lines a + 1 + lines u := by
  rw [lines_app]
  unfold lines
  rw [List.count_cons]
  simp
  omega

theorem bound_nl (a t : List UInt8) (k : Nat) (hk : k ≤ a.length) : isBound (a ++ 10 :: t) (k : Int) = isBound a (k : Int) := by
  by_cases h : k < a.length
  · exact isBound_app_left a (10 :: t) k h
  · have e : k = a.length := by omega
    subst e
    rw [isBound_end]
    have := isBound_lt (a ++ 10 :: t) a.length (by simp)
    rw [this]
    simp
    rfl
theorem bound_nl2 (a t : List UInt8) (k : Nat) (hk : k ≤ t.length) : isBound (a ++ 10 :: t) ((a.length + 1 + k : Nat) : Int) = isBound t (k : Int) := by
  have h1 := isBound_app_right a (10 :: t) (1 + k) (by simp; omega)
  rw [show a.length + (1 + k) = a.length + 1 + k by omega] at h1
  rw [h1]
  have h2 := isBound_app_right [10] t k hk
  exact h2

/-- What a place of a text is in its lines. -/
def AtLine (T : List UInt8) (k : Nat) : Prop :=
  ∃ L, (linesOf T)[lines (T.take k)]? = some L ∧ lineFrom (T.take k) ≤ k ∧ k - lineFrom (T.take k) ≤ L.length ∧ (T.take k).drop (lineFrom (T.take k)) = L.take (k - lineFrom (T.take k)) ∧
    isBound T (k : Int) = isBound L ((k - lineFrom (T.take k) : Nat) : Int) ∧ lineFrom (T.take k) = startOf (linesOf T) (lines (T.take k))

theorem atLine : ∀ (n : Nat) (T : List UInt8), T.length ≤ n → ∀ k, k ≤ T.length → AtLine T k := by
  intro n
  induction n with
  | zero =>
    intro T hT k hk
    have : T = [] := List.eq_nil_of_length_eq_zero (by omega)
    subst this
    have : k = 0 := by simpa using hk
    subst this
    exact ⟨[], by simp [linesOf, lines], by simp [lineFrom], by simp, by simp, rfl, by simp [lineFrom, lines, startOf]⟩
  | succ n ih =>
    intro T hT k hk
    rcases line_cases T with h | ⟨a, t, rfl, h⟩
    · have hn : (10 : UInt8) ∉ T.take k := fun e => h (List.mem_of_mem_take e)
      refine ⟨T, ?_, ?_, ?_, ?_, ?_, ?_⟩
      · rw [count_no hn, linesOf_no T h]; rfl
      · rw [lineFrom_no hn]; omega
      · rw [lineFrom_no hn]; omega
      · rw [lineFrom_no hn, Nat.sub_zero, List.drop_zero]
      · rw [lineFrom_no hn, Nat.sub_zero]
      · rw [lineFrom_no hn, count_no hn, startOf_zero]
    · by_cases hka : k ≤ a.length
      · have ht : (a ++ 10 :: t).take k = a.take k := by rw [List.take_append_of_le_length hka]
        have hn : (10 : UInt8) ∉ a.take k := fun e => h (List.mem_of_mem_take e)
        unfold AtLine
        rw [ht, count_no hn, lineFrom_no hn, linesOf_app a t h]
        exact ⟨a, rfl, by omega, by omega, by rw [Nat.sub_zero, List.drop_zero], by rw [Nat.sub_zero]; exact bound_nl a t k hka, by rw [startOf_zero]⟩
      · obtain ⟨k', rfl⟩ : ∃ k', k = a.length + 1 + k' := ⟨k - (a.length + 1), by omega⟩
        have hl : (a ++ 10 :: t).length = a.length + 1 + t.length := by simp; omega
        have hk' : k' ≤ t.length := by omega
        obtain ⟨L, h1, h2, h3, h4, h5, h6⟩ := ih t (by omega) k' hk'
        have ht : (a ++ 10 :: t).take (a.length + 1 + k') = a ++ 10 :: t.take k' := by
          rw [List.take_append, List.take_of_length_le (by omega), show a.length + 1 + k' - a.length = k' + 1 by omega, List.take_succ_cons]
        unfold AtLine
        rw [ht, count_nl, lineFrom_nl, linesOf_app a t h, count_no h]
        have e0 : 0 + 1 + lines (t.take k') = lines (t.take k') + 1 := by omega
        rw [e0]
        have e1 : a.length + 1 + k' - (a.length + 1 + lineFrom (t.take k')) = k' - lineFrom (t.take k') := by omega
        rw [e1]
        refine ⟨L, by rw [List.getElem?_cons_succ]; exact h1, by omega, h3, ?_, ?_, ?_⟩
        · rw [← h4, List.drop_append, List.drop_of_length_le (by omega), List.nil_append, show a.length + 1 + lineFrom (t.take k') - a.length = lineFrom (t.take k') + 1 by omega, List.drop_succ_cons]
        · rw [bound_nl2 a t k' hk']; exact h5
        · rw [startOf_cons, ← h6]

theorem ofLine : ∀ (n : Nat) (T : List UInt8), T.length ≤ n → ∀ m L, (linesOf T)[m]? = some L → ∀ q, q ≤ L.length →
    startOf (linesOf T) m + q ≤ T.length ∧ lines (T.take (startOf (linesOf T) m + q)) = m ∧ lineFrom (T.take (startOf (linesOf T) m + q)) = startOf (linesOf T) m := by
  intro n
  induction n with
  | zero =>
    intro T hT m L hL q hq
    have : T = [] := List.eq_nil_of_length_eq_zero (by omega)
    subst this
    match m, hL with
    | 0, hL =>
      simp [linesOf] at hL
      subst hL
      have : q = 0 := by simpa using hq
      subst this
      simp [startOf, lines, lineFrom]
    | m + 1, hL => simp [linesOf] at hL
  | succ n ih =>
    intro T hT m L hL q hq
    rcases line_cases T with h | ⟨a, t, rfl, h⟩
    · rw [linesOf_no T h] at hL ⊢
      match m, hL with
      | 0, hL =>
        simp at hL
        subst hL
        have hn : (10 : UInt8) ∉ T.take q := fun e => h (List.mem_of_mem_take e)
        rw [startOf_zero, Nat.zero_add]
        exact ⟨hq, count_no hn, lineFrom_no hn⟩
      | m + 1, hL => simp at hL
    · have hl : (a ++ 10 :: t).length = a.length + 1 + t.length := by simp; omega
      rw [linesOf_app a t h] at hL ⊢
      match m, hL with
      | 0, hL =>
        simp at hL
        subst hL
        have ht : (a ++ 10 :: t).take q = a.take q := by rw [List.take_append_of_le_length hq]
        have hn : (10 : UInt8) ∉ a.take q := fun e => h (List.mem_of_mem_take e)
        rw [startOf_zero, Nat.zero_add, ht]
        exact ⟨by omega, count_no hn, lineFrom_no hn⟩
      | m + 1, hL =>
        rw [List.getElem?_cons_succ] at hL
        obtain ⟨h1, h2, h3⟩ := ih t (by omega) m L hL q hq
        rw [startOf_cons]
        have ht : (a ++ 10 :: t).take (a.length + 1 + startOf (linesOf t) m + q) = a ++ 10 :: t.take (startOf (linesOf t) m + q) := by
          rw [List.take_append, List.take_of_length_le (by omega), show a.length + 1 + startOf (linesOf t) m + q - a.length = (startOf (linesOf t) m + q) + 1 by omega, List.take_succ_cons]
        rw [ht, count_nl, lineFrom_nl, count_no h, h2, h3]
        exact ⟨by omega, by omega, rfl⟩

theorem linesOf_ok : ∀ (n : Nat) (T : List UInt8), T.length ≤ n → okS 0 T = true → ∀ L ∈ linesOf T, okS 0 L = true ∧ L.length ≤ T.length := by
  intro n
  induction n with
  | zero =>
    intro T hT hok L hL
    have : T = [] := List.eq_nil_of_length_eq_zero (by omega)
    subst this
    simp [linesOf] at hL
    subst hL
    exact ⟨hok, Nat.le_refl _⟩
  | succ n ih =>
    intro T hT hok L hL
    rcases line_cases T with h | ⟨a, t, rfl, h⟩
    · rw [linesOf_no T h] at hL
      simp at hL
      subst hL
      exact ⟨hok, Nat.le_refl _⟩
    · have hl : (a ++ 10 :: t).length = a.length + 1 + t.length := by simp; omega
      have hb : isBound (a ++ 10 :: t) (a.length : Int) = true := by rw [bound_nl a t a.length (Nat.le_refl _), isBound_end]
      have ha := okS_take _ (a ++ 10 :: t) a.length (Nat.le_refl _) (by omega) hok hb
      rw [List.take_left'] at ha
      · have ht := okS_of_bound hok (k := a.length) (by omega) hb
        rw [List.drop_left'] at ht
        · rw [okS_step (by simp)] at ht
          have hs : sz (10 :: t) = 1 := by unfold sz decL; rfl
          rw [hs] at ht
          simp at ht
          rw [linesOf_app a t h] at hL
          rcases List.mem_cons.1 hL with rfl | hL
          · exact ⟨ha, by omega⟩
          · have := ih t (by omega) ht L hL
            exact ⟨this.1, by omega⟩
        · rfl
      · rfl
end Go.Proofs.YtkplfbhblbinaaaDoor.P

namespace Go.Proofs.YtkplfbhblbinaaaDoor.P
set_option linter.unusedVariables false

theorem occ_ten (s : List UInt8) (j : Nat) : Go.Lib.occAt s [10] j = true ↔ ∃ h : j < s.length, s[j] = 10 := by
  unfold Go.Lib.occAt
  by_cases h : j < s.length
  · rw [List.drop_eq_getElem_cons h]
    simp [List.isPrefixOf, h]
    exact eq_comm
  · rw [List.drop_of_length_le (by omega)]
    simp [List.isPrefixOf]
    intro h'
    omega

theorem split_lines : ∀ (k : Nat) (l : List UInt8), lines l ≤ k → Go.Lib.splitK [10] 0 k l = linesOf l := by
  intro k
  induction k with
  | zero =>
    intro l h
    have hn : (10 : UInt8) ∉ l := by
      unfold lines at h
      exact List.count_eq_zero.1 (by omega)
    rw [linesOf_no l hn]
    rfl
  | succ k ih =>
    intro l h
    rcases line_cases l with hn | ⟨a, t, rfl, hn⟩
    · have hi : Go.Lib.index l [10] = -1 := Go.Lib.index_none (fun j hj => by
        rw [Bool.eq_false_iff]
        intro e
        obtain ⟨h1, h2⟩ := (occ_ten l j).1 e
        exact hn (by rw [← h2]; exact List.getElem_mem _))
      rw [linesOf_no l hn]
      unfold Go.Lib.splitK
      rw [if_pos (beq_iff_eq.2 hi)]
    · have hi : Go.Lib.index (a ++ 10 :: t) [10] = (a.length : Nat) := Go.Lib.index_first (by simp) ((occ_ten _ _).2 ⟨by simp, by simp⟩) (fun j hj => by
        rw [Bool.eq_false_iff]
        intro e
        obtain ⟨h1, h2⟩ := (occ_ten _ j).1 e
        rw [List.getElem_append_left hj] at h2
        exact hn (by rw [← h2]; exact List.getElem_mem _))
      have hne : ¬ (Go.Lib.index (a ++ 10 :: t) [10] == -1) = true := fun e => by have := beq_iff_eq.1 e; omega
      rw [count_nl] at h
      rw [linesOf_app a t hn, Go.Lib.splitK, if_neg hne, hi]
      have e1 : ((a.length : Nat) : Int).toNat = a.length := by omega
      rw [e1]
      congr 1
      · rw [Nat.add_zero, List.take_left']; rfl
      · rw [← ih t (by omega)]
        congr 1
        rw [show a.length + ([10] : List UInt8).length = a.length + 1 from rfl, List.drop_append, List.drop_of_length_le (by omega), List.nil_append, show a.length + 1 - a.length = 1 by omega]
        rfl

theorem runesBefore_take (l : List UInt8) (q : Nat) (hq : q ≤ l.length) : runesBefore (l.take q) q = runesBefore l q := by
  unfold runesBefore
  congr 1
  apply List.filter_congr
  intro j hj
  have hj : j < q := by simpa using hj
  have h := isBound_app_left (l.take q) (l.drop q) j (by rw [List.length_take]; omega)
  rw [List.take_append_drop] at h
  exact h.symm

theorem runeCount_take {L : List UInt8} {q : Nat} (ht : isText L = true) (hq : q ≤ L.length) (hb : isBound L (q : Int) = true) : runeCount (L.take q) = runesTo L (q : Int) := by
  rw [runeCount_is (isText_take ht hq hb), List.length_take, Nat.min_eq_left hq, runesBefore_take L q hq]
  unfold runesTo
  rw [if_pos ⟨ht, hb⟩, Int.toNat_natCast]

theorem linesOf_text {T : List UInt8} (ht : isText T = true) {m : Nat} {L : List UInt8} (h : (linesOf T)[m]? = some L) : isText L = true := by
  have hm : L ∈ linesOf T := List.mem_of_getElem? h
  have h1 := linesOf_ok T.length T (Nat.le_refl _) (isText_ok ht) L hm
  exact isText_of (by have := isText_len ht; omega) h1.1

/-- r is the place of the line and the column; -1 where there is none. -/
def IsPlace (ls : List (List UInt8)) (line col r : Int) : Prop :=
  (∃ k : Nat, r = k ∧ rCut ls (k : Int) = true ∧ ropeLine ls (k : Int) = (line, col)) ∨ (r = -1 ∧ ∀ k : Nat, rCut ls (k : Int) = true → ropeLine ls (k : Int) ≠ (line, col))

theorem place_spec {ls : List (List UInt8)} {k : Nat} {line col : Int} (hc : rCut ls (k : Int) = true) (h : ropeLine ls (k : Int) = (line, col)) :
    ∃ (m : Nat) (L : List UInt8), line = (m : Int) ∧ (linesOf (chunksText ls))[m]? = some L ∧ startOf (linesOf (chunksText ls)) m ≤ k ∧ placeOf L col = ((k - startOf (linesOf (chunksText ls)) m : Nat) : Int) := by
  obtain ⟨_, k', hk', hle, hb⟩ := rCut_true hc
  have : k' = k := by omega
  subst this
  unfold ropeLine at h
  rw [if_pos hc, Int.toNat_natCast] at h
  have ht := chunksText_isText ls
  generalize chunksText ls = T at *
  obtain ⟨L, h1, h2, h3, h4, h5, h6⟩ := atLine T.length T (Nat.le_refl _) k' hle
  rw [h4] at h
  rw [hb] at h5
  have hL := linesOf_text ht h1
  rw [runeCount_take hL h3 h5.symm] at h
  refine ⟨lines (T.take k'), L, (congrArg Prod.fst h).symm, h1, by rw [← h6]; exact h2, ?_⟩
  have hcol : runesTo L ((k' - lineFrom (T.take k') : Nat) : Int) = col := congrArg Prod.snd h
  rw [← hcol, ← h6]
  refine placeOf_runesTo L _ ?_
  unfold runesTo
  rw [if_pos ⟨hL, h5.symm⟩]
  omega

theorem placeOf_pos {L : List UInt8} {n : Int} (h : 0 ≤ placeOf L n) : ∃ q : Nat, placeOf L n = (q : Int) ∧ q ≤ L.length ∧ isBound L (q : Int) = true ∧ runesTo L (q : Int) = n := by
  by_cases ho : n < 0 ∨ ((cutsOr L).length : Int) ≤ n
  · rw [placeOf_out L n ho] at h; omega
  · have hn : n.toNat < (cutsOr L).length := by omega
    have hp := placeOf_in L n.toNat hn
    rw [show ((n.toNat : Nat) : Int) = n by omega] at hp
    have hr := runesTo_found L n.toNat hn
    rw [show ((n.toNat : Nat) : Int) = n by omega] at hr
    obtain ⟨_, k, hk, hkl, hb, _⟩ := runesTo_pos (l := L) (a := ((cutsOr L)[n.toNat] : Nat)) (by omega)
    have e : (cutsOr L)[n.toNat] = k := by omega
    exact ⟨(cutsOr L)[n.toNat], hp, by omega, by rw [e]; exact hb, hr⟩

theorem place_back {ls : List (List UInt8)} (hok : chunksOk ls = true) {m : Nat} {L : List UInt8} {col : Int} (hL : (linesOf (chunksText ls))[m]? = some L) (hp : 0 ≤ placeOf L col) :
    rCut ls (((startOf (linesOf (chunksText ls)) m + (placeOf L col).toNat : Nat)) : Int) = true ∧ ropeLine ls (((startOf (linesOf (chunksText ls)) m + (placeOf L col).toNat : Nat)) : Int) = ((m : Int), col) := by
  obtain ⟨q, hq, hql, hqb, hqr⟩ := placeOf_pos hp
  have ht := chunksText_isText ls
  have e : (placeOf L col).toNat = q := by omega
  rw [e]
  obtain ⟨h1, h2, h3⟩ := ofLine _ (chunksText ls) (Nat.le_refl _) m L hL q hql
  obtain ⟨L', g1, g2, g3, g4, g5, g6⟩ := atLine _ (chunksText ls) (Nat.le_refl _) _ h1
  rw [h2] at g1
  rw [hL] at g1
  cases g1
  rw [h3] at g3 g4 g5
  rw [Nat.add_sub_cancel_left] at g3 g4 g5
  have hc : rCut ls (((startOf (linesOf (chunksText ls)) m + q : Nat)) : Int) = true := by
    unfold rCut
    rw [hok, Bool.true_and, g5]
    exact hqb
  refine ⟨hc, ?_⟩
  unfold ropeLine
  rw [if_pos hc, Int.toNat_natCast, h2, h3, g4, runeCount_take (linesOf_text ht hL) hql hqb, hqr]

theorem IsPlace.unique {ls : List (List UInt8)} {line col r s : Int} (h : IsPlace ls line col r) (g : IsPlace ls line col s) : r = s := by
  rcases h with ⟨i, rfl, h1, h2⟩ | ⟨rfl, h⟩ <;> rcases g with ⟨j, rfl, g1, g2⟩ | ⟨rfl, g⟩
  · obtain ⟨m, L, a1, a2, a3, a4⟩ := place_spec h1 h2
    obtain ⟨m', L', b1, b2, b3, b4⟩ := place_spec g1 g2
    have : m = m' := by omega
    subst this
    rw [a2] at b2
    cases b2
    omega
  · exact absurd h2 (g i h1)
  · exact absurd g2 (h j g1)
  · rfl

theorem place_none {ls : List (List UInt8)} {line col : Int} (h : ∀ (m : Nat) (L : List UInt8), line = (m : Int) → (linesOf (chunksText ls))[m]? = some L → placeOf L col < 0) : IsPlace ls line col (-1) :=
  .inr ⟨rfl, fun k hc hr => by
    obtain ⟨m, L, h1, h2, h3, h4⟩ := place_spec hc hr
    have := h m L h1 h2
    omega⟩
theorem place_some {ls : List (List UInt8)} (hok : chunksOk ls = true) {m : Nat} {L : List UInt8} {col : Int} (hL : (linesOf (chunksText ls))[m]? = some L) (hp : 0 ≤ placeOf L col) :
    IsPlace ls (m : Int) col ((startOf (linesOf (chunksText ls)) m : Int) + placeOf L col) := by
  obtain ⟨h1, h2⟩ := place_back hok hL hp
  exact .inl ⟨_, by omega, h1, h2⟩
theorem place_bad {ls : List (List UInt8)} {line col : Int} (h : chunksOk ls = false) : IsPlace ls line col (-1) :=
  .inr ⟨rfl, fun k hc => by unfold rCut at hc; rw [h] at hc; cases hc⟩
end Go.Proofs.YtkplfbhblbinaaaDoor.P
