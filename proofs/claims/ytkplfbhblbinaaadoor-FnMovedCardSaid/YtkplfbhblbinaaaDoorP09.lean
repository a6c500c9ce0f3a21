/-
  Chapter 6, the mathematics of moved positions, spans, edits and selections. Own work.
-/
import Derived.Test.YtkplfbhblbinaaaDoorP08c
namespace Go.Proofs.YtkplfbhblbinaaaDoor
namespace P
set_option linter.unusedVariables false

/-- A position that may be moved. -/
def isPlace (p : Int) : Bool := decide (0 ≤ p) && decide (p ≤ 800)
theorem isPlace_iff (p : Int) : isPlace p = true ↔ 0 ≤ p ∧ p ≤ 800 := by unfold isPlace; simp only [Bool.and_eq_true, decide_eq_true_eq]
/-- Where a position goes by an edit that puts n bytes for the m at a, if what it does not leave alone goes to x. -/
def mvTo (p a m n x : Int) : Int := if p < a then p else if p = a ∨ p < a + m then x else p - m + n
def posOk (p a m : Int) (l : List UInt8) : Bool := edSmall a m l && isPlace p
def sideOf (right : Bool) (a n : Int) : Int := if right = true then a + n else a
def posMove (p : Int) (right : Bool) (a m : Int) (l : List UInt8) : Int := if posOk p a m l = true then mvTo p a m l.length (sideOf right a l.length) else -1
def spanOk (i j a m : Int) (l : List UInt8) : Bool := edSmall a m l && (isPlace i && (isPlace j && decide (i ≤ j)))
def spI (i a m n : Int) : Int := mvTo i a m n (a + n)
def spJ (i j a m n : Int) : Int := max (mvTo i a m n (a + n)) (mvTo j a m n a)
def spanI (i j a m : Int) (l : List UInt8) : Int := if spanOk i j a m l = true then spI i a m l.length else -1
def spanJ (i j a m : Int) (l : List UInt8) : Int := if spanOk i j a m l = true then spJ i j a m l.length else -1
def moveOk (a m : Int) (p : List UInt8) (b n : Int) (q : List UInt8) : Bool := edSmall a m p && edSmall b n q
def moveA (a m : Int) (p : List UInt8) (b n : Int) (q : List UInt8) : Int := if moveOk a m p b n q = true then spI a b n q.length else 0
def moveM (a m : Int) (p : List UInt8) (b n : Int) (q : List UInt8) : Int := if moveOk a m p b n q = true then spJ a (a + m) b n q.length - spI a b n q.length else 0
def moveP (a m : Int) (p : List UInt8) (b n : Int) (q : List UInt8) : List UInt8 := if moveOk a m p b n q = true then p else []
def hits (a m : Int) (l : List UInt8) (i j : Int) : Bool := edSmall a m l && (isPlace i && (isPlace j && (decide (i < j) && (decide (a < j) && decide (i < a + m)))))
def apart (a m : Int) (p : List UInt8) (b n : Int) (q : List UInt8) : Bool := edSmall a m p && (edSmall b n q && (decide (a + m < b) || decide (b + n < a)))
def selMvOk (f t a m : Int) (l : List UInt8) : Bool := edSmall a m l && (isPlace f && isPlace t)
def selF (f t a m : Int) (l : List UInt8) (own : Bool) : Int := if selMvOk f t a m l = true then mvTo f a m l.length (sideOf (own || decide (t < f)) a l.length) else 0
def selT (f t a m : Int) (l : List UInt8) (own : Bool) : Int := if selMvOk f t a m l = true then mvTo t a m l.length (sideOf (own || decide (f < t)) a l.length) else 0

theorem sideOf_bd (r : Bool) (a n : Int) (hn : 0 ≤ n) : a ≤ sideOf r a n ∧ sideOf r a n ≤ a + n := by unfold sideOf; split <;> omega
theorem mvTo_bd {p a m n x : Int} (hp : 0 ≤ p) (ha : 0 ≤ a) (hm : 0 ≤ m) (hn : 0 ≤ n) (hx : a ≤ x) (hx2 : x ≤ a + n) : 0 ≤ mvTo p a m n x ∧ mvTo p a m n x ≤ p + a + n := by
  unfold mvTo; split
  · omega
  · split <;> omega
theorem mvTo_le {p q a m n x y : Int} (hm : 0 ≤ m) (hn : 0 ≤ n) (hx : a ≤ x) (hxy : x ≤ y) (hy : y ≤ a + n) (hpq : p ≤ q) : mvTo p a m n x ≤ mvTo q a m n y := by
  unfold mvTo
  split
  · split
    · omega
    · split <;> omega
  · split
    · split
      · omega
      · split <;> omega
    · split
      · omega
      · split <;> omega
theorem posMove_neg {p a m : Int} {l : List UInt8} {r : Bool} : posMove p r a m l < 0 ↔ posOk p a m l = false := by
  unfold posMove
  split
  · rename_i h
    unfold posOk at h
    rw [Bool.and_eq_true, edSmall_iff, isPlace_iff] at h
    have h1 := sideOf_bd r a l.length (by omega)
    have h2 := mvTo_bd (p := p) (a := a) (m := m) (n := l.length) (x := sideOf r a l.length) (by omega) (by omega) (by omega) (by omega) h1.1 h1.2
    have h3 : posOk p a m l = true := by unfold posOk; rw [Bool.and_eq_true, edSmall_iff, isPlace_iff]; exact h
    rw [h3]
    constructor
    · intro h4; omega
    · intro h4; cases h4
  · rename_i h
    simp only [Bool.not_eq_true] at h
    rw [h]; simp
theorem moveOk_span {a m : Int} {p : List UInt8} {b n : Int} {q : List UInt8} (h : moveOk a m p b n q = true) : spanOk a (a + m) b n q = true ∧ spanI a (a + m) b n q = moveA a m p b n q ∧ spanJ a (a + m) b n q - spanI a (a + m) b n q = moveM a m p b n q := by
  have h' := h
  unfold moveOk at h
  rw [Bool.and_eq_true] at h
  have s := (edSmall_iff a m p).1 h.1
  have hs : spanOk a (a + m) b n q = true := by
    unfold spanOk
    rw [h.2, Bool.true_and, Bool.and_eq_true, isPlace_iff, Bool.and_eq_true, isPlace_iff, decide_eq_true_eq]
    omega
  unfold spanI spanJ moveA moveM
  rw [hs, h']
  exact ⟨rfl, rfl, rfl⟩
theorem spI_bd {i a m n : Int} (hp : 0 ≤ i) (ha : 0 ≤ a) (hm : 0 ≤ m) (hn : 0 ≤ n) : 0 ≤ spI i a m n ∧ spI i a m n ≤ i + a + n := mvTo_bd hp ha hm hn (by omega) (by omega)
theorem spJ_bd {i j a m n : Int} (hp : 0 ≤ i) (hij : i ≤ j) (ha : 0 ≤ a) (hm : 0 ≤ m) (hn : 0 ≤ n) : spI i a m n ≤ spJ i j a m n ∧ spJ i j a m n ≤ j + a + n := by
  have h1 := mvTo_bd (p := i) (x := a + n) hp ha hm hn (by omega) (by omega)
  have h2 := mvTo_bd (p := j) (x := a) (by omega) ha hm hn (by omega) (by omega)
  unfold spI spJ
  omega
/-- An empty span stays empty. -/
theorem spJ_same {i a m n : Int} (hm : 0 ≤ m) (hn : 0 ≤ n) : spJ i i a m n = spI i a m n := by
  have := mvTo_le (p := i) (q := i) (a := a) (m := m) (n := n) (x := a) (y := a + n) hm hn (by omega) (by omega) (by omega) (by omega)
  unfold spI spJ
  omega

/-- A boundary goes to a boundary. -/
theorem bound_moved {t : List UInt8} {b n : Int} {q : List UInt8} (h : edOk t b n q = true) {p x : Int} (hx : x = b ∨ x = b + q.length) (hp : isBound t p = true) : isBound (edText t b n q) (mvTo p b n q.length x) = true := by
  obtain ⟨h1, h2, h3, h4⟩ := ed_texts h
  have hr := edOk_range h
  have hpr := isBound_range hp
  have htk : ((t.take b.toNat).length : Int) = b := by rw [List.length_take]; omega
  unfold mvTo
  split
  · rename_i hlt
    obtain ⟨k, rfl⟩ : ∃ k : Nat, p = (k : Int) := ⟨p.toNat, by omega⟩
    unfold edText
    rw [isBound_app_left _ _ k (by omega)]
    have e : t = t.take b.toNat ++ t.drop b.toNat := (List.take_append_drop _ _).symm
    rw [e, isBound_app_left _ _ k (by omega)] at hp
    exact hp
  · split
    · rcases hx with rfl | rfl
      · have := bound_join (x := t.take x.toNat) (okS_app _ _ _ (Nat.le_refl _) h4 h3)
        rw [htk] at this
        exact this
      · have := bound_join (x := t.take b.toNat ++ q) h3
        rw [List.append_assoc, List.length_append, Int.natCast_add, htk] at this
        exact this
    · rename_i h5 h6
      obtain ⟨k, hk⟩ : ∃ k : Nat, p = b + n + (k : Int) := ⟨(p - b - n).toNat, by omega⟩
      subst hk
      have hd := isBound_drop t (b + n).toNat k (by omega) (by omega)
      rw [show (((b + n).toNat + k : Nat) : Int) = b + n + k by omega, hp] at hd
      have := isBound_app_right (t.take b.toNat ++ q) (t.drop (b + n).toNat) k (by rw [List.length_drop]; omega)
      rw [hd, List.append_assoc, List.length_append] at this
      unfold edText
      rw [show b + n + (k : Int) - n + q.length = (((t.take b.toNat).length + q.length + k : Nat) : Int) by omega]
      exact this

theorem take_app9 {α : Type} {x y : List α} {k : Nat} (h : x.length ≤ k) : (x ++ y).take k = x ++ y.take (k - x.length) := by rw [List.take_append, List.take_of_length_le h]
theorem drop_app9 {α : Type} {x y : List α} {k : Nat} (h : x.length ≤ k) : (x ++ y).drop k = y.drop (k - x.length) := by rw [List.drop_append, List.drop_of_length_le h, List.nil_append]
/-- Two edits that are apart: in either order the same. -/
theorem apart_text {t : List UInt8} {a m : Int} {p : List UInt8} {b n : Int} {q : List UInt8} (he : edOk t a m p = true) (hb : edOk t b n q = true) (hl : a + m < b) :
    edText (edText t a m p) (b - m + p.length) n q = edText (edText t b n q) a m p := by
  have hr := edOk_range he
  have hs := edOk_range hb
  have htk : (t.take a.toNat).length = a.toNat := by rw [List.length_take]; omega
  have htb : (t.take b.toNat).length = b.toNat := by rw [List.length_take]; omega
  have e1 : (edText t a m p).take (b - m + p.length).toNat = t.take a.toNat ++ (p ++ (t.drop (a + m).toNat).take (b - a - m).toNat) := by
    unfold edText
    rw [take_app9 (by omega), take_app9 (by omega), htk, show (b - m + (p.length : Int)).toNat - a.toNat - p.length = (b - a - m).toNat by omega]
  have e2 : (edText t a m p).drop (b - m + p.length + n).toNat = t.drop (b + n).toNat := by
    unfold edText
    rw [drop_app9 (by omega), drop_app9 (by omega), List.drop_drop]
    congr 1
    omega
  have e3 : (edText t b n q).take a.toNat = t.take a.toNat := by
    unfold edText
    rw [List.take_append_of_le_length (by omega), List.take_take, Nat.min_eq_left (by omega)]
  have e4 : (edText t b n q).drop (a + m).toNat = (t.drop (a + m).toNat).take (b - a - m).toNat ++ (q ++ t.drop (b + n).toNat) := by
    unfold edText
    rw [List.drop_append_of_le_length (by omega), List.drop_take, show b.toNat - (a + m).toNat = (b - a - m).toNat by omega]
  rw [show edText (edText t a m p) (b - m + p.length) n q = (edText t a m p).take (b - m + p.length).toNat ++ (q ++ (edText t a m p).drop (b - m + p.length + n).toNat) from rfl, e1, e2]
  rw [show edText (edText t b n q) a m p = (edText t b n q).take a.toNat ++ (p ++ (edText t b n q).drop (a + m).toNat) from rfl, e3, e4]
  simp only [List.append_assoc]
theorem apart_moves {a m b n : Int} {x y : Int} (ha : 0 ≤ a) (hm : 0 ≤ m) (hn : 0 ≤ n) (hx : 0 ≤ x) (hy : 0 ≤ y) (hl : a + m < b) :
    spI a b n y = a ∧ spJ a (a + m) b n y - spI a b n y = m ∧ spI b a m x = b - m + x ∧ spJ b (b + n) a m x - spI b a m x = n := by
  unfold spI spJ mvTo
  rw [if_pos (show a < b by omega), if_pos (show a + m < b by omega), if_neg (show ¬ b < a by omega), if_neg (show ¬ (b = a ∨ b < a + m) by omega), if_neg (show ¬ b + n < a by omega), if_neg (show ¬ (b + n = a ∨ b + n < a + m) by omega)]
  omega

/-- An edit moved by another. -/
def mvd (e b : Ed) : Ed := (moveA e.1 e.2.1 e.2.2 b.1 b.2.1 b.2.2, moveM e.1 e.2.1 e.2.2 b.1 b.2.1 b.2.2, moveP e.1 e.2.1 e.2.2 b.1 b.2.1 b.2.2)
/-- An edit moved by each of a list. -/
def mvRun : Ed → List Ed → Ed × Bool
  | e, [] => (e, true)
  | e, b :: bs => if moveOk e.1 e.2.1 e.2.2 b.1 b.2.1 b.2.2 = true then mvRun (mvd e b) bs else ((0, 0, []), false)
def moves (e : Ed) (es : List Ed) : Ed × Bool := if edSmall e.1 e.2.1 e.2.2 = true then mvRun e es else ((0, 0, []), false)
theorem mvd_p {e b : Ed} (h : moveOk e.1 e.2.1 e.2.2 b.1 b.2.1 b.2.2 = true) : (mvd e b).2.2 = e.2.2 := by unfold mvd moveP; rw [h]; rfl
theorem mvRun_len (es : List Ed) : ∀ e, (mvRun e es).1.2.2.length ≤ e.2.2.length := by
  induction es with
  | nil => intro e; exact Nat.le_refl _
  | cons b es ih =>
    intro e
    unfold mvRun
    split
    · rename_i h
      have := ih (mvd e b)
      rwa [mvd_p h] at this
    · exact Nat.zero_le _
theorem moves_len (e : Ed) (es : List Ed) : (moves e es).1.2.2.length ≤ 400 := by
  unfold moves
  split
  · rename_i h
    have := mvRun_len es e
    have := (edSmall_iff _ _ _).1 h
    omega
  · exact Nat.zero_le _
/-- In two parts as at once. -/
theorem mvRun_split (es : List Ed) : ∀ (e : Ed) (k : Nat), k ≤ es.length → (mvRun e es).2 = true →
    (mvRun e (es.take k)).2 = true ∧ mvRun (mvRun e (es.take k)).1 (es.drop k) = mvRun e es := by
  induction es with
  | nil => intro e k hk h; simp at hk; subst hk; exact ⟨rfl, rfl⟩
  | cons b es ih =>
    intro e k hk h
    cases k with
    | zero => exact ⟨rfl, rfl⟩
    | succ k =>
      rw [List.take_succ_cons, List.drop_succ_cons]
      by_cases hm : moveOk e.1 e.2.1 e.2.2 b.1 b.2.1 b.2.2 = true
      · have e1 : ∀ l, mvRun e (b :: l) = mvRun (mvd e b) l := fun l => by
          show (if moveOk e.1 e.2.1 e.2.2 b.1 b.2.1 b.2.2 = true then _ else _) = _
          rw [if_pos hm]
        rw [e1] at h ⊢
        rw [e1]
        exact ih (mvd e b) k (by simpa using hk) h
      · have e1 : mvRun e (b :: es) = ((0, 0, []), false) := by
          show (if moveOk e.1 e.2.1 e.2.2 b.1 b.2.1 b.2.2 = true then _ else _) = _
          rw [if_neg hm]
        rw [e1] at h; cases h
/-- If more is to come, the edit is small. -/
theorem mvRun_small {e : Ed} {es : List Ed} (h : (mvRun e es).2 = true) (hne : es ≠ []) : edSmall e.1 e.2.1 e.2.2 = true := by
  cases es with
  | nil => exact absurd rfl hne
  | cons b es =>
    unfold mvRun at h
    split at h
    · rename_i hm; unfold moveOk at hm; rw [Bool.and_eq_true] at hm; exact hm.1
    · cases h
end P
end Go.Proofs.YtkplfbhblbinaaaDoor
