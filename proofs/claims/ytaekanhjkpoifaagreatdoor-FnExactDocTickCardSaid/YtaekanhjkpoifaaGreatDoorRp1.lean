/-
  Texts of one claim in one: P01d, P01e, P02, P04, P08, P08c, P09, P17. Own work.
-/
import Derived.Test.YtaekanhjkpoifaaGreatDoorRP01
import Derived.Lib.IndexMore
import Derived.Lib.LastIndexLaws

/-
 Chapter 1 in plain Lean, the fourth part: places and counts are inverse. No program here. Own work.
-/
namespace Go.Proofs.YtaekanhjkpoifaaGreatDoor.P

/-- In a text a boundary is a place from which the rest is a text. -/
theorem okS_bound (l : List UInt8) (k : Nat) (hk : k ≤ l.length) (hb : isBound l k = true) : ∀ (m p : Nat), k - p ≤ m → p ≤ k → okS 0 (l.drop p) = true → okS 0 (l.drop k) = true := by
 intro m
 induction m with
 | zero =>
  intro p h1 h2 h3
  have e : k = p := by omega
  rw [e]; exact h3
 | succ m ih =>
  intro p h1 h2 h3
  by_cases e : p = k
  ·subst e; exact h3
  ·obtain ⟨a, b, c, d, f⟩ := bound_here (p := p) (by omega) h3
   by_cases g : k < p + sz (l.drop p)
   ·rw [f k (by omega) g] at hb; cases hb
   ·exact ih _ (by omega) (by omega) c

theorem isText_ok {l : List UInt8} (h : isText l = true) : okS 0 l = true := by unfold isText at h; simp at h; exact h.2

end Go.Proofs.YtaekanhjkpoifaaGreatDoor.P

/-
 Chapter 1 in plain Lean, the fifth part: decoding an encoding returns the code point, and encoding what was decoded returns the bytes. No program here. Own work.
-/
namespace Go.Proofs.YtaekanhjkpoifaaGreatDoor.P

theorem enc_dec (r : Int) (h : codeSz r ≠ 0) (t : List UInt8) : decL (enc r ++ t) = r ∧ sz (enc r ++ t) = codeSz r := by
 have fin : ∀ b u, enc r ++ t = b :: u → rawSz b.toNat ≤ u.length + 1 → rawR b u = r → enc r = (b :: u).take (rawSz b.toNat) → decL (enc r ++ t) = r ∧ sz (enc r ++ t) = codeSz r := by
  intro b u e h1 h2 h3
  rw [e]
  obtain ⟨_, d2, _⟩ := dec_raw b u
  rw [← h2] at h3
  obtain ⟨e1, e2⟩ := d2 h1 h3
  rw [e1, h2]
  refine ⟨rfl, ?_⟩
  unfold sz
  rw [e1, h2]
 rcases codeSz_cases r with ⟨g, _⟩ | ⟨g, g1, g2⟩ | ⟨g, g1, g2⟩ | ⟨g, g1, g2, g3⟩ | ⟨g, g1, g2⟩
 ·exact absurd g h
 ·have he : enc r = [u8 r] := by simp [enc, g]
  have e0 := u8_toNat r (by omega) (by omega)
  have hs : rawSz (u8 r).toNat = 1 := by unfold rawSz; (repeat' split) <;> omega
  refine fin (u8 r) t (by rw [he]; rfl) (by omega) ?_ (by rw [he, hs]; rfl)
  simp [rawR, hs, leadM, e0]
 ·have he : enc r = [u8 (192 + r / 64), u8 (128 + r % 64)] := by simp [enc, g]
  have e0 := u8_toNat (192 + r / 64) (by omega) (by omega)
  have e1 := u8_toNat (128 + r % 64) (by omega) (by omega)
  have hs : rawSz (u8 (192 + r / 64)).toNat = 2 := by unfold rawSz; (repeat' split) <;> omega
  refine fin (u8 (192 + r / 64)) (u8 (128 + r % 64) :: t) (by rw [he]; rfl) (by rw [hs]; simp) ?_ (by rw [he, hs]; rfl)
  simp only [rawR, hs, leadM]
  simp only [Nat.add_one_sub_one, List.take_succ_cons, List.take_zero, List.foldl_cons, List.foldl_nil, e0, e1]
  simp
  omega
 ·have he : enc r = [u8 (224 + r / 4096), u8 (128 + r / 64 % 64), u8 (128 + r % 64)] := by simp [enc, g]
  have e0 := u8_toNat (224 + r / 4096) (by omega) (by omega)
  have e1 := u8_toNat (128 + r / 64 % 64) (by omega) (by omega)
  have e2 := u8_toNat (128 + r % 64) (by omega) (by omega)
  have hs : rawSz (u8 (224 + r / 4096)).toNat = 3 := by unfold rawSz; (repeat' split) <;> omega
  refine fin (u8 (224 + r / 4096)) (u8 (128 + r / 64 % 64) :: u8 (128 + r % 64) :: t) (by rw [he]; rfl) (by rw [hs]; simp) ?_ (by rw [he, hs]; rfl)
  simp only [rawR, hs, leadM]
  simp only [Nat.add_one_sub_one, List.take_succ_cons, List.take_zero, List.foldl_cons, List.foldl_nil, e0, e1, e2]
  simp
  omega
 ·have he : enc r = [u8 (240 + r / 262144), u8 (128 + r / 4096 % 64), u8 (128 + r / 64 % 64), u8 (128 + r % 64)] := by simp [enc, g]
  have e0 := u8_toNat (240 + r / 262144) (by omega) (by omega)
  have e1 := u8_toNat (128 + r / 4096 % 64) (by omega) (by omega)
  have e2 := u8_toNat (128 + r / 64 % 64) (by omega) (by omega)
  have e3 := u8_toNat (128 + r % 64) (by omega) (by omega)
  have hs : rawSz (u8 (240 + r / 262144)).toNat = 4 := by unfold rawSz; (repeat' split) <;> omega
  refine fin (u8 (240 + r / 262144)) (u8 (128 + r / 4096 % 64) :: u8 (128 + r / 64 % 64) :: u8 (128 + r % 64) :: t) (by rw [he]; rfl) (by rw [hs]; simp) ?_ (by rw [he, hs]; rfl)
  simp only [rawR, hs, leadM]
  simp only [Nat.add_one_sub_one, List.take_succ_cons, List.take_zero, List.foldl_cons, List.foldl_nil, e0, e1, e2, e3]
  simp
  omega

theorem dec_enc (b : UInt8) (u : List UInt8) (h : sz (b :: u) ≠ 0) : enc (decL (b :: u)) = (b :: u).take (sz (b :: u)) := by
 obtain ⟨d1, d2, d3⟩ := dec_raw b u
 have zero : ∀ x, decL x = -1 → sz x = 0 := fun x e => by unfold sz; rw [e]; rfl
 by_cases h1 : u.length + 1 < rawSz b.toNat
 ·exact absurd (zero _ (d1 h1)) h
 ·by_cases h2 : enc (rawR b u) = (b :: u).take (rawSz b.toNat)
  ·obtain ⟨e1, e2⟩ := d2 (by omega) h2
   rw [e1, e2, h2]
  ·exact absurd (zero _ (d3 (by omega) h2)) h

end Go.Proofs.YtaekanhjkpoifaaGreatDoor.P

/-
 Chapter 2 in plain Lean: measures and chunks of texts. No program here. Own work.
-/
namespace Go.Proofs.YtaekanhjkpoifaaGreatDoor.P
set_option linter.unusedVariables false

/-! ### texts taken apart -/
theorem isBound_drop (l : List UInt8) (p k : Nat) (hp : p ≤ l.length) (hk : p + k ≤ l.length) : isBound (l.drop p) (k : Int) = isBound l ((p + k : Nat) : Int) := by
 unfold isBound
 have e1 : ((l.drop p).length : Int) = (l.length : Int) - p := by rw [List.length_drop]; omega
 have e2 : (l.drop p).getD ((k : Int).toNat) 0 = l.getD (((p + k : Nat) : Int).toNat) 0 := by
  rw [Int.toNat_natCast, Int.toNat_natCast]
  simp [List.getD, List.getElem?_drop]
 rw [e1, e2]
 congr 1
 ·rw [decide_eq_decide]; omega
 ·congr 1
  rw [decide_eq_decide]; omega

theorem okS_of_bound {l : List UInt8} (h : okS 0 l = true) {k : Nat} (hk : k ≤ l.length) (hb : isBound l (k : Int) = true) : okS 0 (l.drop k) = true :=
 okS_bound l k hk hb k 0 (by omega) (Nat.zero_le _) (by simpa using h)

/-- The first code point of what is cut off behind it. -/
theorem sz_app {a : List UInt8} (h : sz a ≠ 0) (t : List UInt8) : sz (a ++ t) = sz a := by
 cases a with
 | nil => exact absurd (by rfl) h
 | cons b u =>
  have h1 := dec_enc b u h
  have h2 : (b :: u) = enc (decL (b :: u)) ++ (b :: u).drop (sz (b :: u)) := by rw [h1, List.take_append_drop]
  have h3 := (enc_dec (decL (b :: u)) h ((b :: u).drop (sz (b :: u)) ++ t)).2
  rw [← List.append_assoc, ← h2] at h3
  exact h3

theorem sz_take {l : List UInt8} (h : sz l ≠ 0) (k : Nat) (hk : sz l ≤ k) : sz (l.take k) = sz l := by
 cases l with
 | nil => exact absurd (by rfl) h
 | cons b u =>
  have h1 := dec_enc b u h
  have h2 : (b :: u).take k = enc (decL (b :: u)) ++ ((b :: u).drop (sz (b :: u))).take (k - sz (b :: u)) := by
   rw [h1]
   conv => lhs; rw [show k = sz (b :: u) + (k - sz (b :: u)) by omega]
   rw [List.take_add]
  have h3 := (enc_dec (decL (b :: u)) h (((b :: u).drop (sz (b :: u))).take (k - sz (b :: u)))).2
  rw [← h2] at h3
  exact h3

theorem okS_app : ∀ (n : Nat) (a b : List UInt8), a.length ≤ n → okS 0 a = true → okS 0 b = true → okS 0 (a ++ b) = true := by
 intro n
 induction n with
 | zero =>
  intro a b h1 h2 h3
  have : a = [] := List.eq_nil_of_length_eq_zero (by omega)
  subst this
  simpa using h3
 | succ n ih =>
  intro a b h1 h2 h3
  by_cases ha : a = []
  ·subst ha; simpa using h3
  ·rw [okS_step ha] at h2
   simp only [Bool.and_eq_true, decide_eq_true_eq] at h2
   have hne : a ++ b ≠ [] := by simp [ha]
   have hle := sz_le a
   rw [okS_step hne, sz_app h2.1, List.drop_append_of_le_length hle, decide_eq_true h2.1, Bool.true_and]
   exact ih _ _ (by have := h2.1; rw [List.length_drop]; omega) h2.2 h3

theorem okS_take : ∀ (n : Nat) (l : List UInt8) (k : Nat), k ≤ n → k ≤ l.length → okS 0 l = true → isBound l (k : Int) = true → okS 0 (l.take k) = true := by
 intro n
 induction n with
 | zero =>
  intro l k h1 h2 h3 h4
  have : k = 0 := by omega
  subst this
  simp [okS]
 | succ n ih =>
  intro l k h1 h2 h3 h4
  by_cases hk : k = 0
  ·subst hk; simp [okS]
  ·obtain ⟨a, b, c, d, f⟩ := bound_here (l := l) (p := 0) (by omega) (by simpa using h3)
   simp only [List.drop_zero, Nat.zero_add] at a b c f
   have hkz : sz l ≤ k := by
    apply Nat.le_of_not_lt
    intro hlt
    rw [f k (by omega) hlt] at h4
    cases h4
   have hne : l.take k ≠ [] := by intro e; have := congrArg List.length e; rw [List.length_take, List.length_nil] at this; omega
   rw [okS_step hne, sz_take a k hkz, decide_eq_true a, Bool.true_and, List.drop_take]
   refine ih _ _ (by have := a; omega) (by rw [List.length_drop]; omega) c ?_
   rw [isBound_drop l (sz l) (k - sz l) b (by omega), show sz l + (k - sz l) = k by omega]
   exact h4

theorem isText_len {l : List UInt8} (h : isText l = true) : l.length ≤ 400 := by unfold isText at h; simp at h; exact h.1
theorem isText_of {l : List UInt8} (h : l.length ≤ 400) (k : okS 0 l = true) : isText l = true := by unfold isText; simp [h, k]
/-! ### measures -/
def lines (l : List UInt8) : Nat := l.count 10
def mB (l : List UInt8) : Int := if isText l = true then l.length else 0
def mR (l : List UInt8) : Int := if isText l = true then runeCount l else 0
def mL (l : List UInt8) : Int := if isText l = true then lines l else 0

/-! ### chunks -/
def chunkOk (l : List UInt8) : Bool := decide (1 ≤ l.length) && decide (l.length ≤ 16) && isText l
def chunksOk (ls : List (List UInt8)) : Bool := ls.all chunkOk && decide (ls.flatten.length ≤ 400)
def chunksText (ls : List (List UInt8)) : List UInt8 := if chunksOk ls = true then ls.flatten else []

def chunkFrom (i : Nat) : List (List UInt8) → Int → Int × Int
 | [], at_ => if 0 < at_ then (-1, -1) else (i, 0)
 | l :: ls, at_ => if at_ < l.length then (i, at_) else chunkFrom (i + 1) ls (at_ - l.length)
def chunkFor (ls : List (List UInt8)) (at_ : Int) : Int × Int := if at_ < 0 ∨ chunksOk ls = false then (-1, -1) else chunkFrom 0 ls at_

/-- The greatest boundary up to k. -/
def cutTo (l : List UInt8) : Nat → Nat
 | 0 => 0
 | k + 1 => if isBound l ((k + 1 : Nat) : Int) = true then k + 1 else cutTo l k
def cut (l : List UInt8) : Nat := cutTo l (min l.length 16)

def chunksL : Nat → List UInt8 → List (List UInt8)
 | 0, _ => []
 | f + 1, l => if l = [] then [] else l.take (cut l) :: chunksL f (l.drop (cut l))
def chunksOf (l : List UInt8) : List (List UInt8) := if isText l = true then chunksL l.length l else []

theorem flat_snoc (ls : List (List UInt8)) (k : Nat) (h : k < ls.length) : (ls.take (k + 1)).flatten = (ls.take k).flatten ++ ls[k] := by
 rw [List.take_succ_eq_append_getElem h, List.flatten_append]; simp

end Go.Proofs.YtaekanhjkpoifaaGreatDoor.P

/-
 Chapter 4 in plain Lean: ropes, their cuts, lines and columns. No program here. Own work.
 Chapter 4 in plain Lean: what the library's searches say of a text. Own work.
 Chapter 4 in plain Lean: the rolling hash of the library's backward search, and what that search finds. Own work.
-/
namespace Go.Proofs.YtaekanhjkpoifaaGreatDoor.P

/-- Can the rope be cut at the offset? -/
def rCut (ls : List (List UInt8)) (a : Int) : Bool := chunksOk ls && isBound (chunksText ls) a

/-- Where the last line of l begins. -/
def lineFrom (l : List UInt8) : Nat := l.length - (l.reverse.takeWhile (fun b => b != 10)).length
/-- The line and the column of an offset. -/
def ropeLine (ls : List (List UInt8)) (a : Int) : Int × Int :=
 if rCut ls a = true then ((lines ((chunksText ls).take a.toNat) : Int), runeCount (((chunksText ls).take a.toNat).drop (lineFrom ((chunksText ls).take a.toNat)))) else (-1, -1)

/-- Does p stand at offset i of the text? -/
def standsAt (t p : List UInt8) (i : Nat) : Prop := (t.drop i).take p.length = p
instance (t p : List UInt8) (i : Nat) : Decidable (standsAt t p i) := by unfold standsAt; exact inferInstance

/-- r is the nearest offset, from the given one on, at which p stands in t; -1 where there is none. -/
def IsFind (t p : List UInt8) (k : Nat) (r : Int) : Prop :=
 (∃ i : Nat, r = i ∧ k ≤ i ∧ i < t.length ∧ standsAt t p i ∧ ∀ j, k ≤ j → j < i → ¬ standsAt t p j) ∨ (r = -1 ∧ ∀ j, k ≤ j → j < t.length → ¬ standsAt t p j)
theorem IsFind.unique {t p : List UInt8} {k : Nat} {r s : Int} (h : IsFind t p k r) (g : IsFind t p k s) : r = s := by
 rcases h with ⟨i, rfl, h1, h2, h3, h4⟩ | ⟨rfl, h⟩ <;> rcases g with ⟨j, rfl, g1, g2, g3, g4⟩ | ⟨rfl, g⟩
 ·rcases Nat.lt_trichotomy i j with x | x | x
  ·exact absurd h3 (g4 i h1 x)
  ·rw [x]
  ·exact absurd g3 (h4 j g1 x)
 ·exact absurd h3 (g i h1 h2)
 ·exact absurd g3 (h j g1 g2)
 ·rfl

/-- r is the last offset, up to the given one, at which p stands in t; -1 where there is none. -/
def IsFindBack (t p : List UInt8) (k : Nat) (r : Int) : Prop :=
 (∃ i : Nat, r = i ∧ i ≤ k ∧ standsAt t p i ∧ ∀ j, i < j → j ≤ k → ¬ standsAt t p j) ∨ (r = -1 ∧ ∀ j, j ≤ k → ¬ standsAt t p j)
theorem IsFindBack.unique {t p : List UInt8} {k : Nat} {r s : Int} (h : IsFindBack t p k r) (g : IsFindBack t p k s) : r = s := by
 rcases h with ⟨i, rfl, h1, h3, h4⟩ | ⟨rfl, h⟩ <;> rcases g with ⟨j, rfl, g1, g3, g4⟩ | ⟨rfl, g⟩
 ·rcases Nat.lt_trichotomy i j with x | x | x
  ·exact absurd g3 (h4 j x g1)
  ·rw [x]
  ·exact absurd h3 (g4 i x h1)
 ·exact absurd h3 (g i h1)
 ·exact absurd g3 (h j g1)
 ·rfl

/-- Is there something to look for, at a place where one can begin? -/
def canFindR (ls : List (List UInt8)) (p : List UInt8) (a : Int) : Bool := rCut ls a && (isText p && decide (0 < p.length))
def FindsR (ls : List (List UInt8)) (p : List UInt8) (a r : Int) : Prop := (canFindR ls p a = true ∧ IsFind (chunksText ls) p a.toNat r) ∨ (canFindR ls p a = false ∧ r = -1)
def FindsBackR (ls : List (List UInt8)) (p : List UInt8) (a r : Int) : Prop := (canFindR ls p a = true ∧ IsFindBack (chunksText ls) p a.toNat r) ∨ (canFindR ls p a = false ∧ r = -1)
theorem FindsR.unique {ls : List (List UInt8)} {p : List UInt8} {a r s : Int} (h : FindsR ls p a r) (g : FindsR ls p a s) : r = s := by
 rcases h with ⟨h1, h2⟩ | ⟨h1, h2⟩ <;> rcases g with ⟨g1, g2⟩ | ⟨g1, g2⟩
 ·exact h2.unique g2
 ·rw [h1] at g1; cases g1
 ·rw [h1] at g1; cases g1
 ·rw [h2, g2]
theorem FindsBackR.unique {ls : List (List UInt8)} {p : List UInt8} {a r s : Int} (h : FindsBackR ls p a r) (g : FindsBackR ls p a s) : r = s := by
 rcases h with ⟨h1, h2⟩ | ⟨h1, h2⟩ <;> rcases g with ⟨g1, g2⟩ | ⟨g1, g2⟩
 ·exact h2.unique g2
 ·rw [h1] at g1; cases g1
 ·rw [h1] at g1; cases g1
 ·rw [h2, g2]

end Go.Proofs.YtaekanhjkpoifaaGreatDoor.P

namespace Go.Proofs.YtaekanhjkpoifaaGreatDoor.P

end Go.Proofs.YtaekanhjkpoifaaGreatDoor.P

namespace Go.Proofs.YtaekanhjkpoifaaGreatDoor.P
open Go.Lib
set_option linter.unusedVariables false

/-- r is the last offset at which p stands in t, all of it; -1 where there is none. -/
def IsLast (t p : List UInt8) (r : Int) : Prop :=
 (∃ i : Nat, r = i ∧ i + p.length ≤ t.length ∧ standsAt t p i ∧ ∀ j, i < j → j + p.length ≤ t.length → ¬ standsAt t p j) ∨ (r = -1 ∧ ∀ j, j + p.length ≤ t.length → ¬ standsAt t p j)

end Go.Proofs.YtaekanhjkpoifaaGreatDoor.P

/-
 Chapter 5, the mathematics of edits: when an edit is valid, what it makes, what undoes it. Own work.
-/
namespace Go.Proofs.YtaekanhjkpoifaaGreatDoor
namespace P
set_option linter.unusedVariables false

/-- Whether the edit that puts p for the m bytes at a is valid for the text t. -/
def edOk (t : List UInt8) (a m : Int) (p : List UInt8) : Bool :=
 decide (0 ≤ m) && (isText t && (isText p && ((isBound t a && isBound t (a + m)) && decide ((t.length : Int) - m + p.length ≤ 400))))
/-- What it makes of t. -/
def edText (t : List UInt8) (a m : Int) (p : List UInt8) : List UInt8 := t.take a.toNat ++ (p ++ t.drop (a + m).toNat)
def edDo (t : List UInt8) (a m : Int) (p : List UInt8) : List UInt8 := if edOk t a m p = true then edText t a m p else []
/-- What it cuts. -/
def edCut (t : List UInt8) (a m : Int) : List UInt8 := (t.drop a.toNat).take m.toNat
def backA (t : List UInt8) (a m : Int) (p : List UInt8) : Int := if edOk t a m p = true then a else 0
def backM (t : List UInt8) (a m : Int) (p : List UInt8) : Int := if edOk t a m p = true then p.length else 0
def backP (t : List UInt8) (a m : Int) (p : List UInt8) : List UInt8 := if edOk t a m p = true then edCut t a m else []

theorem edOk_iff (t : List UInt8) (a m : Int) (p : List UInt8) : edOk t a m p = true ↔ 0 ≤ m ∧ isText t = true ∧ isText p = true ∧ isBound t a = true ∧ isBound t (a + m) = true ∧ (t.length : Int) - m + p.length ≤ 400 := by
 unfold edOk
 simp only [Bool.and_eq_true, decide_eq_true_eq, and_assoc]

theorem isBound_range {l : List UInt8} {a : Int} (h : isBound l a = true) : 0 ≤ a ∧ a ≤ l.length := by
 refine ⟨?_, ?_⟩
 all_goals
  apply Classical.byContradiction
  intro g
  rw [isBound_out l a (by omega)] at h
  cases h

theorem edOk_range {t : List UInt8} {a m : Int} {p : List UInt8} (h : edOk t a m p = true) :
  0 ≤ a ∧ 0 ≤ m ∧ a + m ≤ t.length ∧ t.length ≤ 400 ∧ p.length ≤ 400 ∧ (t.length : Int) - m + p.length ≤ 400 := by
 obtain ⟨h1, h2, h3, h4, h5, h6⟩ := (edOk_iff t a m p).1 h
 have := isBound_range h4
 have := isBound_range h5
 have := isText_len h2
 have := isText_len h3
 omega

theorem edText_len {t : List UInt8} {a m : Int} {p : List UInt8} (h : edOk t a m p = true) : ((edText t a m p).length : Int) = t.length - m + p.length := by
 have := edOk_range h
 unfold edText
 rw [List.length_append, List.length_append, List.length_take, List.length_drop]
 omega

/-- The three parts are texts. -/
theorem ed_texts {t : List UInt8} {a m : Int} {p : List UInt8} (h : edOk t a m p = true) : okS 0 (t.take a.toNat) = true ∧ okS 0 (edCut t a m) = true ∧ okS 0 (t.drop (a + m).toNat) = true ∧ okS 0 p = true := by
 have hr := edOk_range h
 obtain ⟨h1, h2, h3, h4, h5, h6⟩ := (edOk_iff t a m p).1 h
 have ht := isText_ok h2
 have b1 : isBound t ((a.toNat : Nat) : Int) = true := by rw [show ((a.toNat : Nat) : Int) = a by omega]; exact h4
 have b2 : isBound t (((a + m).toNat : Nat) : Int) = true := by rw [show (((a + m).toNat : Nat) : Int) = a + m by omega]; exact h5
 refine ⟨okS_take _ t a.toNat (Nat.le_refl _) (by omega) ht b1, ?_, okS_of_bound ht (by omega) b2, isText_ok h3⟩
 have hd := okS_of_bound ht (show a.toNat ≤ t.length by omega) b1
 have hb := isBound_drop t a.toNat m.toNat (by omega) (by omega)
 rw [show ((a.toNat + m.toNat : Nat) : Int) = (((a + m).toNat : Nat) : Int) by omega, b2] at hb
 exact okS_take _ (t.drop a.toNat) m.toNat (Nat.le_refl _) (by rw [List.length_drop]; omega) hd hb

theorem edText_ok {t : List UInt8} {a m : Int} {p : List UInt8} (h : edOk t a m p = true) : isText (edText t a m p) = true := by
 obtain ⟨h1, h2, h3, h4⟩ := ed_texts h
 have hl := edText_len h
 have hr := edOk_range h
 refine isText_of (by omega) ?_
 unfold edText
 exact okS_app _ _ _ (Nat.le_refl _) h1 (okS_app _ _ _ (Nat.le_refl _) h4 h3)

end P
end Go.Proofs.YtaekanhjkpoifaaGreatDoor

/-
 Chapter 5, the mathematics of joined edits and of lists of edits. Own work.
-/
namespace Go.Proofs.YtaekanhjkpoifaaGreatDoor
namespace P
set_option linter.unusedVariables false

def edSmall (a m : Int) (p : List UInt8) : Bool := decide (0 ≤ a) && (decide (a ≤ 400) && (decide (0 ≤ m) && (decide (m ≤ 400) && decide (p.length ≤ 400))))
theorem edSmall_iff (a m : Int) (p : List UInt8) : edSmall a m p = true ↔ 0 ≤ a ∧ a ≤ 400 ∧ 0 ≤ m ∧ m ≤ 400 ∧ p.length ≤ 400 := by
 unfold edSmall
 simp only [Bool.and_eq_true, decide_eq_true_eq]
/-- The put of the edit b n q behind the edit a m p, in one. -/
def joinPut (a : Int) (p : List UInt8) (b n : Int) (q : List UInt8) : List UInt8 := p.take (b - a).toNat ++ (q ++ p.drop (b - a + n).toNat)
def joinOk (a m : Int) (p : List UInt8) (b n : Int) (q : List UInt8) : Bool :=
 edSmall a m p && (edSmall b n q && (decide (a ≤ b) && (decide (b + n ≤ a + p.length) && decide ((joinPut a p b n q).length ≤ 400))))
def joinA (a m : Int) (p : List UInt8) (b n : Int) (q : List UInt8) : Int := if joinOk a m p b n q = true then a else 0
def joinM (a m : Int) (p : List UInt8) (b n : Int) (q : List UInt8) : Int := if joinOk a m p b n q = true then m else 0
def joinP (a m : Int) (p : List UInt8) (b n : Int) (q : List UInt8) : List UInt8 := if joinOk a m p b n q = true then joinPut a p b n q else []
/-- An edit of a list. -/
abbrev Ed := Int × Int × List UInt8
/-- The edits done one behind the other, and how many of them were valid. -/
def edsRun : List UInt8 → List Ed → List UInt8 × Nat
 | t, [] => (t, 0)
 | t, e :: es => if edOk t e.1 e.2.1 e.2.2 = true then ((edsRun (edText t e.1 e.2.1 e.2.2) es).1, (edsRun (edText t e.1 e.2.1 e.2.2) es).2 + 1) else (t, 0)
def edsText (t : List UInt8) (es : List Ed) : List UInt8 := if isText t = true then (edsRun t es).1 else []
def edsN (t : List UInt8) (es : List Ed) : Int := if isText t = true then (edsRun t es).2 else -1
theorem edsRun_text (es : List Ed) : ∀ t, isText t = true → isText (edsRun t es).1 = true := by
 induction es with
 | nil => intro t h; exact h
 | cons e es ih =>
  intro t h
  unfold edsRun
  split
  ·rename_i hok; exact ih _ (edText_ok hok)
  ·exact h
end P
end Go.Proofs.YtaekanhjkpoifaaGreatDoor

/-
 Chapter 6, the mathematics of moved positions, spans, edits and selections. Own work.
-/
namespace Go.Proofs.YtaekanhjkpoifaaGreatDoor
namespace P
set_option linter.unusedVariables false

/-- A position that may be moved. -/
def isPlace (p : Int) : Bool := decide (0 ≤ p) && decide (p ≤ 800)
/-- Where a position goes by an edit that puts n bytes for the m at a, if what it does not leave alone goes to x. -/
def mvTo (p a m n x : Int) : Int := if p < a then p else if p = a ∨ p < a + m then x else p - m + n
def posOk (p a m : Int) (l : List UInt8) : Bool := edSmall a m l && isPlace p
def sideOf (right : Bool) (a n : Int) : Int := if right = true then a + n else a
def posMove (p : Int) (right : Bool) (a m : Int) (l : List UInt8) : Int := if posOk p a m l = true then mvTo p a m l.length (sideOf right a l.length) else -1
def spanOk (i j a m : Int) (l : List UInt8) : Bool := edSmall a m l && (isPlace i && (isPlace j && decide (i ≤ j)))
def spI (i a m n : Int) : Int := mvTo i a m n (a + n)
def spJ (i j a m n : Int) : Int := max (mvTo i a m n (a + n)) (mvTo j a m n a)
def spanI (i j a m : Int) (l : List UInt8) : Int := if spanOk i j a m l = true then spI i a m l.length else -1
def spanJ (i j a m : Int) (l : List UInt8) : Int := if spanOk i j a m l = true then spJ i j a m l.length else -1
def moveOk (a m : Int) (p : List UInt8) (b n : Int) (q : List UInt8) : Bool := edSmall a m p && edSmall b n q
def moveA (a m : Int) (p : List UInt8) (b n : Int) (q : List UInt8) : Int := if moveOk a m p b n q = true then spI a b n q.length else 0
def moveM (a m : Int) (p : List UInt8) (b n : Int) (q : List UInt8) : Int := if moveOk a m p b n q = true then spJ a (a + m) b n q.length - spI a b n q.length else 0
def moveP (a m : Int) (p : List UInt8) (b n : Int) (q : List UInt8) : List UInt8 := if moveOk a m p b n q = true then p else []
def hits (a m : Int) (l : List UInt8) (i j : Int) : Bool := edSmall a m l && (isPlace i && (isPlace j && (decide (i < j) && (decide (a < j) && decide (i < a + m)))))
def apart (a m : Int) (p : List UInt8) (b n : Int) (q : List UInt8) : Bool := edSmall a m p && (edSmall b n q && (decide (a + m < b) || decide (b + n < a)))
def selMvOk (f t a m : Int) (l : List UInt8) : Bool := edSmall a m l && (isPlace f && isPlace t)
def selF (f t a m : Int) (l : List UInt8) (own : Bool) : Int := if selMvOk f t a m l = true then mvTo f a m l.length (sideOf (own || decide (t < f)) a l.length) else 0
def selT (f t a m : Int) (l : List UInt8) (own : Bool) : Int := if selMvOk f t a m l = true then mvTo t a m l.length (sideOf (own || decide (f < t)) a l.length) else 0

/-- An edit moved by another. -/
def mvd (e b : Ed) : Ed := (moveA e.1 e.2.1 e.2.2 b.1 b.2.1 b.2.2, moveM e.1 e.2.1 e.2.2 b.1 b.2.1 b.2.2, moveP e.1 e.2.1 e.2.2 b.1 b.2.1 b.2.2)
/-- An edit moved by each of a list. -/
def mvRun : Ed → List Ed → Ed × Bool
 | e, [] => (e, true)
 | e, b :: bs => if moveOk e.1 e.2.1 e.2.2 b.1 b.2.1 b.2.2 = true then mvRun (mvd e b) bs else ((0, 0, []), false)
def moves (e : Ed) (es : List Ed) : Ed × Bool := if edSmall e.1 e.2.1 e.2.2 = true then mvRun e es else ((0, 0, []), false)
end P
end Go.Proofs.YtaekanhjkpoifaaGreatDoor

/-
 Chapter 8, plain: undo stacks as two lists of edits. Own work.
-/
namespace Go.Proofs.YtaekanhjkpoifaaGreatDoor
open Go.RowKit P
set_option linter.unusedVariables false

def smallE (e : Ed) : Bool := edSmall e.1 e.2.1 e.2.2
/-- A list that a stack may hold. -/
def stFit (es : List Ed) : Bool := decide (es.length ≤ 6) && es.all smallE
def stOk (u r : List Ed) : Bool := stFit u && stFit r
theorem stFit_len {es : List Ed} (h : stFit es = true) : es.length ≤ 6 := by
 unfold stFit at h
 rw [Bool.and_eq_true] at h
 exact of_decide_eq_true h.1
theorem stFit_all {es : List Ed} (h : stFit es = true) : ∀ e ∈ es, smallE e = true := by
 unfold stFit at h
 rw [Bool.and_eq_true] at h
 exact List.all_eq_true.1 h.2
theorem stFit_big {es : List Ed} (h : ¬ es.length ≤ 6) : stFit es = false := by unfold stFit; rw [decide_eq_false h]; rfl
theorem stFit_bad {es : List Ed} {k : Nat} (hk : k < es.length) (h : smallE es[k] = false) : stFit es = false := by
 cases hf : stFit es
 ·rfl
 ·rw [stFit_all hf _ (List.getElem_mem hk)] at h; cases h
theorem stFit_yes {es : List Ed} (hl : es.length ≤ 6) : stFit es = es.all smallE := by unfold stFit; rw [decide_eq_true hl]; rfl

/-- A list with one more on top; a full one drops its oldest. -/
def topE (es : List Ed) (e : Ed) : List Ed := if es.length < 6 then es ++ [e] else (es ++ [e]).drop 1
def lastE (es : List Ed) : Ed := es.getLastD (0, 0, [])
/-- What StackPush, StackTop, StackTurn, StackMoved give; the flag last. -/
def pushOk (u r : List Ed) (e : Ed) : Bool := stOk u r && smallE e
def pushU (u r : List Ed) (e : Ed) : List Ed := if pushOk u r e = true then topE u e else []
def sideE (u r : List Ed) (redo : Bool) : List Ed := if redo = true then r else u
def topOk (u r : List Ed) (redo : Bool) : Bool := stOk u r && decide (0 < (sideE u r redo).length)
def topV (u r : List Ed) (redo : Bool) : Ed := if topOk u r redo = true then lastE (sideE u r redo) else (0, 0, [])
def turnOk (u r : List Ed) (redo : Bool) (e : Ed) : Bool := topOk u r redo && smallE e
def turnU (u r : List Ed) (redo : Bool) (e : Ed) : List Ed := if turnOk u r redo e = true then (if redo = true then topE u e else u.take (u.length - 1)) else []
def turnR (u r : List Ed) (redo : Bool) (e : Ed) : List Ed := if turnOk u r redo e = true then (if redo = true then r.take (r.length - 1) else topE r e) else []
end Go.Proofs.YtaekanhjkpoifaaGreatDoor
