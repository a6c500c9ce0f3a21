/-
  Chapter 4 in plain Lean: ropes, their cuts, lines and columns. No program here. Own work.
  Chapter 4 in plain Lean: what the library's searches say of a text. Own work.
  Chapter 4 in plain Lean: the rolling hash of the library's backward search, and what that search finds. Own work.
-/
import Derived.Test.YtgpjjolgpppeeaaP02
import Derived.Lib.IndexMore
import Derived.Lib.LastIndexLaws
namespace Go.Proofs.Ytgpjjolgpppeeaa.P

/-- Can the rope be cut at the offset? -/
def rCut (ls : List (List UInt8)) (a : Int) : Bool := chunksOk ls && isBound (chunksText ls) a

theorem chunksText_ok {ls : List (List UInt8)} (h : chunksOk ls = true) : chunksText ls = ls.flatten := by unfold chunksText; rw [if_pos h]
theorem chunksText_isText (ls : List (List UInt8)) : isText (chunksText ls) = true := by
  unfold chunksText
  split
  · rename_i h; exact chunksOk_text h
  · exact isText_nil

theorem rCut_text (ls : List (List UInt8)) (a : Int) : rCut ls a = (chunksOk ls && cutOk (chunksText ls) a) := by
  unfold rCut cutOk
  rw [chunksText_isText, Bool.true_and]

theorem rCut_true {ls : List (List UInt8)} {a : Int} (h : rCut ls a = true) : chunksOk ls = true ∧ ∃ k : Nat, a = k ∧ k ≤ (chunksText ls).length ∧ isBound (chunksText ls) (k : Int) = true := by
  unfold rCut at h
  rw [Bool.and_eq_true] at h
  refine ⟨h.1, ?_⟩
  have h2 := h.2
  by_cases ho : a < 0 ∨ ((chunksText ls).length : Int) < a
  · rw [isBound_out _ _ ho] at h2; exact absurd h2 (by simp)
  · exact ⟨a.toNat, by omega, by omega, by rw [show ((a.toNat : Nat) : Int) = a by omega]; exact h2⟩

/-- Where the last line of l begins. -/
def lineFrom (l : List UInt8) : Nat := l.length - (l.reverse.takeWhile (fun b => b != 10)).length
theorem lineFrom_nil : lineFrom [] = 0 := rfl
theorem lineFrom_le (l : List UInt8) : lineFrom l ≤ l.length := Nat.sub_le _ _
theorem lineFrom_snoc (l : List UInt8) (b : UInt8) : lineFrom (l ++ [b]) = if b = 10 then l.length + 1 else lineFrom l := by
  unfold lineFrom
  rw [List.reverse_append]
  simp only [List.reverse_singleton, List.singleton_append, List.takeWhile_cons, List.length_append, List.length_singleton]
  by_cases h : b = 10
  · subst h; simp
  · have hb : (b != 10) = true := by simpa using h
    rw [if_neg h, if_pos hb, List.length_cons]
    omega
theorem lineFrom_take (l : List UInt8) (k : Nat) (h : k < l.length) : lineFrom (l.take (k + 1)) = if l[k] = 10 then k + 1 else lineFrom (l.take k) := by
  rw [List.take_succ_eq_append_getElem h, lineFrom_snoc, List.length_take, show min k l.length = k by omega]

/-- The line and the column of an offset. -/
def ropeLine (ls : List (List UInt8)) (a : Int) : Int × Int :=
  if rCut ls a = true then ((lines ((chunksText ls).take a.toNat) : Int), runeCount (((chunksText ls).take a.toNat).drop (lineFrom ((chunksText ls).take a.toNat)))) else (-1, -1)

/-- Does p stand at offset i of the text? -/
def standsAt (t p : List UInt8) (i : Nat) : Prop := (t.drop i).take p.length = p
theorem standsAt_le {t p : List UInt8} {i : Nat} (h : standsAt t p i) (hi : i ≤ t.length) : i + p.length ≤ t.length := by
  have := congrArg List.length h
  rw [List.length_take, List.length_drop] at this
  omega
instance (t p : List UInt8) (i : Nat) : Decidable (standsAt t p i) := by unfold standsAt; exact inferInstance

/-- r is the nearest offset, from the given one on, at which p stands in t; -1 where there is none. -/
def IsFind (t p : List UInt8) (k : Nat) (r : Int) : Prop :=
  (∃ i : Nat, r = i ∧ k ≤ i ∧ i < t.length ∧ standsAt t p i ∧ ∀ j, k ≤ j → j < i → ¬ standsAt t p j) ∨ (r = -1 ∧ ∀ j, k ≤ j → j < t.length → ¬ standsAt t p j)
theorem IsFind.unique {t p : List UInt8} {k : Nat} {r s : Int} (h : IsFind t p k r) (g : IsFind t p k s) : r = s := by
  rcases h with ⟨i, rfl, h1, h2, h3, h4⟩ | ⟨rfl, h⟩ <;> rcases g with ⟨j, rfl, g1, g2, g3, g4⟩ | ⟨rfl, g⟩
  · rcases Nat.lt_trichotomy i j with x | x | x
    · exact absurd h3 (g4 i h1 x)
    · rw [x]
    · exact absurd g3 (h4 j g1 x)
  · exact absurd h3 (g i h1 h2)
  · exact absurd g3 (h j g1 g2)
  · rfl

/-- r is the last offset, up to the given one, at which p stands in t; -1 where there is none. -/
def IsFindBack (t p : List UInt8) (k : Nat) (r : Int) : Prop :=
  (∃ i : Nat, r = i ∧ i ≤ k ∧ standsAt t p i ∧ ∀ j, i < j → j ≤ k → ¬ standsAt t p j) ∨ (r = -1 ∧ ∀ j, j ≤ k → ¬ standsAt t p j)
theorem IsFindBack.unique {t p : List UInt8} {k : Nat} {r s : Int} (h : IsFindBack t p k r) (g : IsFindBack t p k s) : r = s := by
  rcases h with ⟨i, rfl, h1, h3, h4⟩ | ⟨rfl, h⟩ <;> rcases g with ⟨j, rfl, g1, g3, g4⟩ | ⟨rfl, g⟩
  · rcases Nat.lt_trichotomy i j with x | x | x
    · exact absurd g3 (h4 j x g1)
    · rw [x]
    · exact absurd h3 (g4 i x h1)
  · exact absurd h3 (g i h1)
  · exact absurd g3 (h j g1)
  · rfl

/-- Is there something to look for, at a place where one can begin? -/
def canFindR (ls : List (List UInt8)) (p : List UInt8) (a : Int) : Bool := rCut ls a && (isText p && decide (0 < p.length))
def FindsR (ls : List (List UInt8)) (p : List UInt8) (a r : Int) : Prop := (canFindR ls p a = true ∧ IsFind (chunksText ls) p a.toNat r) ∨ (canFindR ls p a = false ∧ r = -1)
def FindsBackR (ls : List (List UInt8)) (p : List UInt8) (a r : Int) : Prop := (canFindR ls p a = true ∧ IsFindBack (chunksText ls) p a.toNat r) ∨ (canFindR ls p a = false ∧ r = -1)
theorem FindsR.unique {ls : List (List UInt8)} {p : List UInt8} {a r s : Int} (h : FindsR ls p a r) (g : FindsR ls p a s) : r = s := by
  rcases h with ⟨h1, h2⟩ | ⟨h1, h2⟩ <;> rcases g with ⟨g1, g2⟩ | ⟨g1, g2⟩
  · exact h2.unique g2
  · rw [h1] at g1; cases g1
  · rw [h1] at g1; cases g1
  · rw [h2, g2]
theorem FindsBackR.unique {ls : List (List UInt8)} {p : List UInt8} {a r s : Int} (h : FindsBackR ls p a r) (g : FindsBackR ls p a s) : r = s := by
  rcases h with ⟨h1, h2⟩ | ⟨h1, h2⟩ <;> rcases g with ⟨g1, g2⟩ | ⟨g1, g2⟩
  · exact h2.unique g2
  · rw [h1] at g1; cases g1
  · rw [h1] at g1; cases g1
  · rw [h2, g2]

theorem chunksOk_append (ls rs : List (List UInt8)) : chunksOk (ls ++ rs) = (chunksOk ls && chunksOk rs && decide (ls.flatten.length + rs.flatten.length ≤ 400)) := by
  unfold chunksOk
  rw [List.all_append, List.flatten_append, List.length_append]
  rw [Bool.eq_iff_iff]
  simp only [Bool.and_eq_true, decide_eq_true_eq]
  constructor
  · rintro ⟨⟨a, b⟩, c⟩; exact ⟨⟨⟨a, by omega⟩, b, by omega⟩, c⟩
  · rintro ⟨⟨⟨a, _⟩, b, _⟩, c⟩; exact ⟨⟨a, b⟩, c⟩
end Go.Proofs.Ytgpjjolgpppeeaa.P

namespace Go.Proofs.Ytgpjjolgpppeeaa.P

theorem standsAt_iff (t p : List UInt8) (i : Nat) : standsAt t p i ↔ p <+: t.drop i := by
  unfold standsAt
  rw [List.prefix_iff_eq_take]
  exact eq_comm
theorem occAt_iff (t p : List UInt8) (k j : Nat) : Go.Lib.occAt (t.drop k) p j = true ↔ standsAt t p (k + j) := by
  rw [standsAt_iff]
  unfold Go.Lib.occAt
  rw [List.isPrefixOf_iff_prefix, List.drop_drop]

theorem find_of_index (t p : List UInt8) (k : Nat) (hk : k ≤ t.length) (hp : 0 < p.length) (r : Int) (hr : Go.Lib.index (t.drop k) p = r) :
    (r < 0 → IsFind t p k (-1)) ∧ (0 ≤ r → IsFind t p k ((k : Int) + r)) ∧ r ≤ t.length := by
  rcases Go.Lib.index_spec (t.drop k) p with ⟨h1, h2⟩ | ⟨i, h1, h2, h3, h4⟩
  · rw [h1] at hr
    subst hr
    refine ⟨fun _ => .inr ⟨rfl, fun j hj hlt hs => ?_⟩, fun h => absurd h (by decide), by omega⟩
    have := h2 (j - k) (by rw [List.length_drop]; omega)
    rw [Bool.eq_false_iff] at this
    exact this ((occAt_iff t p k (j - k)).2 (by rw [show k + (j - k) = j by omega]; exact hs))
  · rw [h1] at hr
    subst hr
    rw [List.length_drop] at h2
    have hs := (occAt_iff t p k i).1 h3
    have hle := standsAt_le hs (by omega)
    refine ⟨fun h => by omega, fun _ => .inl ⟨k + i, by omega, by omega, by omega, hs, fun j hj hlt hs' => ?_⟩, by omega⟩
    have := h4 (j - k) (by omega)
    rw [Bool.eq_false_iff] at this
    exact this ((occAt_iff t p k (j - k)).2 (by rw [show k + (j - k) = j by omega]; exact hs'))
end Go.Proofs.Ytgpjjolgpppeeaa.P

namespace Go.Proofs.Ytgpjjolgpppeeaa.P
open Go.Lib
set_option linter.unusedVariables false

theorem hashL (l : List UInt8) (k : Nat) (h1 : 1 ≤ k) (hk : k ≤ l.length) {h : Int} (hh : h = RK.H (l.drop k).reverse % 4294967296) :
    (h * 16777619 % 4294967296 + ((l[k - 1]'(by omega)).toNat : Int) % 4294967296) % 4294967296 = RK.H (l.drop (k - 1)).reverse % 4294967296 := by
  have := LastIndex.hashrev_step ⟨l.toArray⟩ k h1 (by simpa [ByteArray.size] using hk) (h := h) hh
  exact this

theorem rollL (t : List UInt8) (n i : Nat) (hn : 1 ≤ n) (hi : i + 1 + n ≤ t.length) {h pw : Int} (hh : h = RK.H (RK.win t (i + 1) n).reverse % 4294967296) (hp : pw = 16777619 ^ n % 4294967296) :
    (h * 16777619 + ((t[i]'(by omega)).toNat : Int) - pw * (((t[i + n]'(by omega)).toNat : Int) % 4294967296)) % 4294967296 = RK.H (RK.win t i n).reverse % 4294967296 := by
  have := LastIndex.rollrev_step ⟨t.toArray⟩ n i hn (by simpa [ByteArray.size] using hi) (h := h) (pw := pw) hh hp
  exact this

theorem noHashL (t p : List UInt8) (j : Nat) (hj : j + p.length ≤ t.length) {h hh : Int} (e1 : h = RK.H (RK.win t j p.length).reverse % 4294967296) (e2 : hh = RK.H p.reverse % 4294967296) (hne : ¬ h = hh) : ¬ standsAt t p j := by
  intro hs
  apply hne
  rw [e1, e2]
  have : RK.win t j p.length = p := hs
  rw [this]

theorem winL (t : List UInt8) (j n : Nat) (h : j + n = t.length) : t.drop j = RK.win t j n := (List.take_of_length_le (by rw [List.length_drop]; omega)).symm

/-- r is the last offset at which p stands in t, all of it; -1 where there is none. -/
def IsLast (t p : List UInt8) (r : Int) : Prop :=
  (∃ i : Nat, r = i ∧ i + p.length ≤ t.length ∧ standsAt t p i ∧ ∀ j, i < j → j + p.length ≤ t.length → ¬ standsAt t p j) ∨ (r = -1 ∧ ∀ j, j + p.length ≤ t.length → ¬ standsAt t p j)

theorem standsAt_take {t p : List UInt8} {n j : Nat} (h : j + p.length ≤ n) : standsAt (t.take n) p j ↔ standsAt t p j := by
  unfold standsAt
  rw [List.drop_take, List.take_take, Nat.min_eq_left (by omega)]

theorem findBack_of_last (t p : List UInt8) (k : Nat) (hk : k ≤ t.length) (hp : 0 < p.length) (r : Int) (h : IsLast (t.take (min (k + p.length) t.length)) p r) : IsFindBack t p k r := by
  have hl : (t.take (min (k + p.length) t.length)).length = min (k + p.length) t.length := by rw [List.length_take]; omega
  unfold IsLast at h
  rw [hl] at h
  rcases h with ⟨i, rfl, h1, h2, h3⟩ | ⟨rfl, h⟩
  · refine .inl ⟨i, rfl, by omega, (standsAt_take h1).1 h2, fun j hj hjk hs => ?_⟩
    have hle := standsAt_le hs (by omega)
    exact h3 j hj (by omega) ((standsAt_take (by omega)).2 hs)
  · refine .inr ⟨rfl, fun j hjk hs => ?_⟩
    have hle := standsAt_le hs (by omega)
    exact h j (by omega) ((standsAt_take (by omega)).2 hs)

theorem standsAt_one (t : List UInt8) (b : UInt8) (j : Nat) (h : j < t.length) : standsAt t [b] j ↔ t[j] = b := by
  have e : (t.drop j).take ([b] : List UInt8).length = [t[j]] := by rw [List.drop_eq_getElem_cons h]; rfl
  unfold standsAt
  rw [e, List.cons.injEq]
  exact ⟨fun h => h.1, fun h => ⟨h, rfl⟩⟩
theorem standsAt_all (t p : List UInt8) (h : p.length = t.length) : standsAt t p 0 ↔ t = p := by
  unfold standsAt
  rw [List.drop_zero, h, List.take_length]
end Go.Proofs.Ytgpjjolgpppeeaa.P
