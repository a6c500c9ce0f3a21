/-
  Chapter 4 in plain Lean: ropes, their cuts, lines and columns. No program here. Own work.
-/
import Derived.Test.YtpipkmnmdipeeaaDoorP02
namespace Go.Proofs.YtpipkmnmdipeeaaDoor.P

/-- Can the rope be cut at the offset? -/
def rCut (ls : List (List UInt8)) (a : Int) : Bool := chunksOk ls && isBound (chunksText ls) a

theorem chunksText_ok {ls : List (List UInt8)} (h : chunksOk ls = true) : chunksText ls = ls.flatten := by unfold chunksText; rw [if_pos h]
theorem chunksText_isText (ls : List (List UInt8)) : isText (chunksText ls) = true := by
  unfold chunksText
  split
  · rename_i h; exact chunksOk_text h
  · exact isText_nil

theorem rCut_text (ls : List (List UInt8)) (a : Int) : rCut ls a = (chunksOk ls && cutOk (chunksText ls) a) := by
  unfold rCut cutOk
  rw [chunksText_isText, Bool.true_and]

theorem rCut_true {ls : List (List UInt8)} {a : Int} (h : rCut ls a = true) : chunksOk ls = true ∧ ∃ k : Nat, a = k ∧ k ≤ (chunksText ls).length ∧ isBound (chunksText ls) (k : Int) = true := by
  unfold rCut at h
  rw [Bool.and_eq_true] at h
  refine ⟨h.1, ?_⟩
  have h2 := h.2
  by_cases ho : a < 0 ∨ ((chunksText ls).length : Int) < a
  · rw [isBound_out _ _ ho] at h2; exact absurd h2 (by simp)
  · exact ⟨a.toNat, by omega, by omega, by rw [show ((a.toNat : Nat) : Int) = a by omega]; exact h2⟩

/-- Where the last line of l begins. -/
def lineFrom (l : List UInt8) : Nat := l.length - (l.reverse.takeWhile (fun b => b != 10)).length
theorem lineFrom_nil : lineFrom [] = 0 := rfl
theorem lineFrom_le (l : List UInt8) : lineFrom l ≤ l.length := Nat.sub_le _ _
theorem lineFrom_snoc (l : List UInt8) (b : UInt8) : lineFrom (l ++ [b]) = if b = 10 then l.length + 1 else lineFrom l := by
  unfold lineFrom
  rw [List.reverse_append]
  simp only [List.reverse_singleton, List.singleton_append, List.takeWhile_cons, List.length_append, List.length_singleton]
  by_cases h : b = 10
  · subst h; simp
  · have hb : (b != 10) = true := by simpa using h
    rw [if_neg h, if_pos hb, List.length_cons]
    omega
theorem lineFrom_take (l : List UInt8) (k : Nat) (h : k < l.length) : lineFrom (l.take (k + 1)) = if l[k] = 10 then k + 1 else lineFrom (l.take k) := by
  rw [List.take_succ_eq_append_getElem h, lineFrom_snoc, List.length_take, show min k l.length = k by omega]

/-- The line and the column of an offset. -/
def ropeLine (ls : List (List UInt8)) (a : Int) : Int × Int :=
  if rCut ls a = true then ((lines ((chunksText ls).take a.toNat) : Int), runeCount (((chunksText ls).take a.toNat).drop (lineFrom ((chunksText ls).take a.toNat)))) else (-1, -1)

/-- Does p stand at offset i of the text? -/
def standsAt (t p : List UInt8) (i : Nat) : Prop := (t.drop i).take p.length = p
theorem standsAt_le {t p : List UInt8} {i : Nat} (h : standsAt t p i) (hi : i ≤ t.length) : i + p.length ≤ t.length := by
  have := congrArg List.length h
  rw [List.length_take, List.length_drop] at this
  omega
instance (t p : List UInt8) (i : Nat) : Decidable (standsAt t p i) := by unfold standsAt; exact inferInstance

/-- r is the nearest offset, from the given one on, at which p stands in t; -1 where there is none. -/
def IsFind (t p : List UInt8) (k : Nat) (r : Int) : Prop :=
  (∃ i : Nat, r = i ∧ k ≤ i ∧ i < t.length ∧ standsAt t p i ∧ ∀ j, k ≤ j → j < i → ¬ standsAt t p j) ∨ (r = -1 ∧ ∀ j, k ≤ j → j < t.length → ¬ standsAt t p j)
theorem IsFind.unique {t p : List UInt8} {k : Nat} {r s : Int} (h : IsFind t p k r) (g : IsFind t p k s) : r = s := by
  rcases h with ⟨i, rfl, h1, h2, h3, h4⟩ | ⟨rfl, h⟩ <;> rcases g with ⟨j, rfl, g1, g2, g3, g4⟩ | ⟨rfl, g⟩
  · rcases Nat.lt_trichotomy i j with x | x | x
    · exact absurd h3 (g4 i h1 x)
    · rw [x]
    · exact absurd g3 (h4 j g1 x)
  · exact absurd h3 (g i h1 h2)
  · exact absurd g3 (h j g1 g2)
  · rfl

/-- r is the last offset, up to the given one, at which p stands in t; -1 where there is none. -/
def IsFindBack (t p : List UInt8) (k : Nat) (r : Int) : Prop :=
  (∃ i : Nat, r = i ∧ i ≤ k ∧ standsAt t p i ∧ ∀ j, i < j → j ≤ k → ¬ standsAt t p j) ∨ (r = -1 ∧ ∀ j, j ≤ k → ¬ standsAt t p j)
theorem IsFindBack.unique {t p : List UInt8} {k : Nat} {r s : Int} (h : IsFindBack t p k r) (g : IsFindBack t p k s) : r = s := by
  rcases h with ⟨i, rfl, h1, h3, h4⟩ | ⟨rfl, h⟩ <;> rcases g with ⟨j, rfl, g1, g3, g4⟩ | ⟨rfl, g⟩
  · rcases Nat.lt_trichotomy i j with x | x | x
    · exact absurd g3 (h4 j x g1)
    · rw [x]
    · exact absurd h3 (g4 i x h1)
  · exact absurd h3 (g i h1)
  · exact absurd g3 (h j g1)
  · rfl

theorem chunksOk_append (ls rs : List (List UInt8)) : chunksOk (ls ++ rs) = (chunksOk ls && chunksOk rs && decide (ls.flatten.length + rs.flatten.length ≤ 400)) := by
  unfold chunksOk
  rw [List.all_append, List.flatten_append, List.length_append]
  rw [Bool.eq_iff_iff]
  simp only [Bool.and_eq_true, decide_eq_true_eq]
  constructor
  · rintro ⟨⟨a, b⟩, c⟩; exact ⟨⟨⟨a, by omega⟩, b, by omega⟩, c⟩
  · rintro ⟨⟨⟨a, _⟩, b, _⟩, c⟩; exact ⟨⟨a, b⟩, c⟩
end Go.Proofs.YtpipkmnmdipeeaaDoor.P
