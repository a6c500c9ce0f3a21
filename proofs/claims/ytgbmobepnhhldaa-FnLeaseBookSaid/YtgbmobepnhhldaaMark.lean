/-
  The laws' marks on a slice of bytes of the call's own: contracts. Own work.
-/
import Derived.Test.YtgbmobepnhhldaaI01f
namespace Go.Proofs.Ytgbmobepnhhldaa
open Go.RowKit P
set_option linter.unusedVariables false

theorem Own.set {w : World} {base g : Nat} {c : Nat} {l : List UInt8} (h : Own w base (.slice (some ⟨g, 0, none⟩) l.length c) l) (i : Nat) (hi : i < l.length) (b : UInt8) :
    Own (w.setCell ⟨g, i, none⟩ (bV b)) base (.slice (some ⟨g, 0, none⟩) l.length c) (l.set i b) := by
  obtain ⟨h1, h2⟩ := h
  refine ⟨by simp, ?_⟩
  rcases h2 with ⟨h3, _⟩ | ⟨g', cap, cur, hv, hb, hh, hn, hc, hs, ht⟩
  · cases h3
  · cases hv
    refine .inr ⟨g, c, cur.setIfInBounds i (bV b), by simp, hb, ?_, by simpa using hn, hc, by simpa using hs, ?_⟩
    · simp [World.setCell, Array.getElem?_modify, hh]
    · rw [Array.toList_setIfInBounds, List.length_set, Nat.mul_one, List.take_set, List.map_set]
      rw [Nat.mul_one] at ht
      rw [ht]

/-- n bytes from k on. -/
def marks (k : Nat) : Nat → List UInt8
  | 0 => []
  | n + 1 => UInt8.ofNat k :: marks (k + 1) n

theorem marks_length (k n : Nat) : (marks k n).length = n := by
  induction n generalizing k with
  | zero => rfl
  | succ n ih => simp [marks, ih]

theorem marks_snoc (k n : Nat) : marks k (n + 1) = marks k n ++ [UInt8.ofNat (k + n)] := by
  induction n generalizing k with
  | zero => rfl
  | succ n ih =>
    rw [marks, ih (k + 1)]
    simp only [marks, List.cons_append]
    congr 4
    omega

theorem marks_get (k n i : Nat) (hi : i < n) : (marks k n)[i]'(by rw [marks_length]; exact hi) = UInt8.ofNat (k + i) := by
  induction n generalizing k i with
  | zero => omega
  | succ n ih =>
    cases i with
    | zero => rfl
    | succ i =>
      simp only [marks, List.getElem_cons_succ]
      rw [ih (k + 1) i (by omega)]
      congr 1
      omega

theorem ownBlock_some {g o n c : Nat} : (Value.slice (some ⟨g, o, none⟩) n c).ownBlock = some g := rfl

theorem ofNat_marks (k n i : Nat) (hi : i < n) : (((marks k n)[i]'(by rw [marks_length]; exact hi)).toNat : Int) = ((k + i : Nat) : Int) % 256 := by
  rw [marks_get k n i hi, UInt8.toNat_ofNat']
  omega

end Go.Proofs.Ytgbmobepnhhldaa
