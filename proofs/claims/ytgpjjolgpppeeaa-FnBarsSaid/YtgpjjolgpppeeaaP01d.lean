/-
  Chapter 1 in plain Lean, the fourth part: places and counts are inverse. No program here. Own work.
-/
import Derived.Test.YtgpjjolgpppeeaaP01
namespace Go.Proofs.Ytgpjjolgpppeeaa.P

/-- In a text a boundary is a place from which the rest is a text. -/
theorem okS_bound (l : List UInt8) (k : Nat) (hk : k ≤ l.length) (hb : isBound l k = true) : ∀ (m p : Nat), k - p ≤ m → p ≤ k → okS 0 (l.drop p) = true → okS 0 (l.drop k) = true := by
  intro m
  induction m with
  | zero =>
    intro p h1 h2 h3
    have e : k = p := by omega
    rw [e]; exact h3
  | succ m ih =>
    intro p h1 h2 h3
    by_cases e : p = k
    · subst e; exact h3
    · obtain ⟨a, b, c, d, f⟩ := bound_here (p := p) (by omega) h3
      by_cases g : k < p + sz (l.drop p)
      · rw [f k (by omega) g] at hb; cases hb
      · exact ih _ (by omega) (by omega) c

theorem isText_ok {l : List UInt8} (h : isText l = true) : okS 0 l = true := by unfold isText at h; simp at h; exact h.2

theorem placeOf_count (l : List UInt8) (h : isText l = true) : placeOf l (runeCount l) = l.length := by
  have hr : runeCount l = (runesBefore l l.length : Int) := by
    unfold runeCount runesTo
    rw [if_pos ⟨h, isBound_end l⟩, Int.toNat_natCast]
  rw [hr]
  unfold placeOf
  rw [if_pos ⟨h, by omega⟩, Int.toNat_natCast]
  have := filter_find (fun k : Nat => isBound l k) (l.length + 1) l.length (by omega) (isBound_end l)
  unfold cuts runesBefore
  rw [this]
  rfl

theorem runesTo_pos {l : List UInt8} {a : Int} (h : 0 ≤ runesTo l a) : isText l = true ∧ ∃ k : Nat, a = k ∧ k ≤ l.length ∧ isBound l k = true ∧ runesTo l a = runesBefore l k := by
  unfold runesTo at h
  split at h
  · rename_i hc
    have hr : 0 ≤ a ∧ a ≤ l.length := by
      have := hc.2; unfold isBound at this; simp only [Bool.and_eq_true, decide_eq_true_eq] at this; exact this.1
    obtain ⟨k, rfl⟩ := Int.eq_ofNat_of_zero_le hr.1
    exact ⟨hc.1, k, rfl, by omega, hc.2, by unfold runesTo; rw [if_pos hc, Int.toNat_natCast]⟩
  · omega

theorem placeOf_runesTo (l : List UInt8) (a : Int) (h : 0 ≤ runesTo l a) : placeOf l (runesTo l a) = a := by
  obtain ⟨ht, k, rfl, hk, hb, hr⟩ := runesTo_pos h
  rw [hr]
  unfold placeOf
  rw [if_pos ⟨ht, by omega⟩, Int.toNat_natCast]
  have := filter_find (fun k : Nat => isBound l k) (l.length + 1) k (by omega) hb
  unfold cuts runesBefore
  rw [this]
  rfl

theorem placeOf_next (l : List UInt8) (a : Int) (h : 0 ≤ runesTo l a) (hne : a ≠ l.length) : placeOf l (runesTo l a + 1) = a + runeSize l a := by
  obtain ⟨ht, k, rfl, hk, hb, hr⟩ := runesTo_pos h
  have hkl : k < l.length := by omega
  have hok := okS_bound l k hk hb k 0 (by omega) (by omega) (isText_ok ht)
  obtain ⟨h1, h2, h3, h4, h5⟩ := bound_here hkl hok
  have hsz : runeSize l (k : Int) = sz (l.drop k) := by
    unfold runeSize runeAt sz
    rw [if_neg (by omega), Int.toNat_natCast]
  have hb2 : isBound l ((k + sz (l.drop k) : Nat) : Int) = true := by
    by_cases e : k + sz (l.drop k) = l.length
    · rw [e]; exact isBound_end l
    · exact (bound_here (by omega) h3).2.2.2.1
  have hfs := filter_step hkl h1
  have hlen : ((List.range (k + sz (l.drop k))).filter fun k : Nat => isBound l k).length = runesBefore l k + 1 := by rw [hfs]; simp [runesBefore]
  rw [hr, hsz]
  unfold placeOf
  rw [if_pos ⟨ht, by omega⟩]
  have := filter_find (fun k : Nat => isBound l k) (l.length + 1) (k + sz (l.drop k)) (by omega) hb2
  rw [hlen] at this
  have e : ((runesBefore l k : Int) + 1).toNat = runesBefore l k + 1 := by omega
  rw [e]
  unfold cuts
  rw [this]
  simp [placeIn]

theorem runesTo_not {l : List UInt8} (h : isText l = false) (a : Int) : runesTo l a = -1 := by
  unfold runesTo; rw [if_neg (by rw [h]; simp)]

theorem runesTo_ge (l : List UInt8) (a : Int) : -1 ≤ runesTo l a := by unfold runesTo; split <;> omega

theorem runesTo_bd (l : List UInt8) (a : Int) : runesTo l a ≤ l.length := by
  rcases Int.lt_or_le (runesTo l a) 0 with h | h
  · omega
  · obtain ⟨_, k, _, hk, _, hr⟩ := runesTo_pos h
    rw [hr]
    have : runesBefore l k ≤ k := by
      unfold runesBefore
      have := List.length_filter_le (fun k : Nat => isBound l k) (List.range k)
      simpa using this
    omega
end Go.Proofs.Ytgpjjolgpppeeaa.P
