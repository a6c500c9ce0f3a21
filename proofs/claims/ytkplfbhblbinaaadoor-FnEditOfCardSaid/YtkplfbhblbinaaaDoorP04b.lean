/-
  Chapter 4, plain mathematics: where a text stands in a text, the text can be cut; what is found is found again from there. Own work.
-/
import Derived.Test.YtkplfbhblbinaaaDoorP04
import Derived.Test.YtkplfbhblbinaaaDoorP05
import Derived.Test.YtkplfbhblbinaaaDoorP01d
namespace Go.Proofs.YtkplfbhblbinaaaDoor.P

theorem okS_app_right : ∀ (n : Nat) (a b : List UInt8), a.length ≤ n → okS 0 a = true → okS 0 (a ++ b) = true → okS 0 b = true := by
  intro n
  induction n with
  | zero =>
    intro a b h1 h2 h3
    have : a = [] := List.eq_nil_of_length_eq_zero (by omega)
    subst this
    simpa using h3
  | succ n ih =>
    intro a b h1 h2 h3
    by_cases ha : a = []
    · subst ha; simpa using h3
    · rw [okS_step ha] at h2
      simp only [Bool.and_eq_true, decide_eq_true_eq] at h2
      have hne : a ++ b ≠ [] := by simp [ha]
      have hle := sz_le a
      rw [okS_step hne, sz_app h2.1, List.drop_append_of_le_length hle, decide_eq_true h2.1, Bool.true_and] at h3
      exact ih _ _ (by have := h2.1; rw [List.length_drop]; omega) h2.2 h3

theorem stands_cut {t p : List UInt8} {i : Nat} (ht : okS 0 t = true) (hp : okS 0 p = true) (h0 : 0 < p.length) (hi : i < t.length) (h : standsAt t p i) :
    i + p.length ≤ t.length ∧ isBound t (i : Int) = true ∧ isBound t ((i + p.length : Nat) : Int) = true := by
  have hle := standsAt_le h (Nat.le_of_lt hi)
  have hpre : t.drop i = p ++ t.drop (i + p.length) := by
    have h1 := (List.take_append_drop p.length (t.drop i)).symm
    unfold standsAt at h
    rw [h, List.drop_drop] at h1
    exact h1
  have hb : isBound t (i : Int) = true := by
    rw [isBound_lt t i hi]
    have hz := isBound_zero p hp
    rw [isBound_lt p 0 h0] at hz
    have e : t[i] = p[0] := by
      have h1 : (t.drop i)[0]? = (p ++ t.drop (i + p.length))[0]? := by rw [hpre]
      rw [List.getElem?_drop, List.getElem?_append_left h0, Nat.add_zero, List.getElem?_eq_getElem hi, List.getElem?_eq_getElem h0] at h1
      exact Option.some.inj h1
    rw [e]
    exact hz
  refine ⟨hle, hb, ?_⟩
  have h1 := okS_of_bound ht (Nat.le_of_lt hi) hb
  rw [hpre] at h1
  have h2 := okS_app_right _ _ _ (Nat.le_refl _) hp h1
  have h3 := isBound_zero _ h2
  rw [isBound_drop t (i + p.length) 0 hle (by omega)] at h3
  exact h3

/-- What a find ends in, where there is one. -/
theorem finds_hit {ls : List (List UInt8)} {p : List UInt8} {a r : Int} (h : FindsR ls p a r) (hr : 0 ≤ r) :
    ∃ i : Nat, r = i ∧ a ≤ r ∧ rCut ls (i : Int) = true ∧ rCut ls ((i : Int) + p.length) = true ∧ chunksOk ls = true ∧ (ls.flatten.drop i).take p.length = p ∧ i + p.length ≤ ls.flatten.length ∧ 0 < p.length ∧
      (∀ s, FindsBackR ls p (i : Int) s → s = i) ∧ (∀ s, FindsBackR ls p (ls.flatten.length : Int) s → (i : Int) ≤ s) ∧ ∀ s, FindsR ls p (i : Int) s → s = i := by
  rcases h with ⟨hc, h⟩ | ⟨_, h⟩
  · unfold canFindR at hc
    simp only [Bool.and_eq_true, decide_eq_true_eq] at hc
    obtain ⟨hcut, hpt, hp0⟩ := hc
    have hcut' := hcut
    unfold rCut at hcut'
    rw [Bool.and_eq_true] at hcut'
    have htx := chunksText_ok hcut'.1
    rw [htx] at h hcut'
    have htext := chunksOk_text hcut'.1
    have ha : 0 ≤ a ∧ a ≤ ls.flatten.length := by
      by_cases h1 : a < 0 ∨ (ls.flatten.length : Int) < a
      · have h2 := isBound_out _ a h1; rw [hcut'.2] at h2; cases h2
      · omega
    rcases h with ⟨i, rfl, h1, h2, h3, h4⟩ | ⟨h, _⟩
    · obtain ⟨c1, c2, c3⟩ := stands_cut (isText_ok htext) (isText_ok hpt) hp0 h2 h3
      have cut : ∀ k : Int, isBound ls.flatten k = true → rCut ls k = true := fun k hk => by unfold rCut; rw [htx, hcut'.1, hk]; rfl
      have can : ∀ k : Int, isBound ls.flatten k = true → canFindR ls p k = true := fun k hk => by unfold canFindR; rw [cut k hk, hpt, decide_eq_true hp0]; rfl
      refine ⟨i, rfl, by omega, cut _ c2, ?_, hcut'.1, h3, c1, hp0, ?_, ?_, ?_⟩
      · have := cut _ c3
        rwa [Int.natCast_add] at this
      · intro s hs
        rcases hs with ⟨_, hs⟩ | ⟨hs, _⟩
        · rw [htx] at hs
          rcases hs with ⟨j, rfl, g1, g2, g3⟩ | ⟨rfl, g⟩
          · by_cases hj : j < i
            · exact absurd h3 (g3 i hj (by omega))
            · omega
          · exact absurd h3 (g i (by omega))
        · rw [can _ c2] at hs; cases hs
      · intro s hs
        rcases hs with ⟨_, hs⟩ | ⟨hs, _⟩
        · rw [htx] at hs
          rcases hs with ⟨j, rfl, g1, g2, g3⟩ | ⟨rfl, g⟩
          · by_cases hj : j < i
            · exact absurd h3 (g3 i hj (by omega))
            · omega
          · exact absurd h3 (g i (by omega))
        · rw [can _ (isBound_end _)] at hs; cases hs
      · intro s hs
        rcases hs with ⟨_, hs⟩ | ⟨hs, _⟩
        · rw [htx] at hs
          rcases hs with ⟨j, rfl, g1, g2, g3, g4⟩ | ⟨rfl, g⟩
          · by_cases hj : i < j
            · exact absurd h3 (g4 i (by omega) hj)
            · omega
          · exact absurd h3 (g i (by omega) h2)
        · rw [can _ c2] at hs; cases hs
    · omega
  · omega
end Go.Proofs.YtkplfbhblbinaaaDoor.P
