/-
  Heaps of leases, plain: the one that ends first is on top. Own work.
-/
import Derived.Test.YtgpjjolgpppeeaaP10
namespace Go.Proofs.Ytgpjjolgpppeeaa
open Go.RowKit P
set_option linter.unusedVariables false

/-- When the lease at i ends. -/
def tl (H : List Le) (i : Nat) : Int := (H.getD i (0, 0, 0, 0)).2.2.2
theorem tl_at {H : List Le} {i : Nat} (h : i < H.length) : tl H i = (H[i]).2.2.2 := by unfold tl; rw [List.getD_eq_getElem?_getD, List.getElem?_eq_getElem h]; rfl
/-- i and j exchanged. -/
def sw (H : List Le) (i j : Nat) : List Le := (H.set i (H.getD j (0, 0, 0, 0))).set j (H.getD i (0, 0, 0, 0))
theorem sw_length (H : List Le) (i j : Nat) : (sw H i j).length = H.length := by unfold sw; simp
theorem sw_getD {H : List Le} {i j : Nat} (hi : i < H.length) (hj : j < H.length) (k : Nat) : (sw H i j).getD k (0, 0, 0, 0) = if k = j then H.getD i (0, 0, 0, 0) else if k = i then H.getD j (0, 0, 0, 0) else H.getD k (0, 0, 0, 0) := by
  unfold sw
  simp only [List.getD_eq_getElem?_getD, List.getElem?_set, List.length_set]
  by_cases h1 : k = j
  · subst h1; simp [hj]
  · have n1 : ¬ j = k := fun e => h1 e.symm
    by_cases h2 : k = i
    · subst h2; rw [if_neg n1, if_neg h1, if_pos rfl, if_pos rfl, if_pos hi]; rfl
    · have n2 : ¬ i = k := fun e => h2 e.symm
      rw [if_neg n1, if_neg n2, if_neg h1, if_neg h2]
theorem tl_sw {H : List Le} {i j : Nat} (hi : i < H.length) (hj : j < H.length) (k : Nat) : tl (sw H i j) k = if k = j then tl H i else if k = i then tl H j else tl H k := by
  unfold tl
  rw [sw_getD hi hj k]
  split
  · rfl
  · split <;> rfl
theorem sw_perm {H : List Le} {i j : Nat} (hi : i < H.length) (hj : j < H.length) : (sw H i j).Perm H := by
  rw [List.perm_iff_count]
  intro x
  unfold sw
  rw [List.count_set (by rw [List.length_set]; exact hj), List.count_set hi]
  simp only [List.getD_eq_getElem?_getD, List.getElem?_eq_getElem hi, List.getElem?_eq_getElem hj, Option.getD_some]
  rw [List.getElem_set]
  have c1 : 0 < H.count H[i] := List.count_pos_iff.2 (List.getElem_mem hi)
  have c2 : 0 < H.count H[j] := List.count_pos_iff.2 (List.getElem_mem hj)
  by_cases e : i = j
  · subst e
    simp only [if_true]
    by_cases h1 : (H[i] == x) = true
    · have h2 := eq_of_beq h1
      subst h2
      simp
    · simp [h1]
  · rw [if_neg e]
    by_cases h1 : (H[i] == x) = true
    · by_cases h2 : (H[j] == x) = true
      · have e1 := eq_of_beq h1
        rw [e1] at c1
        simp [h1, h2]
        omega
      · have e1 := eq_of_beq h1
        rw [e1] at c1
        simp [h1, h2]
        omega
    · by_cases h2 : (H[j] == x) = true
      · simp [h1, h2]
      · simp [h1, h2]

/-- The first n are a heap. -/
def IsHeap (H : List Le) (n : Nat) : Prop := ∀ i, 0 < i → i < n → tl H ((i - 1) / 2) ≤ tl H i
theorem IsHeap.top {H : List Le} {n : Nat} (h : IsHeap H n) : ∀ i, i < n → tl H 0 ≤ tl H i := by
  intro i
  induction i using Nat.strongRecOn with
  | _ i ih =>
    intro hi
    by_cases h0 : i = 0
    · subst h0; exact Int.le_refl _
    · exact Int.le_trans (ih ((i - 1) / 2) (by omega) (by omega)) (h i (by omega) hi)

/-- A heap but for the way from j up. -/
structure UpInv (H : List Le) (n j : Nat) : Prop where
  lt : j < n
  a : ∀ i, 0 < i → i < n → i ≠ j → tl H ((i - 1) / 2) ≤ tl H i
  b : ∀ i, 0 < i → i < n → (i - 1) / 2 = j → 0 < j → tl H ((j - 1) / 2) ≤ tl H i
theorem UpInv.done {H : List Le} {n j : Nat} (h : UpInv H n j) (hs : j = 0 ∨ tl H ((j - 1) / 2) ≤ tl H j) : IsHeap H n := by
  intro i h0 hi
  by_cases e : i = j
  · subst e
    rcases hs with hs | hs
    · omega
    · exact hs
  · exact h.a i h0 hi e
theorem UpInv.step {H : List Le} {n j : Nat} (h : UpInv H n j) (hn : n ≤ H.length) (hj : 0 < j) (hl : tl H j < tl H ((j - 1) / 2)) : UpInv (sw H ((j - 1) / 2) j) n ((j - 1) / 2) := by
  have hlt := h.lt
  obtain ⟨p, hp⟩ : ∃ p, (j - 1) / 2 = p := ⟨_, rfl⟩
  rw [hp] at hl ⊢
  have hpj : p < j := by omega
  have T := fun k => tl_sw (H := H) (i := p) (j := j) (by omega) (by omega) k
  refine ⟨by omega, fun i h0 hi hne => ?_, fun i h0 hi he hp0 => ?_⟩
  · rw [T, T]
    by_cases e1 : i = j
    · subst e1
      rw [if_neg (by omega), if_pos hp, if_pos rfl]
      omega
    · rw [if_neg e1, if_neg hne]
      have h1 := h.a i h0 hi e1
      by_cases e2 : (i - 1) / 2 = j
      · rw [if_pos e2]
        have h2 := h.b i h0 hi e2 hj
        rw [hp] at h2
        exact h2
      · rw [if_neg e2]
        by_cases e3 : (i - 1) / 2 = p
        · rw [if_pos e3]
          rw [e3] at h1
          omega
        · rw [if_neg e3]
          exact h1
  · rw [T, T, if_neg (by omega), if_neg (by omega)]
    have h2 := h.a p hp0 (by omega) (by omega)
    by_cases e1 : i = j
    · rw [if_pos e1]; exact h2
    · rw [if_neg e1, if_neg (by omega)]
      have h3 := h.a i h0 hi e1
      rw [he] at h3
      omega

/-- A heap but for the way from i down. -/
structure DownInv (H : List Le) (n i : Nat) : Prop where
  a : ∀ k, 0 < k → k < n → (k - 1) / 2 ≠ i → tl H ((k - 1) / 2) ≤ tl H k
  b : ∀ k, 0 < k → k < n → (k - 1) / 2 = i → 0 < i → tl H ((i - 1) / 2) ≤ tl H k
theorem DownInv.done {H : List Le} {n i : Nat} (h : DownInv H n i) (hs : ∀ k, 0 < k → k < n → (k - 1) / 2 = i → tl H i ≤ tl H k) : IsHeap H n := by
  intro k h0 hk
  by_cases e : (k - 1) / 2 = i
  · rw [e]; exact hs k h0 hk e
  · exact h.a k h0 hk e
theorem DownInv.step {H : List Le} {n i j : Nat} (h : DownInv H n i) (hn : n ≤ H.length) (hj : j < n) (hj0 : 0 < j) (hp : (j - 1) / 2 = i) (hl : tl H j < tl H i) (hm : ∀ k, 0 < k → k < n → (k - 1) / 2 = i → tl H j ≤ tl H k) : DownInv (sw H i j) n j := by
  have hij : i < j := by omega
  have T := fun k => tl_sw (H := H) (i := i) (j := j) (by omega) (by omega) k
  refine ⟨fun k h0 hk hne => ?_, fun k h0 hk he _ => ?_⟩
  · rw [T, T, if_neg hne]
    by_cases e1 : k = j
    · rw [if_pos e1, if_pos (by rw [e1]; exact hp)]
      omega
    · rw [if_neg e1]
      by_cases e2 : (k - 1) / 2 = i
      · rw [if_pos e2, if_neg (by omega)]
        exact hm k h0 hk e2
      · rw [if_neg e2]
        by_cases e3 : k = i
        · rw [if_pos e3]
          have h2 := h.b j hj0 hj hp (by omega)
          rw [e3]
          exact h2
        · rw [if_neg e3]
          exact h.a k h0 hk e2
  · rw [T, T, hp, if_neg (by omega), if_pos rfl, if_neg (by omega), if_neg (by omega)]
    have h2 := h.a k h0 hk (by omega)
    rw [he] at h2
    exact h2
/-- The last one put on top: only the way from the top down is open. -/
theorem IsHeap.down {H : List Le} {m : Nat} (h : IsHeap H (m + 1)) (hn : m + 1 ≤ H.length) : DownInv (sw H 0 m) m 0 := by
  have T := fun k => tl_sw (H := H) (i := 0) (j := m) (by omega) (by omega) k
  refine ⟨fun k h0 hk hne => ?_, fun k _ _ _ h0 => by omega⟩
  rw [T, T, if_neg (by omega), if_neg (by omega), if_neg (by omega), if_neg (by omega)]
  exact h k h0 (by omega)
theorem IsHeap.snoc {H : List Le} {x : Le} (h : IsHeap H H.length) : UpInv (H ++ [x]) (H.length + 1) H.length := by
  have T : ∀ k, k < H.length → tl (H ++ [x]) k = tl H k := fun k hk => by
    unfold tl
    rw [List.getD_eq_getElem?_getD, List.getD_eq_getElem?_getD, List.getElem?_append_left hk]
  refine ⟨by omega, fun i h0 hi hne => ?_, fun i h0 hi he _ => by omega⟩
  rw [T _ (by omega), T _ (by omega)]
  exact h i h0 (by omega)
end Go.Proofs.Ytgpjjolgpppeeaa
