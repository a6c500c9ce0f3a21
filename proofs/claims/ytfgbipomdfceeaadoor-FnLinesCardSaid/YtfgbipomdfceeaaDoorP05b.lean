/-
  Chapter 4, plain mathematics: the places at which lines begin. Own work.
-/
import Derived.Test.YtfgbipomdfceeaaDoorP05
namespace Go.Proofs.YtfgbipomdfceeaaDoor.P

theorem take_end (t : List UInt8) (k : Nat) (h : k < t.length) : t.take (k + 1) = t.take k ++ [t[k]] := List.take_succ_eq_append_getElem h

/-- Where the line of offset k begins: at the start or behind a newline; no newline lies between. -/
theorem lineFrom_spec (t : List UInt8) : ∀ k, k ≤ t.length → lineFrom (t.take k) ≤ k ∧ (lineFrom (t.take k) = 0 ∨ ∃ j, ∃ h : j < t.length, lineFrom (t.take k) = j + 1 ∧ t[j] = 10) ∧ lines (t.take (lineFrom (t.take k))) = lines (t.take k) := by
  intro k
  induction k with
  | zero => intro _; rw [List.take_zero, lineFrom_nil]; exact ⟨Nat.le_refl _, .inl rfl, by rw [List.take_zero]⟩
  | succ k ih =>
    intro hk
    have hk' : k < t.length := by omega
    obtain ⟨h1, h2, h3⟩ := ih (by omega)
    have hlen : (t.take k).length = k := by rw [List.length_take]; omega
    rw [take_end t k hk', lineFrom_snoc, hlen]
    by_cases hb : t[k] = 10
    · rw [if_pos hb]
      refine ⟨Nat.le_refl _, .inr ⟨k, hk', rfl, hb⟩, ?_⟩
      rw [take_end t k hk']
    · rw [if_neg hb]
      refine ⟨by omega, h2, ?_⟩
      have hs := lines_snoc t k hk'
      rw [if_neg hb] at hs
      rw [← take_end t k hk']
      omega

theorem next_line (t : List UInt8) : ∀ m k, t.length - k ≤ m → k ≤ t.length → lines (t.take k) < lines t → ∃ j, ∃ h : j < t.length, k ≤ j ∧ t[j] = 10 ∧ lines (t.take j) = lines (t.take k) := by
  intro m
  induction m with
  | zero =>
    intro k h1 h2 h3
    rw [List.take_of_length_le (by omega)] at h3
    omega
  | succ m ih =>
    intro k h1 h2 h3
    by_cases hk : k < t.length
    · by_cases hb : t[k] = 10
      · exact ⟨k, hk, Nat.le_refl _, hb, rfl⟩
      · have hs := lines_snoc t k hk
        rw [if_neg hb] at hs
        obtain ⟨j, hj, g1, g2, g3⟩ := ih (k + 1) (by omega) (by omega) (by omega)
        exact ⟨j, hj, by omega, g2, by omega⟩
    · rw [List.take_of_length_le (by omega)] at h3
      omega

theorem bound_behind_nl {t : List UInt8} (ht : okS 0 t = true) {j : Nat} (hj : j < t.length) (hb : t[j] = 10) : isBound t ((j + 1 : Nat) : Int) = true := by
  have h0 : isBound t (j : Int) = true := by rw [isBound_lt t j hj, hb]; rfl
  have h1 := okS_of_bound ht (Nat.le_of_lt hj) h0
  have hne : t.drop j ≠ [] := by intro e; have := congrArg List.length e; rw [List.length_drop, List.length_nil] at this; omega
  rw [okS_step hne] at h1
  have hd : t.drop j = 10 :: t.drop (j + 1) := by rw [List.drop_eq_getElem_cons hj, hb]
  have hs : sz (t.drop j) = 1 := by rw [hd]; rfl
  rw [hs, List.drop_drop, Bool.and_eq_true] at h1
  have h2 := isBound_zero _ h1.2
  rw [isBound_drop t (j + 1) 0 (by omega) (by omega)] at h2
  exact h2

/-- A line's beginning, as a line and a column. -/
theorem ropeLine_start {ls : List (List UInt8)} (hok : chunksOk ls = true) {f : Nat} (h : f = 0 ∨ ∃ j, ∃ h : j < ls.flatten.length, f = j + 1 ∧ ls.flatten[j] = 10) :
    rCut ls (f : Int) = true ∧ ropeLine ls (f : Int) = ((lines (ls.flatten.take f) : Int), 0) := by
  have htx := chunksText_ok hok
  have htext := isText_ok (chunksOk_text hok)
  have hb : isBound ls.flatten (f : Int) = true := by
    rcases h with rfl | ⟨j, hj, rfl, hn⟩
    · exact isBound_zero _ htext
    · exact bound_behind_nl htext hj hn
  have hl : lineFrom (ls.flatten.take f) = f := by
    rcases h with rfl | ⟨j, hj, rfl, hn⟩
    · rw [List.take_zero, lineFrom_nil]
    · rw [take_end _ j hj, lineFrom_snoc, if_pos hn, List.length_take]; omega
  have hc : rCut ls (f : Int) = true := by unfold rCut; rw [htx, hok, hb]; rfl
  refine ⟨hc, ?_⟩
  unfold ropeLine
  rw [if_pos hc, htx, Int.toNat_natCast, hl, List.drop_of_length_le (by rw [List.length_take]; omega), runeCount_nil]

theorem runeCount_le (l : List UInt8) : runeCount l ≤ l.length := by
  unfold runeCount runesTo
  split
  · unfold runesBefore
    have := List.length_filter_le (fun i : Nat => isBound l i) (List.range (l.length : Int).toNat)
    rw [List.length_range] at this
    omega
  · omega

theorem ropeLine_col {ls : List (List UInt8)} {a line col : Int} (h : ropeLine ls a = (line, col)) : col ≤ 400 := by
  unfold ropeLine at h
  have hlen := isText_len (chunksText_isText ls)
  split at h
  · have h2 := congrArg Prod.snd h
    simp only at h2
    have h3 := runeCount_le (((chunksText ls).take a.toNat).drop (lineFrom ((chunksText ls).take a.toNat)))
    rw [List.length_drop, List.length_take] at h3
    omega
  · have h2 := congrArg Prod.snd h
    simp only at h2
    omega

/-- What FnLines says of a place that has a line and a column. -/
theorem lines_facts {ls : List (List UInt8)} {a line col : Int} (h : ropeLine ls a = (line, col)) (h0 : 0 ≤ line) :
    chunksOk ls = true ∧ line ≤ (lines ls.flatten : Int) ∧ ropeLine ls (ls.flatten.length : Int) = ((lines ls.flatten : Int), (ropeLine ls (ls.flatten.length : Int)).2) ∧
    (∀ r, IsPlace ls line col r → r = a) ∧ (∀ r, IsPlace ls line 0 r → 0 ≤ r ∧ r ≤ a) ∧ (line < (lines ls.flatten : Int) → ∀ r, IsPlace ls (line + 1) 0 r → a < r) := by
  have hcut : rCut ls a = true := by
    by_cases hc : rCut ls a = true
    · exact hc
    · unfold ropeLine at h; rw [if_neg hc] at h; have := congrArg Prod.fst h; simp at this; omega
  obtain ⟨hok, k, rfl, hk, hb⟩ := rCut_true hcut
  have htx := chunksText_ok hok
  rw [htx] at hk
  have hl : line = (lines (ls.flatten.take k) : Int) := by
    unfold ropeLine at h; rw [if_pos hcut, htx, Int.toNat_natCast] at h; exact (congrArg Prod.fst h).symm
  have hmono : lines (ls.flatten.take k) ≤ lines ls.flatten := by
    have := lines_app (ls.flatten.take k) (ls.flatten.drop k)
    rw [List.take_append_drop] at this
    omega
  have hend : rCut ls (ls.flatten.length : Int) = true := by unfold rCut; rw [htx, hok, isBound_end]; rfl
  have hendl : (ropeLine ls (ls.flatten.length : Int)).1 = (lines ls.flatten : Int) := by
    unfold ropeLine; rw [if_pos hend, htx, Int.toNat_natCast, List.take_length]
  obtain ⟨s1, s2, s3⟩ := lineFrom_spec ls.flatten k hk
  refine ⟨hok, by omega, by rw [← hendl], fun r hr => ?_, fun r hr => ?_, fun hlt r hr => ?_⟩
  · exact hr.unique (.inl ⟨k, rfl, hcut, h⟩)
  · have g := ropeLine_start hok s2
    rw [s3, ← hl] at g
    have := hr.unique (.inl ⟨_, rfl, g.1, g.2⟩)
    omega
  · obtain ⟨j, hj, g1, g2, g3⟩ := next_line ls.flatten _ k (Nat.le_refl _) hk (by omega)
    have g := ropeLine_start hok (f := j + 1) (.inr ⟨j, hj, rfl, g2⟩)
    rw [lines_snoc ls.flatten j hj, if_pos g2, g3] at g
    have e : ((lines (ls.flatten.take k) + 1 : Nat) : Int) = line + 1 := by omega
    rw [e] at g
    have := hr.unique (.inl ⟨_, rfl, g.1, g.2⟩)
    omega
end Go.Proofs.YtfgbipomdfceeaaDoor.P
