/-
  Chapter 4, plain mathematics of RopeEdit: which chunks stay ahead, which behind, what is left of those between. Own work.
-/
import Derived.Test.YthnahenpnafkmaaDoorI06
namespace Go.Proofs.YthnahenpnafkmaaDoor
open Go.RowKit P
set_option linter.unusedVariables false

abbrev Ix (ls : List (List UInt8)) := { k : Nat // k < ls.length }
/-- Does chunk x end at or before a? -/
def isF (ls : List (List UInt8)) (a : Int) (x : Ix ls) : Bool := decide ((tot (ls.take (x.1 + 1)) : Int) ≤ a)
/-- Does it not, and begins at or behind b? -/
def isB (ls : List (List UInt8)) (a b : Int) (x : Ix ls) : Bool := !isF ls a x && decide (b ≤ (tot (ls.take x.1) : Int))
def isM (ls : List (List UInt8)) (a b : Int) (x : Ix ls) : Bool := !isF ls a x && !isB ls a b x
def frP (ls : List (List UInt8)) (a : Int) (pre : List (Ix ls)) : List (Ix ls) := pre.filter (isF ls a)
def bkP (ls : List (List UInt8)) (a b : Int) (pre : List (Ix ls)) : List (Ix ls) := pre.filter (isB ls a b)
def mdP (ls : List (List UInt8)) (a b : Int) (pre : List (Ix ls)) : List (Ix ls) := pre.filter (isM ls a b)
theorem frP_snoc (ls : List (List UInt8)) (a : Int) (pre : List (Ix ls)) (x : Ix ls) : frP ls a (pre ++ [x]) = if isF ls a x then frP ls a pre ++ [x] else frP ls a pre := by
  unfold frP; rw [List.filter_append]; cases h : isF ls a x <;> simp [h]
theorem bkP_snoc (ls : List (List UInt8)) (a b : Int) (pre : List (Ix ls)) (x : Ix ls) : bkP ls a b (pre ++ [x]) = if isB ls a b x then bkP ls a b pre ++ [x] else bkP ls a b pre := by
  unfold bkP; rw [List.filter_append]; cases h : isB ls a b x <;> simp [h]
theorem mdP_snoc (ls : List (List UInt8)) (a b : Int) (pre : List (Ix ls)) (x : Ix ls) : mdP ls a b (pre ++ [x]) = if isM ls a b x then mdP ls a b pre ++ [x] else mdP ls a b pre := by
  unfold mdP; rw [List.filter_append]; cases h : isM ls a b x <;> simp [h]

theorem isF_iff (ls : List (List UInt8)) (a : Int) (x : Ix ls) : isF ls a x = decide ((tot (ls.take x.1) : Int) + ((ls[x.1]'x.2).length : Int) ≤ a) := by
  unfold isF
  rw [tot_take ls x.1 x.2, Int.natCast_add]

/-- The text of the middle: what is left ahead of a. -/
def hdV (ls : List (List UInt8)) (a b : Int) (pre : List (Ix ls)) : List UInt8 := gath ls 0 a (mdP ls a b pre)
/-- .. and behind b. -/
def tlV (ls : List (List UInt8)) (a b N : Int) (pre : List (Ix ls)) : List UInt8 := gath ls b N (mdP ls a b pre)
def ofP (ls : List (List UInt8)) (pre : List (Ix ls)) : List (List UInt8) := pre.map fun x => ls[x.1]'x.2
theorem ofP_snoc (ls : List (List UInt8)) (pre : List (Ix ls)) (x : Ix ls) : ofP ls (pre ++ [x]) = ofP ls pre ++ [ls[x.1]'x.2] := by simp [ofP]

theorem gath_nil (ls : List (List UInt8)) (i j : Int) : gath ls i j [] = [] := rfl

theorem cutV_past (l : List UInt8) (a b : Int) (h : (l.length : Int) ≤ a) : cutV l a b = [] := by
  unfold cutV
  have e1 : insideV l.length a = l.length := by unfold insideV; omega
  rw [e1, List.drop_of_length_le (Nat.le_refl _), List.take_nil]

theorem ks_lt {n k : Nat} {x : { j : Nat // j < n }} (h : x ∈ ks n k) : x.1 < k := by
  unfold ks at h
  rw [List.mem_filterMap] at h
  obtain ⟨j, hj, he⟩ := h
  split at he
  · rw [List.mem_range] at hj; cases he; exact hj
  · cases he

theorem tot_mono {ls : List (List UInt8)} {i k : Nat} (h : i ≤ k) : tot (ls.take i) ≤ tot (ls.take k) := by
  have h2 : ls.take i = (ls.take k).take i := by rw [List.take_take, Nat.min_eq_left h]
  rw [h2]
  exact tot_take_le _ _

/-- Every chunk before the one that holds a ends at or before a: none of them is in the middle. -/
theorem mdP_none {ls : List (List UInt8)} {a b : Int} {k : Nat} (hk : k ≤ ls.length) (h : (tot (ls.take k) : Int) ≤ a) : mdP ls a b (ks ls.length k) = [] := by
  unfold mdP
  rw [List.filter_eq_nil_iff]
  intro x hx
  have hxk := ks_lt hx
  have h1 := tot_mono (ls := ls) (show x.1 + 1 ≤ k by omega)
  have h3 : isF ls a x = true := by unfold isF; exact decide_eq_true (by omega)
  unfold isM
  rw [h3]
  simp

theorem tl_none {ls : List (List UInt8)} {a b N : Int} {k : Nat} (h : (tot (ls.take k) : Int) ≤ b) : tlV ls a b N (ks ls.length k) = [] := by
  unfold tlV gath
  rw [List.flatten_eq_nil_iff]
  intro l hl
  rw [List.mem_map] at hl
  obtain ⟨x, hx, rfl⟩ := hl
  have hxk := ks_lt (List.mem_filter.1 hx).1
  have h1 := tot_mono (ls := ls) (show x.1 + 1 ≤ k by omega)
  have h2 := tot_take ls x.1 x.2
  exact cutV_past _ _ _ (by omega)

theorem cutV_head (l : List UInt8) (s a : Int) (h0 : 0 ≤ s) (h1 : s ≤ a) (h2 : a ≤ s + l.length) : cutV l (0 - s) (a - s) = l.take (a - s).toNat := by
  unfold cutV
  have e1 : insideV l.length (0 - s) = 0 := by unfold insideV; omega
  have e2 : insideV l.length (a - s) = (a - s).toNat := by unfold insideV; omega
  rw [e1, e2, List.drop_zero, Nat.sub_zero]
theorem cutV_head0 (l : List UInt8) (s a : Int) (h1 : a ≤ s) : cutV l (0 - s) (a - s) = [] := by
  unfold cutV
  have e2 : insideV l.length (a - s) = 0 := by unfold insideV; omega
  rw [e2, Nat.zero_sub, List.take_zero]
theorem cutV_tail (l : List UInt8) (s b N : Int) (h1 : s ≤ b) (h2 : b ≤ s + l.length) (h3 : s + l.length ≤ N) : cutV l (b - s) (N - s) = l.drop (b - s).toNat := by
  unfold cutV
  have e1 : insideV l.length (b - s) = (b - s).toNat := by unfold insideV; omega
  have e2 : insideV l.length (N - s) = l.length := by unfold insideV; omega
  rw [e1, e2, List.take_of_length_le (by rw [List.length_drop]; omega)]

/-- One chunk more: what becomes of the four. -/
theorem edit_step {ls : List (List UInt8)} {a b N : Int} (hab : a ≤ b) (ha : 0 ≤ a) {k : Nat} (hk : k < ls.length) (hN : (tot (ls.take (k + 1)) : Int) ≤ N) (hne : 0 < (ls[k]).length) :
    let s : Int := (tot (ls.take k) : Int)
    let d := ls[k]
    frP ls a (ks ls.length (k + 1)) = (if s + d.length ≤ a then frP ls a (ks ls.length k) ++ [⟨k, hk⟩] else frP ls a (ks ls.length k)) ∧
    bkP ls a b (ks ls.length (k + 1)) = (if b ≤ s then bkP ls a b (ks ls.length k) ++ [⟨k, hk⟩] else bkP ls a b (ks ls.length k)) ∧
    hdV ls a b (ks ls.length (k + 1)) = (if ¬ s + d.length ≤ a ∧ s < a then d.take (a - s).toNat else hdV ls a b (ks ls.length k)) ∧
    tlV ls a b N (ks ls.length (k + 1)) = (if ¬ b ≤ s ∧ b < s + d.length then d.drop (b - s).toNat else tlV ls a b N (ks ls.length k)) := by
  intro s d
  have hd : 0 < d.length := hne
  have ht := tot_take ls k hk
  have hN' : s + d.length ≤ N := by show (tot (ls.take k) : Int) + ((ls[k]).length : Int) ≤ N; omega
  have hs0 : 0 ≤ s := by show (0 : Int) ≤ (tot (ls.take k) : Int); omega
  have hF : isF ls a ⟨k, hk⟩ = decide (s + d.length ≤ a) := isF_iff ls a ⟨k, hk⟩
  have hB : isB ls a b ⟨k, hk⟩ = decide (b ≤ s) := by
    unfold isB
    rw [hF]
    by_cases h1 : s + d.length ≤ a
    · rw [decide_eq_true h1, decide_eq_false (show ¬ b ≤ s by omega)]; rfl
    · rw [decide_eq_false h1]; simp; rfl
  have hM : isM ls a b ⟨k, hk⟩ = decide (¬ s + d.length ≤ a ∧ ¬ b ≤ s) := by
    unfold isM
    rw [hF, hB]
    by_cases h1 : s + d.length ≤ a <;> by_cases h2 : b ≤ s <;> simp [h1, h2]
  have hnone : s ≤ a → mdP ls a b (ks ls.length k) = [] := fun h => mdP_none (Nat.le_of_lt hk) h
  rw [ks_succ hk]
  refine ⟨?_, ?_, ?_, ?_⟩
  · rw [frP_snoc, hF]; simp
  · rw [bkP_snoc, hB]; simp
  · unfold hdV
    rw [mdP_snoc, hM]
    by_cases hm : ¬ s + d.length ≤ a ∧ ¬ b ≤ s
    · rw [if_pos (decide_eq_true hm), gath_snoc]
      show gath ls 0 a (mdP ls a b (ks ls.length k)) ++ cutV d (0 - s) (a - s) = _
      by_cases h2 : s < a
      · rw [if_pos ⟨hm.1, h2⟩, hnone (by omega), gath_nil, List.nil_append, cutV_head d s a hs0 (by omega) (by omega)]
      · rw [if_neg (fun h => h2 h.2), cutV_head0 d s a (by omega), List.append_nil]
    · rw [if_neg (by simpa using hm), if_neg (fun h => hm ⟨h.1, by omega⟩)]
  · unfold tlV
    rw [mdP_snoc, hM]
    by_cases hm : ¬ s + d.length ≤ a ∧ ¬ b ≤ s
    · rw [if_pos (decide_eq_true hm), gath_snoc]
      show gath ls b N (mdP ls a b (ks ls.length k)) ++ cutV d (b - s) (N - s) = _
      by_cases h2 : b < s + d.length
      · rw [if_pos ⟨hm.2, h2⟩, cutV_tail d s b N (by omega) (by omega) hN']
        have h3 : gath ls b N (mdP ls a b (ks ls.length k)) = [] := tl_none (by show (tot (ls.take k) : Int) ≤ b; omega)
        rw [h3, List.nil_append]
      · rw [if_neg (fun h => h2 h.2), cutV_past d _ _ (by omega), List.append_nil]
    · rw [if_neg (by simpa using hm), if_neg (fun h => hm ⟨by omega, h.1⟩)]

theorem edit_F {ls : List (List UInt8)} {a b N : Int} {pre : List (Ix ls)} {x : Ix ls} (h : isF ls a x = true) :
    frP ls a (pre ++ [x]) = frP ls a pre ++ [x] ∧ bkP ls a b (pre ++ [x]) = bkP ls a b pre ∧ hdV ls a b (pre ++ [x]) = hdV ls a b pre ∧ tlV ls a b N (pre ++ [x]) = tlV ls a b N pre := by
  have hB : isB ls a b x = false := by unfold isB; rw [h]; rfl
  have hM : isM ls a b x = false := by unfold isM; rw [h]; rfl
  refine ⟨by rw [frP_snoc, if_pos h], by rw [bkP_snoc, hB]; rfl, ?_, ?_⟩
  · unfold hdV; rw [mdP_snoc, hM]; rfl
  · unfold tlV; rw [mdP_snoc, hM]; rfl
theorem edit_B {ls : List (List UInt8)} {a b N : Int} {pre : List (Ix ls)} {x : Ix ls} (hF : isF ls a x = false) (h : isB ls a b x = true) :
    frP ls a (pre ++ [x]) = frP ls a pre ∧ bkP ls a b (pre ++ [x]) = bkP ls a b pre ++ [x] ∧ hdV ls a b (pre ++ [x]) = hdV ls a b pre ∧ tlV ls a b N (pre ++ [x]) = tlV ls a b N pre := by
  have hM : isM ls a b x = false := by unfold isM; rw [hF, h]; rfl
  refine ⟨by rw [frP_snoc, hF]; rfl, by rw [bkP_snoc, if_pos h], ?_, ?_⟩
  · unfold hdV; rw [mdP_snoc, hM]; rfl
  · unfold tlV; rw [mdP_snoc, hM]; rfl
theorem edit_M {ls : List (List UInt8)} {a b N : Int} {pre : List (Ix ls)} {x : Ix ls} (hF : isF ls a x = false) (hB : isB ls a b x = false) :
    frP ls a (pre ++ [x]) = frP ls a pre ∧ bkP ls a b (pre ++ [x]) = bkP ls a b pre ∧ hdV ls a b (pre ++ [x]) = hdV ls a b pre ++ cutV (ls[x.1]'x.2) (0 - (tot (ls.take x.1) : Nat)) (a - (tot (ls.take x.1) : Nat)) ∧
    tlV ls a b N (pre ++ [x]) = tlV ls a b N pre ++ cutV (ls[x.1]'x.2) (b - (tot (ls.take x.1) : Nat)) (N - (tot (ls.take x.1) : Nat)) := by
  have hM : isM ls a b x = true := by unfold isM; rw [hF, hB]; rfl
  refine ⟨by rw [frP_snoc, hF]; rfl, by rw [bkP_snoc, hB]; rfl, ?_, ?_⟩
  · unfold hdV; rw [mdP_snoc, if_pos hM, gath_snoc]
  · unfold tlV; rw [mdP_snoc, if_pos hM, gath_snoc]

theorem edit_lens (ls : List (List UInt8)) (a b N : Int) (M : Nat) (hM : ∀ k (h : k < ls.length), (ls[k]).length ≤ M) (pre : List (Ix ls)) :
    (frP ls a pre).length ≤ pre.length ∧ (bkP ls a b pre).length ≤ pre.length ∧ (hdV ls a b pre).length ≤ pre.length * M ∧ (tlV ls a b N pre).length ≤ pre.length * M := by
  have h1 : (mdP ls a b pre).length ≤ pre.length := List.length_filter_le _ _
  have h2 := gath_len ls 0 a M hM (mdP ls a b pre)
  have h3 := gath_len ls b N M hM (mdP ls a b pre)
  have h4 : (mdP ls a b pre).length * M ≤ pre.length * M := Nat.mul_le_mul_right _ h1
  exact ⟨List.length_filter_le _ _, List.length_filter_le _ _, Nat.le_trans h2 h4, Nat.le_trans h3 h4⟩

def frV (ls : List (List UInt8)) (xs : List Value) (a : Int) (pre : List (Ix ls)) : List Value := (frP ls a pre).map fun x => xs.getD x.1 undef
def bkV (ls : List (List UInt8)) (xs : List Value) (a b : Int) (pre : List (Ix ls)) : List Value := (bkP ls a b pre).map fun x => xs.getD x.1 undef
theorem frV_len (ls : List (List UInt8)) (xs : List Value) (a : Int) (pre : List (Ix ls)) : (frV ls xs a pre).length ≤ pre.length := by unfold frV frP; rw [List.length_map]; exact List.length_filter_le _ _
theorem bkV_len (ls : List (List UInt8)) (xs : List Value) (a b : Int) (pre : List (Ix ls)) : (bkV ls xs a b pre).length ≤ pre.length := by unfold bkV bkP; rw [List.length_map]; exact List.length_filter_le _ _
theorem editV_F {ls : List (List UInt8)} (xs : List Value) {a b N : Int} {pre : List (Ix ls)} {x : Ix ls} (h : isF ls a x = true) :
    frV ls xs a (pre ++ [x]) = frV ls xs a pre ++ [xs.getD x.1 undef] ∧ bkV ls xs a b (pre ++ [x]) = bkV ls xs a b pre ∧ hdV ls a b (pre ++ [x]) = hdV ls a b pre ∧ tlV ls a b N (pre ++ [x]) = tlV ls a b N pre := by
  have e := edit_F (b := b) (N := N) (pre := pre) h
  unfold frV bkV
  rw [e.1, e.2.1, List.map_append]
  exact ⟨rfl, rfl, e.2.2⟩
theorem editV_B {ls : List (List UInt8)} (xs : List Value) {a b N : Int} {pre : List (Ix ls)} {x : Ix ls} (hF : isF ls a x = false) (h : isB ls a b x = true) :
    frV ls xs a (pre ++ [x]) = frV ls xs a pre ∧ bkV ls xs a b (pre ++ [x]) = bkV ls xs a b pre ++ [xs.getD x.1 undef] ∧ hdV ls a b (pre ++ [x]) = hdV ls a b pre ∧ tlV ls a b N (pre ++ [x]) = tlV ls a b N pre := by
  have e := edit_B (N := N) (pre := pre) hF h
  unfold frV bkV
  rw [e.1, e.2.1, List.map_append]
  exact ⟨rfl, rfl, e.2.2⟩
theorem editV_M {ls : List (List UInt8)} (xs : List Value) {a b N : Int} {pre : List (Ix ls)} {x : Ix ls} (hF : isF ls a x = false) (hB : isB ls a b x = false) :
    frV ls xs a (pre ++ [x]) = frV ls xs a pre ∧ bkV ls xs a b (pre ++ [x]) = bkV ls xs a b pre ∧ hdV ls a b (pre ++ [x]) = hdV ls a b pre ++ cutV (ls[x.1]'x.2) (0 - (tot (ls.take x.1) : Nat)) (a - (tot (ls.take x.1) : Nat)) ∧
    tlV ls a b N (pre ++ [x]) = tlV ls a b N pre ++ cutV (ls[x.1]'x.2) (b - (tot (ls.take x.1) : Nat)) (N - (tot (ls.take x.1) : Nat)) := by
  have e := edit_M (N := N) (pre := pre) hF hB
  unfold frV bkV
  rw [e.1, e.2.1]
  exact ⟨rfl, rfl, e.2.2⟩

/-- What an edit makes of the chunks. -/
def editR (ls : List (List UInt8)) (a b N : Int) (p : List UInt8) : List (List UInt8) :=
  ofP ls (frP ls a (ks ls.length ls.length)) ++ (chunksOf (hdV ls a b (ks ls.length ls.length) ++ (p ++ tlV ls a b N (ks ls.length ls.length))) ++ ofP ls (bkP ls a b (ks ls.length ls.length)))

theorem ofP_ne {ls : List (List UInt8)} (h : ∀ k (h : k < ls.length), 0 < (ls[k]).length ∧ (ls[k]).length ≤ 400) (pre : List (Ix ls)) : ∀ x ∈ ofP ls pre, 0 < x.length ∧ x.length ≤ 1000000 := by
  intro x hx
  obtain ⟨y, _, rfl⟩ := List.mem_map.1 hx
  have := h y.1 y.2
  omega

theorem rd_of {w : World} {xs : List Value} {ls : List (List UInt8)} (h : RdAll w xs ls) (pre : List (Ix ls)) : RdAll w (pre.map fun x => xs.getD x.1 undef) (ofP ls pre) := by
  refine ⟨by simp [ofP], fun k h1 h2 => ?_⟩
  have hk : k < pre.length := by simpa using h1
  have hx : (pre[k]).1 < xs.length := by rw [h.1]; exact (pre[k]).2
  have e1 : (pre.map fun x => xs.getD x.1 undef)[k] = xs[(pre[k]).1] := by rw [List.getElem_map, List.getD_eq_getElem?_getD, List.getElem?_eq_getElem hx]; rfl
  have e2 : (ofP ls pre)[k] = ls[(pre[k]).1]'(pre[k]).2 := by simp [ofP]
  rw [e1, e2]
  exact h.2 _ hx (pre[k]).2
theorem rdF_of {w : World} {xs : List Value} {ls : List (List UInt8)} {a : Int} (h : RdAll w xs ls) (pre : List (Ix ls)) : RdAll w (frV ls xs a pre) (ofP ls (frP ls a pre)) := rd_of h _
theorem rdK_of {w : World} {xs : List Value} {ls : List (List UInt8)} {a b : Int} (h : RdAll w xs ls) (pre : List (Ix ls)) : RdAll w (bkV ls xs a b pre) (ofP ls (bkP ls a b pre)) := rd_of h _
end Go.Proofs.YthnahenpnafkmaaDoor
