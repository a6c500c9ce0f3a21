/-
  Chapter 4, plain mathematics of RopeEdit: the text of what an edit makes. Own work.
-/
import Derived.Test.YtnpbdkfkdbfdhaaDoorI07c
import Derived.Test.YtnpbdkfkdbfdhaaDoorP04b
namespace Go.Proofs.YtnpbdkfkdbfdhaaDoor
open Go.RowKit P
set_option linter.unusedVariables false

theorem bk_none {ls : List (List UInt8)} {a b : Int} {k : Nat} (h : (tot (ls.take k) : Int) < b) : bkP ls a b (ks ls.length k) = [] := by
  unfold bkP
  rw [List.filter_eq_nil_iff]
  intro x hx
  have h1 := tot_mono (ls := ls) (Nat.le_of_lt (ks_lt hx))
  have h2 : ¬ b ≤ (tot (ls.take x.1) : Int) := by omega
  unfold isB
  rw [decide_eq_false h2]
  simp
theorem hd_none {ls : List (List UInt8)} {a b : Int} {k : Nat} (hk : k ≤ ls.length) (h : (tot (ls.take k) : Int) ≤ a) : hdV ls a b (ks ls.length k) = [] := by
  unfold hdV; rw [mdP_none hk h]; rfl

theorem edit_text {ls : List (List UInt8)} {a b N : Int} (hab : a ≤ b) (ha : 0 ≤ a) (hN : (tot ls : Int) ≤ N) (hne : ∀ k (h : k < ls.length), 0 < (ls[k]).length) : ∀ k, k ≤ ls.length →
    (ofP ls (frP ls a (ks ls.length k))).flatten ++ hdV ls a b (ks ls.length k) = (ls.take k).flatten.take a.toNat ∧
    tlV ls a b N (ks ls.length k) ++ (ofP ls (bkP ls a b (ks ls.length k))).flatten = (ls.take k).flatten.drop b.toNat := by
  intro k
  induction k with
  | zero =>
    intro _
    have hk : ks ls.length 0 = [] := by simp [ks]
    rw [hk]
    simp [frP, bkP, hdV, tlV, mdP, ofP, gath]
  | succ k ih =>
    intro hk1
    have hk : k < ls.length := by omega
    obtain ⟨i1, i2⟩ := ih (by omega)
    have htk := tot_take ls k hk
    have htl := tot_take_le ls (k + 1)
    obtain ⟨e1, e2, e3, e4⟩ := edit_step (b := b) (N := N) hab ha hk (by omega) (hne k hk)
    have hfl := flat_snoc ls k hk
    have hlen : ((ls.take k).flatten.length : Int) = (tot (ls.take k) : Int) := rfl
    have hd0 := hne k hk
    rw [e1, e2, e3, e4, hfl]
    generalize hs : (tot (ls.take k) : Int) = s at *
    generalize hT : (ls.take k).flatten = T at *
    constructor
    · by_cases h1 : s + ((ls[k]).length : Int) ≤ a
      · rw [if_pos h1, if_neg (fun h => h.1 h1), ofP_snoc, List.flatten_append]
        have h2 := hd_none (b := b) (Nat.le_of_lt hk) (show (tot (ls.take k) : Int) ≤ a by omega)
        rw [h2, List.append_nil] at i1
        rw [h2, i1, List.take_of_length_le (by omega), List.take_of_length_le (by rw [List.length_append]; omega)]
        simp
      · rw [if_neg h1]
        by_cases h2 : s < a
        · rw [if_pos ⟨h1, h2⟩]
          have h3 := hd_none (b := b) (Nat.le_of_lt hk) (show (tot (ls.take k) : Int) ≤ a by omega)
          rw [h3, List.append_nil] at i1
          have h4 : T.take a.toNat = T := List.take_of_length_le (by omega)
          rw [i1, h4, List.take_append, h4, show a.toNat - T.length = (a - s).toNat by omega]
        · rw [if_neg (fun h => h2 h.2), i1, List.take_append_of_le_length (by omega)]
    · by_cases h1 : b ≤ s
      · rw [if_pos h1, if_neg (fun h => h.1 h1), ofP_snoc, List.flatten_append, ← List.append_assoc, i2, List.drop_append_of_le_length (by omega)]
        simp
      · rw [if_neg h1]
        have h3 := bk_none (a := a) (show (tot (ls.take k) : Int) < b by omega)
        rw [h3] at i2 ⊢
        by_cases h2 : b < s + ((ls[k]).length : Int)
        · have h4 : T.drop b.toNat = [] := List.drop_of_length_le (by omega)
          rw [if_pos ⟨h1, h2⟩, List.drop_append, h4, show b.toNat - T.length = (b - s).toNat by omega]
          simp [ofP]
        · rw [if_neg (fun h => h2 h.2), i2, List.drop_of_length_le (by omega), List.drop_of_length_le (by rw [List.length_append]; omega)]

theorem editOk_text {ls : List (List UInt8)} {a m : Int} {p : List UInt8} (h : editOk ls a m p = true) :
    chunksOk ls = true ∧ 0 ≤ a ∧ 0 ≤ m ∧ a + m ≤ (ls.flatten.length : Int) ∧ (editV ls a m p).flatten = ls.flatten.take a.toNat ++ (p ++ ls.flatten.drop (a + m).toNat) ∧ chunksOk (editV ls a m p) = true := by
  obtain ⟨h1, h2, h3, h4, h5⟩ := (editOk_iff ls a m p).1 h
  have ra := rCut_range h3
  have rb := rCut_range h4
  have hck := ra.1
  have hne : ∀ k (h : k < ls.length), 0 < (ls[k]).length := fun k h => by have := (chunksOk_all hck).1 _ (List.getElem_mem h); exact ((chunkOk_iff _).1 this).1
  have htx := chunksText_ok hck
  have htext := isText_ok (chunksOk_text hck)
  obtain ⟨t1, t2⟩ := edit_text (b := a + m) (N := (tot ls : Int)) (by omega) ra.2.1 (Int.le_refl _) hne ls.length (Nat.le_refl _)
  rw [List.take_length] at t1 t2
  have hv : editV ls a m p = editR ls a (a + m) (tot ls) p := by unfold editV; rw [if_pos h]
  have hba : isBound ls.flatten ((a.toNat : Nat) : Int) = true := by
    rw [show ((a.toNat : Nat) : Int) = a by omega]
    unfold rCut at h3; rw [Bool.and_eq_true, htx] at h3; exact h3.2
  have hbb : isBound ls.flatten (((a + m).toNat : Nat) : Int) = true := by
    rw [show (((a + m).toNat : Nat) : Int) = a + m by omega]
    unfold rCut at h4; rw [Bool.and_eq_true, htx] at h4; exact h4.2
  have hta := okS_take _ ls.flatten a.toNat (Nat.le_refl _) (by omega) htext hba
  have htb := okS_of_bound htext (show (a + m).toNat ≤ ls.flatten.length by omega) hbb
  refine ⟨hck, ra.2.1, h1, rb.2.2, ?_⟩
  have hFo : ∀ pre : List (Ix ls), okS 0 (ofP ls pre).flatten = true := fun pre => flatten_text _ (fun c hc => by
    obtain ⟨y, _, rfl⟩ := List.mem_map.1 hc
    exact (chunksOk_all hck).1 _ (List.getElem_mem y.2))
  have hhd : okS 0 (hdV ls a (a + m) (ks ls.length ls.length)) = true := by
    rw [← t1] at hta
    exact okS_app_right _ _ _ (Nat.le_refl _) (hFo _) hta
  have htl : okS 0 (tlV ls a (a + m) (tot ls) (ks ls.length ls.length)) = true := by
    rw [← t2] at htb
    have hz := isBound_app_right (tlV ls a (a + m) (tot ls) (ks ls.length ls.length)) ((ofP ls (bkP ls a (a + m) (ks ls.length ls.length))).flatten) 0 (Nat.zero_le _)
    rw [isBound_zero _ (hFo _), Nat.add_zero] at hz
    have := okS_take _ _ (tlV ls a (a + m) (tot ls) (ks ls.length ls.length)).length (Nat.le_refl _) (by rw [List.length_append]; omega) htb hz
    rw [List.take_left] at this
    exact this
  have hl1 := congrArg List.length t1
  have hl2 := congrArg List.length t2
  rw [List.length_append, List.length_take] at hl1
  rw [List.length_append, List.length_drop] at hl2
  have htN : (tot ls : Int) = (ls.flatten.length : Int) := rfl
  have hmid : isText (hdV ls a (a + m) (ks ls.length ls.length) ++ (p ++ tlV ls a (a + m) (tot ls) (ks ls.length ls.length))) = true := by
    refine isText_of ?_ (okS_app _ _ _ (Nat.le_refl _) hhd (okS_app _ _ _ (Nat.le_refl _) (isText_ok h2) htl))
    rw [List.length_append, List.length_append]
    omega
  have hflat : (editV ls a m p).flatten = ls.flatten.take a.toNat ++ (p ++ ls.flatten.drop (a + m).toNat) := by
    rw [hv, ← t1, ← t2]
    unfold editR
    rw [List.flatten_append, List.flatten_append, chunksOf_flat hmid]
    simp [List.append_assoc]
  refine ⟨hflat, ?_⟩
  have hmk : (∀ c ∈ editV ls a m p, chunkOk c = true) → (editV ls a m p).flatten.length ≤ 400 → chunksOk (editV ls a m p) = true := fun g1 g2 => by
    unfold chunksOk
    rw [decide_eq_true g2, Bool.and_true]
    exact List.all_eq_true.2 g1
  refine hmk (fun c hc => ?_) ?_
  · rw [hv] at hc
    unfold editR at hc
    rcases List.mem_append.1 hc with h9 | h9
    · obtain ⟨y, _, rfl⟩ := List.mem_map.1 h9; exact (chunksOk_all hck).1 _ (List.getElem_mem y.2)
    · rcases List.mem_append.1 h9 with h9 | h9
      · exact chunksOf_all _ c h9
      · obtain ⟨y, _, rfl⟩ := List.mem_map.1 h9; exact (chunksOk_all hck).1 _ (List.getElem_mem y.2)
  · rw [hflat, List.length_append, List.length_append, List.length_take, List.length_drop]
    omega
end Go.Proofs.YtnpbdkfkdbfdhaaDoor
