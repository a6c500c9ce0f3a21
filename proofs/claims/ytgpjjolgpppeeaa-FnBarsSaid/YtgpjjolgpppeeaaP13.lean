/-
  Chapter 7, plain: a lease put into a list that is in order; what is left of leases with one key. Own work.
-/
import Derived.Test.YtgpjjolgpppeeaaP11
namespace Go.Proofs.Ytgpjjolgpppeeaa
open Go.RowKit P
set_option linter.unusedVariables false

/-- In strict order of the keys. -/
def Srt (es : List Le) : Prop := es.Pairwise (fun a b => leLess a b = true)
theorem leLess_irr (a : Le) : leLess a a = false := by
  cases h : leLess a a
  · rfl
  · rw [leLess_iff] at h; omega
theorem leLess_asym {a b : Le} (h : leLess a b = true) : leLess b a = false := by
  cases h2 : leLess b a
  · rfl
  · rw [leLess_iff] at h h2; omega
theorem leSame_eq (a b : Le) : leSame a b = true ↔ (a.1 = b.1 ∧ a.2.1 = b.2.1 ∧ a.2.2.1 = b.2.2.1) := by unfold leSame; rw [decide_eq_true_eq]
theorem leSame_refl (a : Le) : leSame a a = true := (leSame_eq a a).2 ⟨rfl, rfl, rfl⟩
theorem leSame_symm {a b : Le} (h : leSame a b = true) : leSame b a = true := by rw [leSame_eq] at *; omega
theorem leSame_trans {a b c : Le} (h : leSame a b = true) (k : leSame b c = true) : leSame a c = true := by rw [leSame_eq] at *; omega
theorem le_tri (a b : Le) : leLess a b = true ∨ leSame a b = true ∨ leLess b a = true := by rw [leLess_iff, leLess_iff, leSame_eq]; omega
theorem leSame_less {a b : Le} (h : leSame a b = true) : leLess a b = false := by
  cases h2 : leLess a b
  · rfl
  · rw [leLess_iff] at h2; rw [leSame_eq] at h; omega
theorem leLess_same {a b : Le} (h : leLess a b = true) : leSame a b = false := by
  cases h2 : leSame a b
  · rfl
  · rw [leSame_less h2] at h; cases h
theorem leLess_sameL {a b c : Le} (h : leSame a b = true) : leLess a c = leLess b c := by
  rw [Bool.eq_iff_iff, leLess_iff, leLess_iff]; rw [leSame_eq] at h; omega
theorem leLess_sameR {a b c : Le} (h : leSame a b = true) : leLess c a = leLess c b := by
  rw [Bool.eq_iff_iff, leLess_iff, leLess_iff]; rw [leSame_eq] at h; omega
theorem le_eq {a b : Le} (h : leSame a b = true) (ht : a.2.2.2 = b.2.2.2) : a = b := by
  rw [leSame_eq] at h
  obtain ⟨x, y, s, t⟩ := a
  obtain ⟨x', y', s', t'⟩ := b
  simp only at h ht
  obtain ⟨rfl, rfl, rfl⟩ := h
  rw [ht]

theorem leOk_srt {es : List Le} (h : leOk es = true) : Srt es := List.pairwise_iff_getElem.2 fun i j hi hj hij => leLess_lt h hij hj
theorem leOk_of {es : List Le} (hl : es.length ≤ 12) (hr : ∀ l ∈ es, leRight l = true) (hs : Srt es) : leOk es = true := by
  refine leOk_yes hl (fun j hj => ?_)
  by_cases h0 : j = 0
  · subst h0; rw [leGood_0 hj]; exact hr _ (List.getElem_mem hj)
  · rw [leGood_at2 hj (by omega), hr _ (List.getElem_mem hj), Bool.true_and]
    exact List.pairwise_iff_getElem.1 hs (j - 1) j (by omega) hj (by omega)
theorem leOk_right {es : List Le} (h : leOk es = true) : ∀ l ∈ es, leRight l = true := by
  intro l hl
  obtain ⟨j, hj, rfl⟩ := List.getElem_of_mem hl
  exact leRight_of h hj

/-- Two lists in order with the same members are one. -/
theorem Srt.unique : ∀ {a b : List Le}, Srt a → Srt b → (∀ x, x ∈ a ↔ x ∈ b) → a = b
  | [], [], _, _, _ => rfl
  | [], y :: b, _, _, h => nomatch (h y).2 (by simp)
  | x :: a, [], _, _, h => nomatch (h x).1 (by simp)
  | x :: a, y :: b, ha, hb, h => by
    have ha' := List.pairwise_cons.1 ha
    have hb' := List.pairwise_cons.1 hb
    have e : x = y := by
      rcases List.mem_cons.1 ((h x).1 (by simp)) with e | e
      · exact e
      · rcases List.mem_cons.1 ((h y).2 (by simp)) with f | f
        · exact f.symm
        · have h1 := hb'.1 x e
          have h2 := ha'.1 y f
          rw [leLess_asym h1] at h2
          cases h2
    subst e
    rw [Srt.unique ha'.2 hb'.2 (fun z => ⟨fun hz => ?_, fun hz => ?_⟩)]
    · rcases List.mem_cons.1 ((h z).1 (List.mem_cons_of_mem _ hz)) with e | e
      · subst e
        have h1 := ha'.1 _ hz
        rw [leLess_irr] at h1
        cases h1
      · exact e
    · rcases List.mem_cons.1 ((h z).2 (List.mem_cons_of_mem _ hz)) with e | e
      · subst e
        have h1 := hb'.1 _ hz
        rw [leLess_irr] at h1
        cases h1
      · exact e
theorem Srt.same {es : List Le} (h : Srt es) {a b : Le} (ha : a ∈ es) (hb : b ∈ es) (hs : leSame a b = true) : a = b := by
  obtain ⟨i, hi, rfl⟩ := List.getElem_of_mem ha
  obtain ⟨j, hj, rfl⟩ := List.getElem_of_mem hb
  rcases Nat.lt_trichotomy i j with e | e | e
  · have h1 := List.pairwise_iff_getElem.1 h i j hi hj e
    rw [leSame_less hs] at h1
    cases h1
  · subst e; rfl
  · have h1 := List.pairwise_iff_getElem.1 h j i hj hi e
    rw [leSame_less (leSame_symm hs)] at h1
    cases h1

/-- The list with l in its place. -/
def putL (es : List Le) (l : Le) : List Le := es.filter (fun x => leLess x l) ++ l :: es.filter (fun x => leLess l x)
theorem putL_mem {es : List Le} {l x : Le} : x ∈ putL es l ↔ x = l ∨ (x ∈ es ∧ leSame x l = false) := by
  unfold putL
  rw [List.mem_append, List.mem_cons, List.mem_filter, List.mem_filter]
  constructor
  · rintro (⟨h1, h2⟩ | h | ⟨h1, h2⟩)
    · exact .inr ⟨h1, leLess_same h2⟩
    · exact .inl h
    · refine .inr ⟨h1, ?_⟩
      cases h3 : leSame x l
      · rfl
      · rw [leSame_less (leSame_symm h3)] at h2; cases h2
  · rintro (h | ⟨h1, h2⟩)
    · exact .inr (.inl h)
    · rcases le_tri x l with h3 | h3 | h3
      · exact .inl ⟨h1, h3⟩
      · rw [h3] at h2; cases h2
      · exact .inr (.inr ⟨h1, h3⟩)
theorem putL_srt {es : List Le} {l : Le} (h : Srt es) : Srt (putL es l) := by
  unfold Srt putL
  refine List.pairwise_append.2 ⟨h.filter _, List.pairwise_cons.2 ⟨fun x hx => (List.mem_filter.1 hx).2, h.filter _⟩, fun a ha b hb => ?_⟩
  have h1 := (List.mem_filter.1 ha).2
  rcases List.mem_cons.1 hb with e | e
  · subst e; exact h1
  · exact leLess_trans h1 (List.mem_filter.1 e).2
theorem putL_length (es : List Le) (l : Le) : (putL es l).length ≤ es.length + 1 := by
  unfold putL
  rw [List.length_append, List.length_cons]
  have h : ∀ es : List Le, (es.filter (fun x => leLess x l)).length + (es.filter (fun x => leLess l x)).length ≤ es.length := by
    intro es
    induction es with
    | nil => simp
    | cons a t ih =>
      rw [List.filter_cons, List.filter_cons]
      by_cases h1 : leLess a l = true
      · rw [if_pos h1, leLess_asym h1]
        simp
        omega
      · rw [if_neg h1]
        split
        · simp; omega
        · simp; omega
  have := h es
  omega
theorem putL_right {es : List Le} {l : Le} (h : ∀ x ∈ es, leRight x = true) (hl : leRight l = true) : ∀ x ∈ putL es l, leRight x = true := by
  intro x hx
  rcases putL_mem.1 hx with e | e
  · subst e; exact hl
  · exact h x e.1
theorem keyIx_no {es : List Le} {l : Le} (h : ¬ keyIx es l < es.length) : ∀ x ∈ es, leSame x l = false := by
  intro x hx
  cases hs : leSame x l
  · rfl
  · exact absurd (List.findIdx_lt_length_of_exists ⟨x, hx, hs⟩) h
theorem keyIx_yes {es : List Le} {l : Le} (h : keyIx es l < es.length) : leSame (es[keyIx es l]'h) l = true := List.findIdx_getElem (w := h)

theorem parts_less {es : List Le} {l : Le} {i : Nat} (H : Halved es l i i) : (es.take i).filter (fun x => leLess x l) = es.take i ∧ (es.take i).filter (fun x => leLess l x) = [] := by
  have hall : ∀ x ∈ es.take i, leLess x l = true := by
    intro x hx
    obtain ⟨j, hj, rfl⟩ := List.getElem_of_mem hx
    rw [List.length_take] at hj
    rw [List.getElem_take]
    exact decide_eq_true (H.lo j (by omega) (by omega))
  refine ⟨List.filter_eq_self.2 hall, List.filter_eq_nil_iff.2 fun x hx => ?_⟩
  rw [leLess_asym (hall x hx)]; simp
theorem parts_more {es : List Le} {l : Le} {k : Nat} (h : ∀ x ∈ es.drop k, leLess l x = true) : (es.drop k).filter (fun x => leLess x l) = [] ∧ (es.drop k).filter (fun x => leLess l x) = es.drop k := by
  refine ⟨List.filter_eq_nil_iff.2 fun x hx => ?_, List.filter_eq_self.2 h⟩
  rw [leLess_asym (h x hx)]; simp
theorem behind_more {es : List Le} {l : Le} {i : Nat} (hs : Srt es) (h : ∀ h : i < es.length, leLess es[i] l = false) {k : Nat} (hk : i < k) : ∀ x ∈ es.drop k, leLess l x = true := by
  intro x hx
  obtain ⟨j, hj, rfl⟩ := List.getElem_of_mem hx
  rw [List.length_drop] at hj
  rw [List.getElem_drop]
  have h1 := List.pairwise_iff_getElem.1 hs i (k + j) (by omega) (by omega) (by omega)
  have h2 := h (by omega)
  rcases le_tri l (es[k + j]'(by omega)) with h3 | h3 | h3
  · exact h3
  · rw [← leLess_sameR h3, h2] at h1; cases h1
  · rw [leLess_trans h1 h3] at h2; cases h2
theorem Halved.not_less {es : List Le} {l : Le} {i : Nat} (H : Halved es l i i) : ∀ h : i < es.length, leLess es[i] l = false := by
  intro h
  have h1 := H.up i h (Nat.le_refl _)
  exact decide_eq_false (by omega)
/-- Put where it belongs. -/
theorem putL_at {es : List Le} {l : Le} {i : Nat} (hok : leOk es = true) (H : Halved es l i i) (hno : ¬ keyIx es l < es.length) : putL es l = es.take i ++ l :: es.drop i := by
  have hb : ∀ x ∈ es.drop i, leLess l x = true := by
    intro x hx
    obtain ⟨j, hj, e⟩ := List.getElem_of_mem hx
    rw [List.length_drop] at hj
    rw [List.getElem_drop] at e
    have h2 := keyIx_no hno x (List.mem_of_mem_drop hx)
    by_cases h0 : j = 0
    · subst h0
      have h3 := H.not_less (by omega)
      simp only [Nat.add_zero] at e
      rw [e] at h3
      rcases le_tri l x with h4 | h4 | h4
      · exact h4
      · rw [leSame_symm h4] at h2; cases h2
      · rw [h4] at h3; cases h3
    · refine behind_more (leOk_srt hok) H.not_less (k := i + 1) (by omega) x ?_
      rw [List.mem_iff_getElem]
      exact ⟨j - 1, by rw [List.length_drop]; omega, by rw [List.getElem_drop, ← e]; congr 1; omega⟩
  have h1 := parts_less H
  have h2 := parts_more hb
  have e : putL es l = putL (es.take i ++ es.drop i) l := by rw [List.take_append_drop]
  rw [e]
  unfold putL
  rw [List.filter_append, List.filter_append, h1.1, h1.2, h2.1, h2.2, List.append_nil, List.nil_append]
/-- Put in the place of the one with its key. -/
theorem putL_set {es : List Le} {l : Le} {i : Nat} (hok : leOk es = true) (H : Halved es l i i) (hi : i < es.length) (hs : leSame es[i] l = true) : putL es l = es.set i l := by
  have hb := behind_more (leOk_srt hok) (fun _ => leSame_less hs) (k := i + 1) (by omega)
  have h1 := parts_less H
  have h2 := parts_more hb
  have e : putL es l = putL (es.take i ++ (es[i] :: es.drop (i + 1))) l := by rw [← List.drop_eq_getElem_cons hi, List.take_append_drop]
  rw [e, List.set_eq_take_append_cons_drop, if_pos hi]
  unfold putL
  have h3 := leSame_less hs
  have h4 := leSame_less (leSame_symm hs)
  rw [List.filter_append, List.filter_append, List.filter_cons, List.filter_cons, h1.1, h1.2, h2.1, h2.2, h3, h4]
  simp

/-- What is left of D: of each key the one that ends last. -/
structure Book (D E : List Le) : Prop where
  srt : Srt E
  sub : ∀ l ∈ E, l ∈ D
  all : ∀ l ∈ D, ∃ x ∈ E, leSame x l = true ∧ l.2.2.2 ≤ x.2.2.2
theorem Book.nil : Book [] [] := ⟨List.Pairwise.nil, fun _ h => h, fun _ h => nomatch h⟩
theorem Book.self {D : List Le} (h : Srt D) : Book D D := ⟨h, fun _ h => h, fun l hl => ⟨l, hl, leSame_refl l, Int.le_refl _⟩⟩
theorem Book.put {D E : List Le} {l : Le} (h : Book D E) (hl : ∀ d ∈ D, leSame d l = true → d.2.2.2 ≤ l.2.2.2) : Book (D ++ [l]) (putL E l) := by
  refine ⟨putL_srt h.srt, fun x hx => ?_, fun x hx => ?_⟩
  · rcases putL_mem.1 hx with e | e
    · subst e; simp
    · exact List.mem_append.2 (.inl (h.sub x e.1))
  · rcases List.mem_append.1 hx with e | e
    · obtain ⟨y, hy, h1, h2⟩ := h.all x e
      cases hs : leSame y l
      · exact ⟨y, putL_mem.2 (.inr ⟨hy, hs⟩), h1, h2⟩
      · refine ⟨l, putL_mem.2 (.inl rfl), leSame_trans (leSame_symm hs) h1, ?_⟩
        have := hl y (h.sub y hy) hs
        omega
    · rw [List.mem_singleton] at e
      subst e
      exact ⟨_, putL_mem.2 (.inl rfl), leSame_refl _, Int.le_refl _⟩
theorem Book.unique {D D' E E' : List Le} (h : Book D E) (h' : Book D' E') (hm : ∀ x, x ∈ D ↔ x ∈ D') : E = E' := by
  have key : ∀ {D D' E E' : List Le}, Book D E → Book D' E' → (∀ x, x ∈ D ↔ x ∈ D') → ∀ x, x ∈ E → x ∈ E' := by
    intro D D' E E' h h' hm x hx
    obtain ⟨y, hy, h1, h2⟩ := h'.all x ((hm x).1 (h.sub x hx))
    obtain ⟨z, hz, h3, h4⟩ := h.all y ((hm y).2 (h'.sub y hy))
    have e := h.srt.same hz hx (leSame_trans h3 h1)
    subst e
    have e2 := le_eq h1 (by omega)
    subst e2
    exact hy
  exact h.srt.unique h'.srt (fun x => ⟨key h h' hm x, key h' h (fun x => (hm x).symm) x⟩)
theorem Book.length {D E : List Le} (h : Book D E) : E.length ≤ D.length := by
  have hn : E.Nodup := h.srt.imp (fun {a b} hab e => by subst e; rw [leLess_irr] at hab; cases hab)
  exact hn.length_le_of_subset h.sub
theorem Book.ok {D E : List Le} (h : Book D E) (hl : D.length ≤ 12) (hr : ∀ l ∈ D, leRight l = true) : leOk E = true :=
  leOk_of (by have := h.length; omega) (fun l hm => hr l (h.sub l hm)) h.srt
end Go.Proofs.Ytgpjjolgpppeeaa
