/-
  Chapter 7, plain: leases moved by an edit. Own work.
-/
import Derived.Test.YtdmmdbapkogdhaaP14
import Derived.Test.YtdmmdbapkogdhaaP09
namespace Go.Proofs.Ytdmmdbapkogdhaa
open Go.RowKit P
set_option linter.unusedVariables false

/-- A lease moved. -/
def mv1 (a m : Int) (lp : List UInt8) (l : Le) : Le := (spanI l.1 l.2.1 a m lp, spanJ l.1 l.2.1 a m lp, l.2.2.1, l.2.2.2)
def fit1 (a m : Int) (lp : List UInt8) (l : Le) : Bool := decide (0 ≤ spanJ l.1 l.2.1 a m lp ∧ spanJ l.1 l.2.1 a m lp ≤ 400)
/-- The leases that are not empty once moved. -/
def mvS (a m : Int) (lp : List UInt8) (es : List Le) : List Le := (es.map (mv1 a m lp)).filter (fun l => decide (l.1 < l.2.1))
def bookOf (D : List Le) : List Le := D.foldl putM []
def movedL (es : List Le) (a m : Int) (lp : List UInt8) : List Le := if (leOk es && es.all (fit1 a m lp)) = true then bookOf (mvS a m lp es) else []
theorem bookOf_snoc (D : List Le) (l : Le) : bookOf (D ++ [l]) = putM (bookOf D) l := by unfold bookOf; rw [List.foldl_append]; rfl
theorem bookOf_book : ∀ D : List Le, Book D (bookOf D) := by
  have h : ∀ (D : List Le) (D0 E0 : List Le), Book D0 E0 → Book (D0 ++ D) (D.foldl putM E0) := by
    intro D
    induction D with
    | nil => intro D0 E0 h; simpa using h
    | cons x D ih =>
      intro D0 E0 h
      have h2 := ih (D0 ++ [x]) (putM E0 x) h.putM
      simpa using h2
  intro D
  have := h D [] [] Book.nil
  simpa [bookOf] using this
theorem mvS_next {a m : Int} {lp : List UInt8} {es : List Le} {k : Nat} (hk : k < es.length) : mvS a m lp (es.take (k + 1)) = mvS a m lp (es.take k) ++ (if spanI (es[k]).1 (es[k]).2.1 a m lp < spanJ (es[k]).1 (es[k]).2.1 a m lp then [mv1 a m lp es[k]] else []) := by
  unfold mvS
  rw [List.take_succ_eq_append_getElem hk, List.map_append, List.filter_append]
  congr 1
  simp only [List.map_cons, List.map_nil, List.filter_cons, List.filter_nil, mv1, decide_eq_true_eq]
theorem mvS_len (a m : Int) (lp : List UInt8) (es : List Le) : (mvS a m lp es).length ≤ es.length := by
  unfold mvS
  have := List.length_filter_le (fun l : Le => decide (l.1 < l.2.1)) (es.map (mv1 a m lp))
  rw [List.length_map] at this
  exact this
theorem fit_ok {a m : Int} {lp : List UInt8} {l : Le} (h : fit1 a m lp l = true) : spanOk l.1 l.2.1 a m lp = true := by
  have h1 := of_decide_eq_true h
  cases hs : spanOk l.1 l.2.1 a m lp
  · have e : spanJ l.1 l.2.1 a m lp = -1 := by unfold spanJ; rw [hs]; rfl
    omega
  · rfl
theorem spanOk_of {i j a m : Int} {lp : List UInt8} (hs : edSmall a m lp = true) (h0 : 0 ≤ i) (h1 : i ≤ j) (h2 : j ≤ 400) : spanOk i j a m lp = true := by
  unfold spanOk isPlace
  rw [hs]
  simp
  omega
theorem mv1_right {a m : Int} {lp : List UInt8} {l : Le} (hr : leRight l = true) (h : fit1 a m lp l = true) : leRight (mv1 a m lp l) = true := by
  have h1 := of_decide_eq_true h
  have h2 := fit_ok h
  have h3 := of_decide_eq_true hr
  have hsm : edSmall a m lp = true := by
    unfold spanOk at h2
    simp only [Bool.and_eq_true] at h2
    first | exact h2.1.1.1 | exact h2.1.1 | exact h2.1
  have h4 := (edSmall_iff _ _ _).1 hsm
  have b1 := spI_bd (i := l.1) (a := a) (m := m) (n := lp.length) (by omega) (by omega) (by omega) (by omega)
  have b2 := spJ_bd (i := l.1) (j := l.2.1) (a := a) (m := m) (n := lp.length) (by omega) (by omega) (by omega) (by omega) (by omega)
  have e1 : spanI l.1 l.2.1 a m lp = spI l.1 a m lp.length := by unfold spanI; rw [if_pos h2]
  have e2 : spanJ l.1 l.2.1 a m lp = spJ l.1 l.2.1 a m lp.length := by unfold spanJ; rw [if_pos h2]
  unfold leRight mv1
  rw [e2] at h1
  simp only [e1, e2]
  exact decide_eq_true (by omega)
/-- Where the edit is small a moved end is no less than zero. -/
theorem spanJ_ge {a m : Int} {lp : List UInt8} {l : Le} (hr : leRight l = true) (hs : edSmall a m lp = true) : 0 ≤ spanJ l.1 l.2.1 a m lp := by
  have h3 := of_decide_eq_true hr
  have h2 := spanOk_of hs (i := l.1) (j := l.2.1) (by omega) (by omega) (by omega)
  have h4 := (edSmall_iff _ _ _).1 hs
  have b1 := spI_bd (i := l.1) (a := a) (m := m) (n := lp.length) (by omega) (by omega) (by omega) (by omega)
  have b2 := spJ_bd (i := l.1) (j := l.2.1) (a := a) (m := m) (n := lp.length) (by omega) (by omega) (by omega) (by omega) (by omega)
  have e2 : spanJ l.1 l.2.1 a m lp = spJ l.1 l.2.1 a m lp.length := by unfold spanJ; rw [if_pos h2]
  omega
theorem mvS_right {a m : Int} {lp : List UInt8} {es : List Le} (hr : ∀ l ∈ es, leRight l = true) (h : es.all (fit1 a m lp) = true) : ∀ l ∈ mvS a m lp es, leRight l = true := by
  intro l hl
  obtain ⟨x, hx, rfl⟩ := List.mem_map.1 (List.mem_filter.1 hl).1
  exact mv1_right (hr x hx) (List.all_eq_true.1 h x hx)
theorem movedL_no {es : List Le} {a m : Int} {lp : List UInt8} (h : leOk es = false) : movedL es a m lp = [] := by unfold movedL; rw [h]; rfl
theorem movedL_not {es : List Le} {a m : Int} {lp : List UInt8} {k : Nat} (hk : k < es.length) (h : fit1 a m lp es[k] = false) : movedL es a m lp = [] := by
  unfold movedL
  rw [if_neg]
  rw [Bool.and_eq_true]
  rintro ⟨_, h2⟩
  rw [List.all_eq_true.1 h2 _ (List.getElem_mem hk)] at h
  cases h
theorem movedL_big {es : List Le} {a m : Int} {lp : List UInt8} (h : edSmall a m lp = false) : movedL es a m lp = [] := by
  cases es with
  | nil => unfold movedL; split <;> rfl
  | cons x t =>
    refine movedL_not (k := 0) (by simp) ?_
    cases hf : fit1 a m lp x
    · exact hf
    · have h2 := fit_ok hf
      unfold spanOk at h2
      rw [h] at h2
      simp at h2
theorem movedL_yes {es : List Le} {a m : Int} {lp : List UInt8} (h : leOk es = true) (h2 : es.all (fit1 a m lp) = true) : movedL es a m lp = bookOf (mvS a m lp es) := by unfold movedL; rw [h, h2]; rfl
theorem all_next {p : Le → Bool} {es : List Le} {k : Nat} (hk : k < es.length) (h : (es.take k).all p = true) (h2 : p es[k] = true) : (es.take (k + 1)).all p = true := by
  rw [List.take_succ_eq_append_getElem hk, List.all_append, h]
  simpa using h2
theorem movedL_len (es : List Le) (a m : Int) (lp : List UInt8) : (movedL es a m lp).length ≤ 1000000 := by
  unfold movedL
  split
  · rename_i h
    rw [Bool.and_eq_true] at h
    have h1 := leOk_len h.1
    have h2 := mvS_len a m lp es
    have h3 := (bookOf_book (mvS a m lp es)).length
    omega
  · simp
end Go.Proofs.Ytdmmdbapkogdhaa
