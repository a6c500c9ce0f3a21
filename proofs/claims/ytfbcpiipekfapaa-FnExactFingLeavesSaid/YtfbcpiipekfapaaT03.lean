/-
  Chapter 3: leaves and texts of trees in plain words. Own work.
-/
import Derived.Test.YtfbcpiipekfapaaP03
import Derived.Lib.Join
import Derived.Lib.SmallJoins
import Derived.Test.YtfbcpiipekfapaaBs0
namespace Go.Proofs.Ytfbcpiipekfapaa
open Go.RowKit P
set_option linter.unusedVariables false

/-- The number of leaves, -1 of an invalid tree. -/
noncomputable def leavesZ (ls : List Lv) : Int := if fingB ls = true then (leaves ls : Int) else -1

/-! ### text -/
def lvText (l : Lv) : Str := [91] ++ Lib.join l.1 [32] ++ [124] ++ Lib.join l.2 [32] ++ [93]
def levText : List Lv → Str
  | [] => []
  | l :: t => lvText l ++ levText t
theorem levText_append (a b : List Lv) : levText (a ++ b) = levText a ++ levText b := by
  induction a with
  | nil => rfl
  | cons l t ih => rw [List.cons_append, levText, levText, ih, List.append_assoc]
theorem levText_take (ls : List Lv) (k : Nat) (h : k < ls.length) : levText (ls.take (k + 1)) = levText (ls.take k) ++ lvText ls[k] := by
  rw [List.take_succ_eq_append_getElem h, levText_append]; simp [levText]
noncomputable def fingText (ls : List Lv) : Str := if fingB ls = true then levText ls else []

theorem join_nil (s : Str) : Lib.join [] s = [] := rfl
theorem join_one (a s : Str) : Lib.join [a] s = a := by unfold Lib.join; simp [List.intercalate]
theorem join_cons (a b s : Str) (t : List Str) : Lib.join (a :: b :: t) s = a ++ s ++ Lib.join (b :: t) s := by unfold Lib.join; simp [List.intercalate, List.intersperse]
theorem join_snoc (l : List Str) (a s : Str) : Lib.join (l ++ [a]) s = if l = [] then a else Lib.join l s ++ s ++ a := by
  induction l with
  | nil => rw [List.nil_append, join_one, if_pos rfl]
  | cons b t ih =>
    rw [if_neg (by simp)]
    cases t with
    | nil => rw [List.cons_append, List.nil_append, join_cons, join_one, join_one]
    | cons c u =>
      rw [List.cons_append, List.cons_append, join_cons, ← List.cons_append, ih, if_neg (by simp), join_cons]
      simp [List.append_assoc]
theorem join_len (l : List Str) (s : Str) : (Lib.join l s).length ≤ l.flatten.length + l.length * s.length := by
  induction l with
  | nil => simp [join_nil]
  | cons a t ih =>
    cases t with
    | nil => rw [join_one]; simp
    | cons b u =>
      rw [join_cons, List.flatten_cons, List.length_append, List.length_append, List.length_append, List.length_cons (a := a)]
      rw [Nat.add_mul]
      omega

theorem lv_join (l : List Str) : lv (Lib.join l [32]) = lv l.flatten := by
  induction l with
  | nil => rfl
  | cons a t ih =>
    cases t with
    | nil => rw [join_one, List.flatten_cons, lv_append]; simp [lv_nil]
    | cons b u => rw [join_cons, lv_append, lv_append, ih, List.flatten_cons (l := a), lv_append]; simp [show lv [32] = 0 by decide]
theorem lv_lvText (l : Lv) : lv (lvText l) = lv l.1.flatten + lv l.2.flatten := by
  unfold lvText
  simp only [lv_append, lv_join, show lv [91] = 0 by decide, show lv [124] = 0 by decide, show lv [93] = 0 by decide]
  omega
theorem lv_levText (ls : List Lv) : lv (levText ls) = leaves ls := by
  induction ls with
  | nil => rfl
  | cons a t ih => rw [levText, lv_append, lv_lvText, ih, leaves]
theorem lvText_len (l : Lv) : (lvText l).length ≤ l.1.flatten.length + l.2.flatten.length + l.1.length + l.2.length + 3 := by
  unfold lvText
  have h1 := join_len l.1 [32]
  have h2 := join_len l.2 [32]
  simp only [List.length_append, List.length_cons, List.length_nil] at *
  omega
theorem data_cat (a b : ByteArray) : (a ++ b).data.toList = a.data.toList ++ b.data.toList := by simp
theorem str_of {s : ByteArray} {l : Str} (h : s.data.toList = l) : s = ⟨l.toArray⟩ := by
  obtain ⟨a⟩ := s
  simp only at h
  rw [← h]
theorem levText_len (ls : List Lv) (k : Nat) (h : FOk ls) : (levText (ls.take k)).length ≤ 100000 := by
  have h1 : ∀ l : List Lv, (∀ x ∈ l, x.1.length ≤ 4 ∧ x.2.length ≤ 4) → (levText l).length ≤ vol l + 11 * l.length := by
    intro l
    induction l with
    | nil => intro _; simp [levText]
    | cons a t ih =>
      intro hx
      have := ih (fun x hx' => hx x (by simp [hx']))
      have h2 := lvText_len a
      have h3 := hx a (by simp)
      rw [levText, List.length_append, vol, List.length_cons]
      omega
  have h2 := h1 (ls.take k) (fun x hx => by
    have := h.form.ls x (List.mem_of_mem_take hx)
    exact ⟨this.a4, this.b4⟩)
  have h3 : vol (ls.take k) ≤ vol ls := by
    have happ : ∀ a b : List Lv, vol (a ++ b) = vol a + vol b := by
      intro a b
      induction a with
      | nil => simp [vol]
      | cons x t ih => rw [List.cons_append, vol, vol, ih]; omega
    have : vol ls = vol (ls.take k) + vol (ls.drop k) := by rw [← happ, List.take_append_drop]
    omega
  have h4 := FOk.len h.nds
  have h5 := h.few
  have h6 := h.depth
  rw [List.length_take] at h2
  omega

theorem fok_small {ls : List Lv} (h : FOk ls) : Small ls := by
  have h1 := h.depth
  have h2 := h.few
  have h4 := FOk.len h.nds
  have hv : ∀ (t : List Lv) (l : Lv), l ∈ t → l.1.flatten.length + l.2.flatten.length ≤ vol t := by
    intro t
    induction t with
    | nil => intro l hl; simp at hl
    | cons a t ih =>
      intro l hl
      rw [vol]
      rcases List.mem_cons.1 hl with rfl | hl
      · omega
      · have := ih l hl; omega
  refine ⟨by omega, fun l hl => ⟨?_, ?_⟩, by omega⟩
  · have h7 := h.form.ls l hl
    have := h7.a4
    have := h7.b4
    omega
  · have := hv ls l hl
    omega

/-- The number of leaves as the model says it. -/
theorem leavesZ_eq (ls : List Lv) : leavesZ ls = if fingB ls = true then ((lv (fingText ls) : Nat) : Int) else -1 := by
  unfold leavesZ fingText
  split
  · rw [lv_levText]
  · rfl

theorem fingText_len (ls : List Lv) : (fingText ls).length ≤ 100000 := by
  unfold fingText
  split
  · rename_i h
    have := levText_len ls ls.length (fingB_iff.1 h)
    rwa [List.take_length] at this
  · simp

theorem ret_str {a b : ByteArray} (h : a = b) : Ending.returned (.string a) = .returned (.string b) := by rw [h]

end Go.Proofs.Ytfbcpiipekfapaa
