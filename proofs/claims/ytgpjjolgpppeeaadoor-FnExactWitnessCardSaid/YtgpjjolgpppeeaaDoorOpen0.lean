/-
  Arguments opened: what the form's reading of an argument says in the words of the layouts. Own work.
-/
import Derived.Test.YtgpjjolgpppeeaaDoorLaw0
import Derived.Deep.Slices
import Derived.Deep.Fields
import Derived.ChangeSame
namespace Go.Proofs.YtgpjjolgpppeeaaDoor
open Go.ChangeShapes Go.WideShapes Go.ChangeAt Go.RowKit Go.Deep P
set_option linter.unusedVariables false

section
variable {H : Type} {enc : TypeId × Value → H} {w : World} {base : Nat} {spare : Nat → Bool} {held : Bool}

/-- Whatever reads as data of type t reads in layout L. -/
def Reads {α : Type} (enc : TypeId × Value → H) (w : World) (base : Nat) (spare : Nat → Bool) (held : Bool) (t : TypeId) (L : Lay α) : Prop :=
  ∀ (fuel : Nat) (cs : List Value) (x : DataW H × List MemPlace), DataW.trod enc Tryd.prog w base spare held fuel t cs = some x → ∃ d, L.rd w cs d

theorem reads_bytes (hsp : ∀ b, spare b = true) : Reads enc w base spare held 22 Lay.bytes := by
  intro fuel cs x hf
  have hrow : ∃ A len cap zs, cs = [.slice A len cap] ∧ IsRow .u8 w A len cap zs := by
    rcases open_ints Tryd.underlying22 Tryd.underlying5 (by kernel_rfl) hf with ⟨hcs, _⟩ | ⟨x, l, c, zs, hcs, _, hl, hm, hz, _, hcell, hwz⟩
    · exact ⟨_, _, _, [], hcs, .inl ⟨rfl, rfl, rfl, rfl⟩⟩
    · exact ⟨_, _, _, zs, hcs, .inr ⟨_, rfl, hl, hm, by rw [hz, if_pos (hsp _)], hcell, hwz⟩⟩
  obtain ⟨A, len, cap, zs, rfl, hr⟩ := hrow
  obtain ⟨l, rfl, h1, h2, h3⟩ := bs_of_row hr
  exact ⟨l, A, cap, rfl, h1, h2, h3⟩

theorem reads_int : Reads enc w base spare held 3 Lay.int := by
  intro fuel cs x hf
  obtain ⟨n, rfl, _, hw⟩ := DataW.trod_int Tryd.underlying3 hf
  exact ⟨n, rfl, by simpa [Lit.wf, IntKind.min, IntKind.max, IntKind.signed, IntKind.bits] using hw⟩

theorem choose_list {α : Type} {Q : Nat → α → Prop} : ∀ n, (∀ i, i < n → ∃ d, Q i d) → ∃ l : List α, l.length = n ∧ ∀ i (h : i < l.length), Q i l[i] := by
  intro n
  induction n with
  | zero => intro _; exact ⟨[], rfl, fun i h => by simp at h⟩
  | succ n ih =>
    intro h
    obtain ⟨l, hl, hq⟩ := ih (fun i hi => h i (by omega))
    obtain ⟨d, hd⟩ := h n (by omega)
    refine ⟨l ++ [d], by simp [hl], fun i hi => ?_⟩
    by_cases e : i < l.length
    · rw [List.getElem_append_left e]; exact hq i e
    · have : i = n := by simp at hi; omega
      subst this
      rw [List.getElem_append_right (by omega)]
      simpa [hl] using hd

theorem reads_slice {α : Type} {t e T : TypeId} {E : Lay α} (ht : Tryd.prog.underlying t = some (.slice e)) (hC : Tryd.prog.cellsOf e = E.sz) (hpos : 0 < E.sz) (he : Reads enc w base spare held e E) : Reads enc w base spare held t (Lay.slice T E) := by
  intro fuel cs x hf
  rcases open_slice ht hf with ⟨rfl, _⟩ | ⟨a, len, cap, m, n, D, Pl, rfl, hb, hl, hm, hmm, hx, hi⟩
  · exact ⟨[], none, 0, rfl, Nat.le_refl _, by unfold maxLen; omega, Sl.nil _ _ _ _⟩
  · have hlm : len ≤ m := by rw [hmm]; split <;> omega
    have key : ∀ i, i < len → ∃ d, ∃ us : List Value, us.length = E.sz ∧ (∀ j (hj : j < us.length), w.cell? (a.add (i * E.sz + j)) = some us[j]) ∧ E.rd w us d := by
      intro i hil
      obtain ⟨us, hc, ht'⟩ := hi i (by omega)
      rw [hC] at hc
      obtain ⟨_, hcl, hat⟩ := World.cells?_some hc
      obtain ⟨d, hd⟩ := he n us _ ht'
      refine ⟨d, us, hcl, fun j hj => ?_, hd⟩
      have := hat j (by omega)
      rw [add_add] at this
      rw [this, List.getElem?_eq_getElem hj]
    obtain ⟨l, rfl, hl2⟩ := choose_list len key
    refine ⟨l, some a, cap, rfl, hl, hm, fun k hk => ?_⟩
    obtain ⟨us, hus, hc, hr⟩ := hl2 k hk
    have hc0 := hc 0 (by omega)
    obtain ⟨us0, hus0, hc00, _⟩ := hl2 0 (by omega)
    have hspot := World.cell?_spot (hc00 0 (by omega))
    obtain ⟨b, off, spot⟩ := a
    have hs : spot = none := by simpa [Addr.add] using hspot
    subst hs
    refine ⟨b, off, us, rfl, ?_, hus, fun j hj => ?_, hr⟩
    · rw [add_plain] at hc0
      exact World.block_lt_of_cell? w _ hc0
    · rw [← add_plain]; exact hc j hj

/-- A struct of one field. -/
theorem reads_struct1 {α : Type} {t : TypeId} {f : Field} {L : Lay α} (ht : Tryd.prog.underlying t = some (.struct #[f])) (ho : f.offset = 0) (hC : Tryd.prog.cellsOf f.type = Tryd.prog.cellsOf t) (he : Reads enc w base spare held f.type L) : Reads enc w base spare held t L := by
  intro fuel cs x hf
  obtain ⟨xs, n, _, hx, hlen, hxl, hg⟩ := DataW.trod_struct ht hf
  have h0 := hg 0 f rfl
  rw [ho, List.drop_zero, hC, List.take_of_length_le (by omega)] at h0
  obtain ⟨y, hy⟩ : ∃ y, xs[0]? = some y := ⟨xs[0]'(by rw [hxl]; simp), List.getElem?_eq_getElem (by rw [hxl]; simp)⟩
  rw [hy] at h0
  exact he n cs y h0

end
end Go.Proofs.YtgpjjolgpppeeaaDoor
