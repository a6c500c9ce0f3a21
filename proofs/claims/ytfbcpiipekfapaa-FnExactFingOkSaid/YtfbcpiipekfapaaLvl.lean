/-
  Levels and slices of levels in cells. Own work.
-/
import Derived.Test.YtfbcpiipekfapaaStr
namespace Go.Proofs.Ytfbcpiipekfapaa
open Go.RowKit P
set_option linter.unusedVariables false

theorem lvl_rd {w : World} {us : List Value} {l : Lv} (h : Lay.lvl.rd w us l) : ∃ A1 c1 A2 c2, us = [.slice A1 l.1.length c1, .slice A2 l.2.length c2] ∧ l.1.length ≤ c1 ∧ c1 ≤ maxLen ∧ l.2.length ≤ c2 ∧ c2 ≤ maxLen ∧ Ss w A1 l.1 ∧ Ss w A2 l.2 := by
  obtain ⟨x, y, rfl, hx, hy⟩ := h
  obtain ⟨A1, c1, rfl, h1, h2, h3⟩ := hx
  obtain ⟨A2, c2, rfl, h4, h5, h6⟩ := hy
  exact ⟨A1, c1, A2, c2, rfl, h1, h2, h4, h5, h3, h6⟩

/-- The slice of levels that starts at A. -/
def Ls (w : World) (A : Option Addr) (ls : List Lv) : Prop := Sl 2 Lay.lvl.rd w A ls
theorem Ls.below {w w' : World} {A : Option Addr} {l : List Lv} (h : Ls w A l) (hb : Below w.heap.size w w') : Ls w' A l := Sl.below (E := Lay.lvl) h hb
theorem Ls.at_ {w : World} {A : Option Addr} {ls : List Lv} (h : Ls w A ls) (k : Nat) (hk : k < ls.length) :
    ∃ b off A1 c1 A2 c2, A = some ⟨b, off, none⟩ ∧ b < w.heap.size ∧ w.cell? ⟨b, off + k * 2, none⟩ = some (.slice A1 (ls[k]).1.length c1) ∧ w.cell? ⟨b, off + k * 2 + 1, none⟩ = some (.slice A2 (ls[k]).2.length c2) ∧
      (ls[k]).1.length ≤ c1 ∧ c1 ≤ maxLen ∧ (ls[k]).2.length ≤ c2 ∧ c2 ≤ maxLen ∧ Ss w A1 (ls[k]).1 ∧ Ss w A2 (ls[k]).2 := by
  obtain ⟨b, off, us, hA, hb, hl, hc, hr⟩ := h k hk
  obtain ⟨A1, c1, A2, c2, rfl, h1, h2, h3, h4, h5, h6⟩ := lvl_rd hr
  have k0 := hc 0 (by simp)
  have k1 := hc 1 (by simp)
  exact ⟨b, off, A1, c1, A2, c2, hA, hb, by simpa using k0, by simpa [Nat.add_assoc] using k1, h1, h2, h3, h4, h5, h6⟩

end Go.Proofs.Ytfbcpiipekfapaa
