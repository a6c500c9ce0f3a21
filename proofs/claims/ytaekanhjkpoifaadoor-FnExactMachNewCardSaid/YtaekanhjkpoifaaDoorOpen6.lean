/-
  Edits opened as arguments. Own work.
-/
import Derived.Test.YtaekanhjkpoifaaDoorOpen0
import Derived.Test.YtaekanhjkpoifaaDoorLaw
import Derived.Test.YtaekanhjkpoifaaDoorC05
namespace Go.Proofs.YtaekanhjkpoifaaDoor
open Go.ChangeShapes Go.WideShapes Go.ChangeAt Go.RowKit Go.Deep P
set_option linter.unusedVariables false
set_option maxRecDepth 100000

section
variable {H : Type} {enc : TypeId × Value → H} {w : World} {base : Nat} {spare : Nat → Bool} {held : Bool}

/-- A struct of three fields of one cell each. -/
theorem reads_struct3 {α β γ : Type} {t : TypeId} {f0 f1 f2 : Field} {K : Lay α} {L : Lay β} {M : Lay γ} (ht : Tryd.prog.underlying t = some (.struct #[f0, f1, f2])) (h0 : f0.offset = 0) (h1 : f1.offset = 1) (h2 : f2.offset = 2)
    (c0 : Tryd.prog.cellsOf f0.type = 1) (c1 : Tryd.prog.cellsOf f1.type = 1) (c2 : Tryd.prog.cellsOf f2.type = 1) (hC : Tryd.prog.cellsOf t = 3)
    (r0 : Reads enc w base spare held f0.type K) (r1 : Reads enc w base spare held f1.type L) (r2 : Reads enc w base spare held f2.type M) : Reads enc w base spare held t (Lay.pair K (Lay.pair L M)) := by
  intro fuel cs x hf
  obtain ⟨xs, n, _, hx, hlen, hxl, hg⟩ := DataW.trod_struct ht hf
  rw [hC] at hlen
  have hxl' : xs.length = 3 := by rw [hxl]; rfl
  match cs, hlen with
  | [u0, u1, u2], _ =>
    have g0 := hg 0 f0 rfl
    have g1 := hg 1 f1 rfl
    have g2 := hg 2 f2 rfl
    rw [h0, c0] at g0
    rw [h1, c1] at g1
    rw [h2, c2] at g2
    obtain ⟨y0, hy0⟩ : ∃ y, xs[0]? = some y := ⟨xs[0]'(by omega), List.getElem?_eq_getElem (by omega)⟩
    obtain ⟨y1, hy1⟩ : ∃ y, xs[1]? = some y := ⟨xs[1]'(by omega), List.getElem?_eq_getElem (by omega)⟩
    obtain ⟨y2, hy2⟩ : ∃ y, xs[2]? = some y := ⟨xs[2]'(by omega), List.getElem?_eq_getElem (by omega)⟩
    rw [hy0] at g0
    rw [hy1] at g1
    rw [hy2] at g2
    obtain ⟨d0, e0⟩ := r0 n [u0] y0 g0
    obtain ⟨d1, e1⟩ := r1 n [u1] y1 g1
    obtain ⟨d2, e2⟩ := r2 n [u2] y2 g2
    exact ⟨(d0, d1, d2), [u0], [u1, u2], rfl, e0, [u1], [u2], rfl, e1, e2⟩

end

/-- An edit in cells. -/
theorem Lay.edit_rd {w : World} {cs : List Value} {d : Int × Int × List UInt8} (h : Lay.edit.rd w cs d) : ∃ A c, cs = [.int .i64 d.1, .int .i64 d.2.1, .slice A d.2.2.length c] ∧ (-9223372036854775808 ≤ d.1 ∧ d.1 ≤ 9223372036854775807) ∧ (-9223372036854775808 ≤ d.2.1 ∧ d.2.1 ≤ 9223372036854775807) ∧ d.2.2.length ≤ c ∧ c ≤ maxLen ∧ Bs w A d.2.2 := by
  obtain ⟨c1, c2, rfl, ⟨rfl, ha⟩, c3, c4, rfl, ⟨rfl, hm⟩, A, c, rfl, h1, h2, hB⟩ := h
  exact ⟨A, c, rfl, ha, hm, h1, h2, hB⟩
end Go.Proofs.YtaekanhjkpoifaaDoor
