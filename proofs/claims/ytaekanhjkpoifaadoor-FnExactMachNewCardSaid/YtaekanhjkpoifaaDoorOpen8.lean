/-
  Lists of edits, and selections, opened as arguments. Own work.
-/
import Derived.Test.YtaekanhjkpoifaaDoorOpen6
namespace Go.Proofs.YtaekanhjkpoifaaDoor
open Go.ChangeShapes Go.WideShapes Go.ChangeAt Go.RowKit Go.Deep P
set_option linter.unusedVariables false
set_option maxRecDepth 100000

section
variable {H : Type} {enc : TypeId × Value → H} {w : World} {base : Nat} {spare : Nat → Bool} {held : Bool}

/-- A struct of two fields of one cell each. -/
theorem reads_struct2 {α β : Type} {t : TypeId} {f0 f1 : Field} {K : Lay α} {L : Lay β} (ht : Tryd.prog.underlying t = some (.struct #[f0, f1])) (h0 : f0.offset = 0) (h1 : f1.offset = 1)
    (c0 : Tryd.prog.cellsOf f0.type = 1) (c1 : Tryd.prog.cellsOf f1.type = 1) (hC : Tryd.prog.cellsOf t = 2)
    (r0 : Reads enc w base spare held f0.type K) (r1 : Reads enc w base spare held f1.type L) : Reads enc w base spare held t (Lay.pair K L) := by
  intro fuel cs x hf
  obtain ⟨xs, n, _, hx, hlen, hxl, hg⟩ := DataW.trod_struct ht hf
  rw [hC] at hlen
  have hxl' : xs.length = 2 := by rw [hxl]; rfl
  match cs, hlen with
  | [u0, u1], _ =>
    have g0 := hg 0 f0 rfl
    have g1 := hg 1 f1 rfl
    rw [h0, c0] at g0
    rw [h1, c1] at g1
    obtain ⟨y0, hy0⟩ : ∃ y, xs[0]? = some y := ⟨xs[0]'(by omega), List.getElem?_eq_getElem (by omega)⟩
    obtain ⟨y1, hy1⟩ : ∃ y, xs[1]? = some y := ⟨xs[1]'(by omega), List.getElem?_eq_getElem (by omega)⟩
    rw [hy0] at g0
    rw [hy1] at g1
    obtain ⟨d0, e0⟩ := r0 n [u0] y0 g0
    obtain ⟨d1, e1⟩ := r1 n [u1] y1 g1
    exact ⟨(d0, d1), [u0], [u1], rfl, e0, e1⟩

end
end Go.Proofs.YtaekanhjkpoifaaDoor
