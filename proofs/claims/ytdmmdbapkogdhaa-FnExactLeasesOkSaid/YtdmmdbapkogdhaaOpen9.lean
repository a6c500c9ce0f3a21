/-
  Leases, and lists of them, opened as arguments. Own work.
-/
import Derived.Test.YtdmmdbapkogdhaaOpen7
import Derived.Test.YtdmmdbapkogdhaaC09
namespace Go.Proofs.Ytdmmdbapkogdhaa
open Go.ChangeShapes Go.WideShapes Go.ChangeAt Go.RowKit Go.Deep P
set_option linter.unusedVariables false
set_option maxRecDepth 100000

section
variable {H : Type} {enc : TypeId × Value → H} {w : World} {base : Nat} {spare : Nat → Bool} {held : Bool}

/-- A struct of four fields of one cell each. -/
theorem reads_struct4 {α β γ δ : Type} {t : TypeId} {f0 f1 f2 f3 : Field} {K : Lay α} {L : Lay β} {M : Lay γ} {N : Lay δ} (ht : Try.prog.underlying t = some (.struct #[f0, f1, f2, f3])) (h0 : f0.offset = 0) (h1 : f1.offset = 1) (h2 : f2.offset = 2) (h3 : f3.offset = 3)
    (c0 : Try.prog.cellsOf f0.type = 1) (c1 : Try.prog.cellsOf f1.type = 1) (c2 : Try.prog.cellsOf f2.type = 1) (c3 : Try.prog.cellsOf f3.type = 1) (hC : Try.prog.cellsOf t = 4)
    (r0 : Reads enc w base spare held f0.type K) (r1 : Reads enc w base spare held f1.type L) (r2 : Reads enc w base spare held f2.type M) (r3 : Reads enc w base spare held f3.type N) : Reads enc w base spare held t (Lay.pair K (Lay.pair L (Lay.pair M N))) := by
  intro fuel cs x hf
  obtain ⟨xs, n, _, hx, hlen, hxl, hg⟩ := DataW.trod_struct ht hf
  rw [hC] at hlen
  have hxl' : xs.length = 4 := by rw [hxl]; rfl
  match cs, hlen with
  | [u0, u1, u2, u3], _ =>
    have g0 := hg 0 f0 rfl
    have g1 := hg 1 f1 rfl
    have g2 := hg 2 f2 rfl
    have g3 := hg 3 f3 rfl
    rw [h0, c0] at g0
    rw [h1, c1] at g1
    rw [h2, c2] at g2
    rw [h3, c3] at g3
    obtain ⟨y0, hy0⟩ : ∃ y, xs[0]? = some y := ⟨xs[0]'(by omega), List.getElem?_eq_getElem (by omega)⟩
    obtain ⟨y1, hy1⟩ : ∃ y, xs[1]? = some y := ⟨xs[1]'(by omega), List.getElem?_eq_getElem (by omega)⟩
    obtain ⟨y2, hy2⟩ : ∃ y, xs[2]? = some y := ⟨xs[2]'(by omega), List.getElem?_eq_getElem (by omega)⟩
    obtain ⟨y3, hy3⟩ : ∃ y, xs[3]? = some y := ⟨xs[3]'(by omega), List.getElem?_eq_getElem (by omega)⟩
    rw [hy0] at g0
    rw [hy1] at g1
    rw [hy2] at g2
    rw [hy3] at g3
    obtain ⟨d0, e0⟩ := r0 n [u0] y0 g0
    obtain ⟨d1, e1⟩ := r1 n [u1] y1 g1
    obtain ⟨d2, e2⟩ := r2 n [u2] y2 g2
    obtain ⟨d3, e3⟩ := r3 n [u3] y3 g3
    exact ⟨(d0, d1, d2, d3), [u0], [u1, u2, u3], rfl, e0, [u1], [u2, u3], rfl, e1, [u2], [u3], rfl, e2, e3⟩

theorem reads_lease : Reads enc w base spare held 70 Lay.lease :=
  reads_struct4 Try.underlying70 rfl rfl rfl rfl (by kernel_rfl) (by kernel_rfl) (by kernel_rfl) (by kernel_rfl) (by kernel_rfl) reads_int reads_int reads_int reads_int
theorem reads_leases (hsp : ∀ b, spare b = true) : Reads enc w base spare held 66 (Lay.slice 70 Lay.lease) :=
  reads_slice Try.underlying66 (by kernel_rfl) (by decide) reads_lease
end
end Go.Proofs.Ytdmmdbapkogdhaa
