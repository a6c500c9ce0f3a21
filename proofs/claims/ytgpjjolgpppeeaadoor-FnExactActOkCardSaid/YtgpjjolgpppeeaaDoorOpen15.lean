/-
  An action opened as an argument. Own work.
-/
import Derived.Test.YtgpjjolgpppeeaaDoorOpen11
namespace Go.Proofs.YtgpjjolgpppeeaaDoor
open Go.ChangeShapes Go.WideShapes Go.ChangeAt Go.RowKit Go.Deep P
set_option linter.unusedVariables false
set_option maxRecDepth 100000

def Lay.act : Lay (Int × Int × Int × Int × Int × Int × Int × Int × List UInt8) := Lay.pair Lay.int (Lay.pair Lay.int (Lay.pair Lay.int Lay.req))
section
variable {H : Type} {enc : TypeId × Value → H} {w : World} {base : Nat} {spare : Nat → Bool} {held : Bool}
theorem reads_s1116 {α0 α1 α2 α3 : Type} {t : TypeId} {f0 f1 f2 f3 : Field} {L0 : Lay α0} {L1 : Lay α1} {L2 : Lay α2} {L3 : Lay α3} (ht : Tryd.prog.underlying t = some (.struct #[f0, f1, f2, f3])) (h0 : f0.offset = 0) (c0 : Tryd.prog.cellsOf f0.type = 1) (h1 : f1.offset = 1) (c1 : Tryd.prog.cellsOf f1.type = 1) (h2 : f2.offset = 2) (c2 : Tryd.prog.cellsOf f2.type = 1) (h3 : f3.offset = 3) (c3 : Tryd.prog.cellsOf f3.type = 6) (hC : Tryd.prog.cellsOf t = 9) (r0 : Reads enc w base spare held f0.type L0) (r1 : Reads enc w base spare held f1.type L1) (r2 : Reads enc w base spare held f2.type L2) (r3 : Reads enc w base spare held f3.type L3) : Reads enc w base spare held t (Lay.pair L0 (Lay.pair L1 (Lay.pair L2 L3))) := by
  intro fuel cs x hf
  obtain ⟨xs, n, _, hx, hlen, hxl, hg⟩ := DataW.trod_struct ht hf
  rw [hC] at hlen
  have hxl' : xs.length = 4 := by rw [hxl]; rfl
  match cs, hlen with
  | [u0, u1, u2, u3, u4, u5, u6, u7, u8], _ =>
    have g0 := hg 0 f0 rfl
    rw [h0, c0] at g0
    obtain ⟨y0, hy0⟩ : ∃ y, xs[0]? = some y := ⟨xs[0]'(by omega), List.getElem?_eq_getElem (by omega)⟩
    rw [hy0] at g0
    obtain ⟨d0, e0⟩ := r0 n [u0] y0 g0
    have g1 := hg 1 f1 rfl
    rw [h1, c1] at g1
    obtain ⟨y1, hy1⟩ : ∃ y, xs[1]? = some y := ⟨xs[1]'(by omega), List.getElem?_eq_getElem (by omega)⟩
    rw [hy1] at g1
    obtain ⟨d1, e1⟩ := r1 n [u1] y1 g1
    have g2 := hg 2 f2 rfl
    rw [h2, c2] at g2
    obtain ⟨y2, hy2⟩ : ∃ y, xs[2]? = some y := ⟨xs[2]'(by omega), List.getElem?_eq_getElem (by omega)⟩
    rw [hy2] at g2
    obtain ⟨d2, e2⟩ := r2 n [u2] y2 g2
    have g3 := hg 3 f3 rfl
    rw [h3, c3] at g3
    obtain ⟨y3, hy3⟩ : ∃ y, xs[3]? = some y := ⟨xs[3]'(by omega), List.getElem?_eq_getElem (by omega)⟩
    rw [hy3] at g3
    obtain ⟨d3, e3⟩ := r3 n [u3, u4, u5, u6, u7, u8] y3 g3
    exact ⟨(d0, (d1, (d2, d3))), ⟨[u0], [u1, u2, u3, u4, u5, u6, u7, u8], rfl, e0, ⟨[u1], [u2, u3, u4, u5, u6, u7, u8], rfl, e1, ⟨[u2], [u3, u4, u5, u6, u7, u8], rfl, e2, e3⟩⟩⟩⟩
theorem reads_act (hsp : ∀ b, spare b = true) : Reads enc w base spare held 26 Lay.act :=
  reads_s1116 Tryd.underlying26 rfl (by kernel_rfl) rfl (by kernel_rfl) rfl (by kernel_rfl) rfl (by kernel_rfl) (by kernel_rfl) reads_int reads_int reads_int (reads_req hsp)
end
theorem Lay.act_rd {w : World} {cs : List Value} {d : Int × Int × Int × Int × Int × Int × Int × Int × List UInt8} (h : Lay.act.rd w cs d) : ∃ A c, cs = [.int .i64 d.1, .int .i64 d.2.1, .int .i64 d.2.2.1, .int .i64 d.2.2.2.1, .int .i64 d.2.2.2.2.1, .int .i64 d.2.2.2.2.2.1, .int .i64 d.2.2.2.2.2.2.1, .int .i64 d.2.2.2.2.2.2.2.1, .slice A d.2.2.2.2.2.2.2.2.length c] ∧ d.2.2.2.2.2.2.2.2.length ≤ c ∧ c ≤ maxLen ∧ Bs w A d.2.2.2.2.2.2.2.2 := by
  obtain ⟨_, _, rfl, ⟨rfl, _⟩, _, _, rfl, ⟨rfl, _⟩, _, _, rfl, ⟨rfl, _⟩, _, _, rfl, ⟨rfl, _⟩, _, _, rfl, ⟨rfl, _⟩, _, _, rfl, ⟨rfl, _⟩, _, _, rfl, ⟨rfl, _⟩, _, _, rfl, ⟨rfl, _⟩, A, c, rfl, h1, h2, hB⟩ := h
  exact ⟨A, c, rfl, h1, h2, hB⟩
end Go.Proofs.YtgpjjolgpppeeaaDoor
