/-
  Lists of events and of outputs opened as arguments. Own work.
-/
import Derived.Test.YtgpjjolgpppeeaaDoorOpen11
import Derived.Test.YtgpjjolgpppeeaaDoorC24
namespace Go.Proofs.YtgpjjolgpppeeaaDoor
open Go.ChangeShapes Go.WideShapes Go.ChangeAt Go.RowKit Go.Deep P
set_option linter.unusedVariables false
set_option maxRecDepth 100000

section
variable {H : Type} {enc : TypeId × Value → H} {w : World} {base : Nat} {spare : Nat → Bool} {held : Bool}
theorem reads_s11614 {α0 α1 α2 α3 α4 : Type} {t : TypeId} {f0 f1 f2 f3 f4 : Field} {L0 : Lay α0} {L1 : Lay α1} {L2 : Lay α2} {L3 : Lay α3} {L4 : Lay α4} (ht : Tryd.prog.underlying t = some (.struct #[f0, f1, f2, f3, f4])) (h0 : f0.offset = 0) (c0 : Tryd.prog.cellsOf f0.type = 1) (h1 : f1.offset = 1) (c1 : Tryd.prog.cellsOf f1.type = 1) (h2 : f2.offset = 2) (c2 : Tryd.prog.cellsOf f2.type = 6) (h3 : f3.offset = 8) (c3 : Tryd.prog.cellsOf f3.type = 1) (h4 : f4.offset = 9) (c4 : Tryd.prog.cellsOf f4.type = 4) (hC : Tryd.prog.cellsOf t = 13) (r0 : Reads enc w base spare held f0.type L0) (r1 : Reads enc w base spare held f1.type L1) (r2 : Reads enc w base spare held f2.type L2) (r3 : Reads enc w base spare held f3.type L3) (r4 : Reads enc w base spare held f4.type L4) : Reads enc w base spare held t (Lay.pair L0 (Lay.pair L1 (Lay.pair L2 (Lay.pair L3 L4)))) := by
  intro fuel cs x hf
  obtain ⟨xs, n, _, hx, hlen, hxl, hg⟩ := DataW.trod_struct ht hf
  rw [hC] at hlen
  have hxl' : xs.length = 5 := by rw [hxl]; rfl
  match cs, hlen with
  | [u0, u1, u2, u3, u4, u5, u6, u7, u8, u9, u10, u11, u12], _ =>
    have g0 := hg 0 f0 rfl
    rw [h0, c0] at g0
    obtain ⟨y0, hy0⟩ : ∃ y, xs[0]? = some y := ⟨xs[0]'(by omega), List.getElem?_eq_getElem (by omega)⟩
    rw [hy0] at g0
    obtain ⟨d0, e0⟩ := r0 n [u0] y0 g0
    have g1 := hg 1 f1 rfl
    rw [h1, c1] at g1
    obtain ⟨y1, hy1⟩ : ∃ y, xs[1]? = some y := ⟨xs[1]'(by omega), List.getElem?_eq_getElem (by omega)⟩
    rw [hy1] at g1
    obtain ⟨d1, e1⟩ := r1 n [u1] y1 g1
    have g2 := hg 2 f2 rfl
    rw [h2, c2] at g2
    obtain ⟨y2, hy2⟩ : ∃ y, xs[2]? = some y := ⟨xs[2]'(by omega), List.getElem?_eq_getElem (by omega)⟩
    rw [hy2] at g2
    obtain ⟨d2, e2⟩ := r2 n [u2, u3, u4, u5, u6, u7] y2 g2
    have g3 := hg 3 f3 rfl
    rw [h3, c3] at g3
    obtain ⟨y3, hy3⟩ : ∃ y, xs[3]? = some y := ⟨xs[3]'(by omega), List.getElem?_eq_getElem (by omega)⟩
    rw [hy3] at g3
    obtain ⟨d3, e3⟩ := r3 n [u8] y3 g3
    have g4 := hg 4 f4 rfl
    rw [h4, c4] at g4
    obtain ⟨y4, hy4⟩ : ∃ y, xs[4]? = some y := ⟨xs[4]'(by omega), List.getElem?_eq_getElem (by omega)⟩
    rw [hy4] at g4
    obtain ⟨d4, e4⟩ := r4 n [u9, u10, u11, u12] y4 g4
    exact ⟨(d0, (d1, (d2, (d3, d4)))), ⟨[u0], [u1, u2, u3, u4, u5, u6, u7, u8, u9, u10, u11, u12], rfl, e0, ⟨[u1], [u2, u3, u4, u5, u6, u7, u8, u9, u10, u11, u12], rfl, e1, ⟨[u2, u3, u4, u5, u6, u7], [u8, u9, u10, u11, u12], rfl, e2, ⟨[u8], [u9, u10, u11, u12], rfl, e3, e4⟩⟩⟩⟩⟩
theorem reads_out (hsp : ∀ b, spare b = true) : Reads enc w base spare held 81 Lay.out :=
  reads_s11614 (L2 := Lay.rqL) (L4 := Lay.rpL) Tryd.underlying81 rfl (by kernel_rfl) rfl (by kernel_rfl) rfl (by kernel_rfl) rfl (by kernel_rfl) rfl (by kernel_rfl) (by kernel_rfl) reads_int reads_int (reads_req hsp) reads_int (reads_reply hsp)
theorem reads_outs (hsp : ∀ b, spare b = true) : Reads enc w base spare held 36 (Lay.slice 81 Lay.out) :=
  reads_slice Tryd.underlying36 (by kernel_rfl) (by decide) (reads_out hsp)
theorem reads_evt (hsp : ∀ b, spare b = true) : Reads enc w base spare held 77 Lay.rpL :=
  reads_str4 Tryd.underlying77 rfl rfl rfl rfl (by kernel_rfl) (by kernel_rfl) (by kernel_rfl) (by kernel_rfl) (by kernel_rfl) reads_int reads_int reads_int (reads_bytes hsp)
theorem reads_events (hsp : ∀ b, spare b = true) : Reads enc w base spare held 35 (Lay.slice 77 Lay.rpL) :=
  reads_slice Tryd.underlying35 (by kernel_rfl) (by decide) (reads_evt hsp)
end
end Go.Proofs.YtgpjjolgpppeeaaDoor
