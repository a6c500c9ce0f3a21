/-
  Requests and replies opened as arguments. Own work.
-/
import Derived.Test.YtgpjjolgpppeeaaDoorOpen0
import Derived.Test.YtgpjjolgpppeeaaDoorLaw0
import Derived.ProofKit
import Derived.OpenShut
import Derived.OpenVars
import Derived.ChangeOld
import Derived.Deep.DeepHandedRow
import Derived.Test.YtgpjjolgpppeeaaDoorLay
namespace Go.Proofs.YtgpjjolgpppeeaaDoor
open Go.ChangeShapes Go.WideShapes Go.ChangeAt Go.RowKit Go.Deep P
set_option linter.unusedVariables false
set_option maxRecDepth 100000

/-- A request in cells; a reply in cells. -/
def Lay.req : Lay (Int × Int × Int × Int × Int × List UInt8) := Lay.pair Lay.int (Lay.pair Lay.int (Lay.pair Lay.int (Lay.pair Lay.int (Lay.pair Lay.int Lay.bytes))))
def Lay.reply : Lay (Int × Int × Int × List UInt8) := Lay.pair Lay.int (Lay.pair Lay.int (Lay.pair Lay.int Lay.bytes))

section
variable {H : Type} {enc : TypeId × Value → H} {w : World} {base : Nat} {spare : Nat → Bool} {held : Bool}


/-- A struct of 6 fields of one cell each. -/
theorem reads_struct6 {α β γ δ ε ζ : Type} {t : TypeId} {f0 f1 f2 f3 f4 f5 : Field} {Y0 : Lay α} {Y1 : Lay β} {Y2 : Lay γ} {Y3 : Lay δ} {Y4 : Lay ε} {Y5 : Lay ζ} (ht : Tryd.prog.underlying t = some (.struct #[f0, f1, f2, f3, f4, f5])) (h0 : f0.offset = 0) (h1 : f1.offset = 1) (h2 : f2.offset = 2) (h3 : f3.offset = 3) (h4 : f4.offset = 4) (h5 : f5.offset = 5)
    (c0 : Tryd.prog.cellsOf f0.type = 1) (c1 : Tryd.prog.cellsOf f1.type = 1) (c2 : Tryd.prog.cellsOf f2.type = 1) (c3 : Tryd.prog.cellsOf f3.type = 1) (c4 : Tryd.prog.cellsOf f4.type = 1) (c5 : Tryd.prog.cellsOf f5.type = 1) (hC : Tryd.prog.cellsOf t = 6)
    (r0 : Reads enc w base spare held f0.type Y0) (r1 : Reads enc w base spare held f1.type Y1) (r2 : Reads enc w base spare held f2.type Y2) (r3 : Reads enc w base spare held f3.type Y3) (r4 : Reads enc w base spare held f4.type Y4) (r5 : Reads enc w base spare held f5.type Y5) : Reads enc w base spare held t (Lay.pair Y0 (Lay.pair Y1 (Lay.pair Y2 (Lay.pair Y3 (Lay.pair Y4 Y5))))) := by
  intro fuel cs x hf
  obtain ⟨xs, n, _, hx, hlen, hxl, hg⟩ := DataW.trod_struct ht hf
  rw [hC] at hlen
  have hxl' : xs.length = 6 := by rw [hxl]; rfl
  match cs, hlen with
  | [u0, u1, u2, u3, u4, u5], _ =>
    have g0 := hg 0 f0 rfl
    rw [h0, c0] at g0
    obtain ⟨y0, hy0⟩ : ∃ y, xs[0]? = some y := ⟨xs[0]'(by omega), List.getElem?_eq_getElem (by omega)⟩
    rw [hy0] at g0
    obtain ⟨d0, e0⟩ := r0 n [u0] y0 g0
    have g1 := hg 1 f1 rfl
    rw [h1, c1] at g1
    obtain ⟨y1, hy1⟩ : ∃ y, xs[1]? = some y := ⟨xs[1]'(by omega), List.getElem?_eq_getElem (by omega)⟩
    rw [hy1] at g1
    obtain ⟨d1, e1⟩ := r1 n [u1] y1 g1
    have g2 := hg 2 f2 rfl
    rw [h2, c2] at g2
    obtain ⟨y2, hy2⟩ : ∃ y, xs[2]? = some y := ⟨xs[2]'(by omega), List.getElem?_eq_getElem (by omega)⟩
    rw [hy2] at g2
    obtain ⟨d2, e2⟩ := r2 n [u2] y2 g2
    have g3 := hg 3 f3 rfl
    rw [h3, c3] at g3
    obtain ⟨y3, hy3⟩ : ∃ y, xs[3]? = some y := ⟨xs[3]'(by omega), List.getElem?_eq_getElem (by omega)⟩
    rw [hy3] at g3
    obtain ⟨d3, e3⟩ := r3 n [u3] y3 g3
    have g4 := hg 4 f4 rfl
    rw [h4, c4] at g4
    obtain ⟨y4, hy4⟩ : ∃ y, xs[4]? = some y := ⟨xs[4]'(by omega), List.getElem?_eq_getElem (by omega)⟩
    rw [hy4] at g4
    obtain ⟨d4, e4⟩ := r4 n [u4] y4 g4
    have g5 := hg 5 f5 rfl
    rw [h5, c5] at g5
    obtain ⟨y5, hy5⟩ : ∃ y, xs[5]? = some y := ⟨xs[5]'(by omega), List.getElem?_eq_getElem (by omega)⟩
    rw [hy5] at g5
    obtain ⟨d5, e5⟩ := r5 n [u5] y5 g5
    exact ⟨(d0, d1, d2, d3, d4, d5), [u0], [u1, u2, u3, u4, u5], rfl, e0, [u1], [u2, u3, u4, u5], rfl, e1, [u2], [u3, u4, u5], rfl, e2, [u3], [u4, u5], rfl, e3, [u4], [u5], rfl, e4, e5⟩

/-- A struct of 4 fields of one cell each. -/
theorem reads_str4 {α β γ δ : Type} {t : TypeId} {f0 f1 f2 f3 : Field} {Y0 : Lay α} {Y1 : Lay β} {Y2 : Lay γ} {Y3 : Lay δ} (ht : Tryd.prog.underlying t = some (.struct #[f0, f1, f2, f3])) (h0 : f0.offset = 0) (h1 : f1.offset = 1) (h2 : f2.offset = 2) (h3 : f3.offset = 3)
    (c0 : Tryd.prog.cellsOf f0.type = 1) (c1 : Tryd.prog.cellsOf f1.type = 1) (c2 : Tryd.prog.cellsOf f2.type = 1) (c3 : Tryd.prog.cellsOf f3.type = 1) (hC : Tryd.prog.cellsOf t = 4)
    (r0 : Reads enc w base spare held f0.type Y0) (r1 : Reads enc w base spare held f1.type Y1) (r2 : Reads enc w base spare held f2.type Y2) (r3 : Reads enc w base spare held f3.type Y3) : Reads enc w base spare held t (Lay.pair Y0 (Lay.pair Y1 (Lay.pair Y2 Y3))) := by
  intro fuel cs x hf
  obtain ⟨xs, n, _, hx, hlen, hxl, hg⟩ := DataW.trod_struct ht hf
  rw [hC] at hlen
  have hxl' : xs.length = 4 := by rw [hxl]; rfl
  match cs, hlen with
  | [u0, u1, u2, u3], _ =>
    have g0 := hg 0 f0 rfl
    rw [h0, c0] at g0
    obtain ⟨y0, hy0⟩ : ∃ y, xs[0]? = some y := ⟨xs[0]'(by omega), List.getElem?_eq_getElem (by omega)⟩
    rw [hy0] at g0
    obtain ⟨d0, e0⟩ := r0 n [u0] y0 g0
    have g1 := hg 1 f1 rfl
    rw [h1, c1] at g1
    obtain ⟨y1, hy1⟩ : ∃ y, xs[1]? = some y := ⟨xs[1]'(by omega), List.getElem?_eq_getElem (by omega)⟩
    rw [hy1] at g1
    obtain ⟨d1, e1⟩ := r1 n [u1] y1 g1
    have g2 := hg 2 f2 rfl
    rw [h2, c2] at g2
    obtain ⟨y2, hy2⟩ : ∃ y, xs[2]? = some y := ⟨xs[2]'(by omega), List.getElem?_eq_getElem (by omega)⟩
    rw [hy2] at g2
    obtain ⟨d2, e2⟩ := r2 n [u2] y2 g2
    have g3 := hg 3 f3 rfl
    rw [h3, c3] at g3
    obtain ⟨y3, hy3⟩ : ∃ y, xs[3]? = some y := ⟨xs[3]'(by omega), List.getElem?_eq_getElem (by omega)⟩
    rw [hy3] at g3
    obtain ⟨d3, e3⟩ := r3 n [u3] y3 g3
    exact ⟨(d0, d1, d2, d3), [u0], [u1, u2, u3], rfl, e0, [u1], [u2, u3], rfl, e1, [u2], [u3], rfl, e2, e3⟩

theorem reads_req (hsp : ∀ b, spare b = true) : Reads enc w base spare held 24 Lay.req :=
  reads_struct6 Tryd.underlying24 rfl rfl rfl rfl rfl rfl (by kernel_rfl) (by kernel_rfl) (by kernel_rfl) (by kernel_rfl) (by kernel_rfl) (by kernel_rfl) (by kernel_rfl) reads_int reads_int reads_int reads_int reads_int (reads_bytes hsp)
theorem reads_reply (hsp : ∀ b, spare b = true) : Reads enc w base spare held 79 Lay.reply :=
  reads_str4 Tryd.underlying79 rfl rfl rfl rfl (by kernel_rfl) (by kernel_rfl) (by kernel_rfl) (by kernel_rfl) (by kernel_rfl) reads_int reads_int reads_int (reads_bytes hsp)
end

/-- A request in cells. -/
theorem Lay.req_rd {w : World} {cs : List Value} {d : Int × Int × Int × Int × Int × List UInt8} (h : Lay.req.rd w cs d) : ∃ A c, cs = [.int .i64 d.1, .int .i64 d.2.1, .int .i64 d.2.2.1, .int .i64 d.2.2.2.1, .int .i64 d.2.2.2.2.1, .slice A d.2.2.2.2.2.length c] ∧ d.2.2.2.2.2.length ≤ c ∧ c ≤ maxLen ∧ Bs w A d.2.2.2.2.2 := by
  obtain ⟨_, _, rfl, ⟨rfl, _⟩, _, _, rfl, ⟨rfl, _⟩, _, _, rfl, ⟨rfl, _⟩, _, _, rfl, ⟨rfl, _⟩, _, _, rfl, ⟨rfl, _⟩, A, c, rfl, h1, h2, hB⟩ := h
  exact ⟨A, c, rfl, h1, h2, hB⟩
/-- A reply in cells. -/
theorem Lay.reply_rd {w : World} {cs : List Value} {d : Int × Int × Int × List UInt8} (h : Lay.reply.rd w cs d) : ∃ A c, cs = [.int .i64 d.1, .int .i64 d.2.1, .int .i64 d.2.2.1, .slice A d.2.2.2.length c] ∧ d.2.2.2.length ≤ c ∧ c ≤ maxLen ∧ Bs w A d.2.2.2 := by
  obtain ⟨_, _, rfl, ⟨rfl, _⟩, _, _, rfl, ⟨rfl, _⟩, _, _, rfl, ⟨rfl, _⟩, A, c, rfl, h1, h2, hB⟩ := h
  exact ⟨A, c, rfl, h1, h2, hB⟩
end Go.Proofs.YtgpjjolgpppeeaaDoor
