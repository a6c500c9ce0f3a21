/-
  Strings, levels and trees opened as arguments. Own work.
-/
import Derived.Test.YtfbcpiipekfapaaOpen0
import Derived.Test.YtfbcpiipekfapaaStr
import Derived.ShutString
namespace Go.Proofs.Ytfbcpiipekfapaa
open Go.ChangeShapes Go.WideShapes Go.ChangeAt Go.RowKit Go.Deep P
set_option linter.unusedVariables false

section
variable {H : Type} {enc : TypeId × Value → H} {w : World} {base : Nat} {spare : Nat → Bool} {held : Bool}

theorem reads_str : Reads enc w base spare held 9 Lay.str := by
  intro fuel cs x hf
  obtain ⟨s, rfl, _, hs⟩ := DataW.trod_string Try.underlying9 hf
  exact ⟨s.data.toList, rfl, by simpa using hs⟩

/-- A struct of two fields. -/
theorem reads_struct2 {α β : Type} {t : TypeId} {f0 f1 : Field} {L1 : Lay α} {L2 : Lay β} (ht : Try.prog.underlying t = some (.struct #[f0, f1])) (o0 : f0.offset = 0) (o1 : f1.offset = Try.prog.cellsOf f0.type)
    (hC : Try.prog.cellsOf t = Try.prog.cellsOf f0.type + Try.prog.cellsOf f1.type) (h0 : Reads enc w base spare held f0.type L1) (h1 : Reads enc w base spare held f1.type L2) : Reads enc w base spare held t (Lay.pair L1 L2) := by
  intro fuel cs x hf
  obtain ⟨y0, y1, n, _, hl, k0, k1⟩ := trod_struct2 ht hf
  rw [o0, List.drop_zero] at k0
  rw [o1, List.take_of_length_le (by rw [List.length_drop]; omega)] at k1
  obtain ⟨d0, e0⟩ := h0 n _ _ k0
  obtain ⟨d1, e1⟩ := h1 n _ _ k1
  exact ⟨(d0, d1), _, _, (List.take_append_drop _ cs).symm, e0, e1⟩

/-- The laws' own levels. -/
def Lay.llvls : Lay (List Lv) := Lay.slice 119 Lay.lvl

theorem reads_strs : Reads enc w base spare held 61 Lay.strs := reads_slice Try.underlying61 (by kernel_rfl) (by decide) reads_str
theorem reads_level : Reads enc w base spare held 119 Lay.lvl := reads_struct2 Try.underlying119 rfl (by kernel_rfl) (by kernel_rfl) reads_strs reads_strs
theorem reads_levels : Reads enc w base spare held 40 Lay.llvls := reads_slice Try.underlying40 (by kernel_rfl) (by decide) reads_level
theorem reads_fing : Reads enc w base spare held 42 Lay.llvls := reads_struct1 Try.underlying42 rfl (by kernel_rfl) reads_levels
end
end Go.Proofs.Ytfbcpiipekfapaa
