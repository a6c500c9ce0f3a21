/-
  What all laws of this seat share: the arguments opened, the table, a world for the witness. Own work.
-/
import Derived.Test.YtpgeanombiociaaDoorCards
import Derived.Test.YtpgeanombiociaaDoorTie
import Derived.ProofKit
import Derived.OpenShut
import Derived.OpenVars
import Derived.ChangeOld
import Derived.Deep.DeepHandedRow
import Derived.Lib.LaidTab
import Derived.Test.YtpgeanombiociaaDoorS01e
namespace Go.Proofs.YtpgeanombiociaaDoor
open Go.ChangeShapes Go.WideShapes Go.ChangeAt Go.RowKit P
set_option linter.unusedVariables false

theorem own : ownKnob Tryd.prog.godebug = none := by kernel_rfl
theorem laidOut : laidOutB Tryd.prog = true := by kernel_rfl
theorem gTab : Tryd.prog.globalNamed "loop.example/g00677/impl.leadMarks" = some 0 := by kernel_rfl
theorem gTabType : (Tryd.prog.globals[0]?).map (·.type) = some 66 := by kernel_rfl
theorem cellsArr : Tryd.prog.cellsOf 66 = 5 := by kernel_rfl
theorem cellsU8 : Tryd.prog.cellsOf 5 = 1 := by kernel_rfl

theorem tab_of {W : World} (h : laidMetH Tryd.prog [("loop.example/g00677/impl.leadMarks", Rows.laid_loop_example_g00677_impl_leadMarks)] W) : Tab W := by
  have t : Lib.TabIs Tryd.prog W "loop.example/g00677/impl.leadMarks" .u8 [0, 0, 192, 224, 240] := Lib.tabIs_of_head (rest := []) gTab gTabType Tryd.underlying66 Tryd.underlying5 cellsU8 cellsArr h
  have c0 := t.cell gTab 0 (by decide)
  exact ⟨World.block_lt_of_cell? W _ c0, c0, t.cell gTab 1 (by decide), t.cell gTab 2 (by decide), t.cell gTab 3 (by decide), t.cell gTab 4 (by decide)⟩

/-- What the guide's opening of a slice of bytes gives. -/
def IsRow (k : IntKind) (w : World) (a : Option Addr) (len cap : Nat) (zs : List Int) : Prop :=
  (a = none ∧ len = 0 ∧ cap = 0 ∧ zs = []) ∨
  ∃ x, a = some x ∧ len ≤ cap ∧ cap ≤ maxLen ∧ zs.length = cap ∧ (∀ i, i < zs.length → w.cell? (x.add i) = some (.int k (zs.getD i 0))) ∧ ∀ n ∈ zs, (Lit.int k n).wf = true

theorem bs_of_row {w : World} {a : Option Addr} {len cap : Nat} {zs : List Int} (h : IsRow .u8 w a len cap zs) : ∃ l : List UInt8, l.length = len ∧ len ≤ cap ∧ cap ≤ maxLen ∧ Bs w a l := by
  rcases h with ⟨rfl, rfl, rfl, rfl⟩ | ⟨x, rfl, hl, hm, hz, hc, hw⟩
  · exact ⟨[], rfl, Nat.le_refl _, by unfold maxLen; omega, fun k hk => by simp at hk⟩
  · refine ⟨(zs.take len).map fun z => UInt8.ofNat z.toNat, by simp; omega, hl, hm, fun k hk => ?_⟩
    have hk2 : k < len := by simp at hk; omega
    have hk3 : k < zs.length := by omega
    have hcell := hc k hk3
    have hspot := World.cell?_spot (hc 0 (by omega))
    obtain ⟨b, off, spot⟩ := x
    have hs : spot = none := by simpa [Addr.add] using hspot
    subst hs
    have hadd : (⟨b, off, none⟩ : Addr).add k = ⟨b, off + k, none⟩ := by unfold Addr.add; split <;> simp_all
    rw [hadd] at hcell
    refine ⟨b, off, rfl, World.block_lt_of_cell? w _ hcell, ?_⟩
    rw [hcell]
    have hwf := hw (zs[k]) (List.getElem_mem hk3)
    have hx : 0 ≤ zs[k] ∧ zs[k] ≤ 255 := by simpa [Lit.wf, IntKind.min, IntKind.max, IntKind.signed, IntKind.bits] using hwf
    have e1 : zs.getD k 0 = zs[k] := by simp [List.getD, hk3]
    have e2 : (((zs.take len).map fun z => UInt8.ofNat z.toNat)[k]).toNat = (zs[k]).toNat := by
      simp only [List.getElem_map, List.getElem_take, UInt8.toNat_ofNat']
      omega
    rw [e1, e2]
    congr 2
    omega

/-- A world for the witness: the settled one, the table holding what its initialiser lays. -/
noncomputable def laidWorld (os : Os) : World :=
  { World.holding Tryd.prog os ⟨#[], #[], []⟩ with heap := (World.holding Tryd.prog os ⟨#[], #[], []⟩).heap.modify 0 fun
      | .cells _ t frozen => .cells #[.int .u8 0, .int .u8 0, .int .u8 192, .int .u8 224, .int .u8 240] t frozen
      | o => o }

end Go.Proofs.YtpgeanombiociaaDoor
