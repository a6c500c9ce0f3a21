/-
  Chapter 1, the model's decoding: contracts. Own work.
-/
import Derived.Test.YtfgbipomdfceeaaDoorI01f
import Derived.Laws.IdiomStrings
import Derived.Deep.RegionWith
namespace Go.Proofs.YtfgbipomdfceeaaDoor
open Go.RowKit P
set_option linter.unusedVariables false

theorem run_conv_bs {W : World} {A : Option Addr} {l : List UInt8} (c n : Nat) (hn : n = l.length) (h : Bs W A l) :
    (convert 22 9 (.slice A n c)).run Tryd.prog W = .ok (.string ⟨l.toArray⟩) W := by
  subst hn
  cases A with
  | none =>
    have : l = [] := by
      cases l with
      | nil => rfl
      | cons x t => obtain ⟨b, off, e, _⟩ := h 0 (by simp); cases e
    subst this
    exact run_convert_bytes_nil W 22 5 Tryd.underlying22 Tryd.underlying5 0 c 9 Tryd.underlying9
  | some a =>
    refine run_convert_bytes_back W 22 9 5 a c l Tryd.underlying22 Tryd.underlying5 Tryd.underlying9 (fun j hj => ?_)
    obtain ⟨b, off, e, _, hc⟩ := h j hj
    cases e
    have hadd : (⟨b, off, none⟩ : Addr).add j = ⟨b, off + j, none⟩ := by unfold Addr.add; split <;> simp_all
    rw [hadd, hc]

set_option maxHeartbeats 400000 in
theorem l01Rune_out (A : Option Addr) (l : List UInt8) (c : Nat) (at_ : Int) (w : World) (h : at_ < 0 ∨ (l.length : Int) ≤ at_) :
    Calls Tryd.prog 124 #[.slice A l.length c, .int .i64 at_] w fun e w' => e = .returned (.tuple #[.int .i64 (-1), .int .i64 0]) ∧ Below w.heap.size w w' := by
  go_enter Tryd.func124, Tryd.ntmps124
  go_wp2
  all_goals go_ret2
  all_goals exact ⟨rfl, Below.refl _ _⟩

end Go.Proofs.YtfgbipomdfceeaaDoor
