/-
  Bytes in memory: the predicate and its frame lemmas. Own work.
-/
import Derived.Test.YtgpjjolgpppeeaaDoorRows
import Derived.Handy
import Derived.WalkSpells
import Derived.Deep.OwnRows
import Derived.Deep.QuietTactic
import Derived.BigQuiet
import Derived.Lib.Hide
namespace Go.Proofs.YtgpjjolgpppeeaaDoor
namespace P
end P
open Go.RowKit
set_option linter.unusedVariables false

theorem ret_int {k : IntKind} {a b : Int} (h : a = b) : Ending.returned (.int k a) = .returned (.int k b) := by rw [h]
theorem ret_bool {a b : Bool} (h : a = b) : Ending.returned (.bool a) = .returned (.bool b) := by rw [h]

/-- The slice that starts at A holds the bytes l. -/
def Bs (w : World) (A : Option Addr) (l : List UInt8) : Prop :=
  ∀ k (h : k < l.length), ∃ b off, A = some ⟨b, off, none⟩ ∧ b < w.heap.size ∧ w.cell? ⟨b, off + k, none⟩ = some (.int .u8 ((l[k]).toNat : Int))

theorem Bs.below {w w' : World} {A : Option Addr} {l : List UInt8} (h : Bs w A l) (hb : Below w.heap.size w w') : Bs w' A l := by
  intro k hk
  obtain ⟨b, off, hA, hlt, hc⟩ := h k hk
  exact ⟨b, off, hA, Nat.lt_of_lt_of_le hlt hb.size, (hb.cell (p := ⟨b, off + k, none⟩) hlt).trans hc⟩

/-- Block B is a new row that holds the bytes l. -/
def Row (w : World) (B : Nat) (l : List UInt8) : Prop := w.rowIs B 5 l.length (fun i => .int .u8 ((l.getD i 0).toNat : Int))

theorem Row.bs {w : World} {B : Nat} {l : List UInt8} (h : Row w B l) : Bs w (some ⟨B, 0, none⟩) l := by
  intro k hk
  refine ⟨B, 0, rfl, h.lt, ?_⟩
  have := World.rowIs.cell h hk
  simpa [hk] using this

theorem Tryd.infoB : (Tryd.prog.info? 5).map (fun i => (i.zero, i.size, i.bytes)) = some (some (.int .u8 0), 1, 1) := by kernel_rfl

end Go.Proofs.YtgpjjolgpppeeaaDoor
