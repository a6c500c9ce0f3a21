/-
  Chapter 2, the program's MeasOf, and the model's: contracts. Own work.
-/
import Derived.Test.YtgpjjolgpppeeaaC02
import Derived.Shelf.Bytes.SlCountOne
import Derived.Test.YtgpjjolgpppeeaaI01
import Derived.Test.YtgpjjolgpppeeaaS01
namespace Go.Proofs.Ytgpjjolgpppeeaa
open Go.RowKit P
set_option linter.unusedVariables false
set_option maxRecDepth 100000

/-- What a call that returns a measure ends in. -/
def meas (b r n : Int) : Value := .agg #[.int .i64 b, .int .i64 r, .int .i64 n]

theorem count_list (l : List UInt8) (x : UInt8) (n : Nat) : (l.foldl (fun n y => if y == x then n + 1 else n) n) = n + l.count x := by
  induction l generalizing n with
  | nil => simp
  | cons a t ih =>
    rw [List.foldl_cons, ih, List.count_cons]
    split <;> omega

theorem run_count (w : World) (A : Option Addr) (l : List UInt8) (c : Nat) (hA : Bs w A l) : (Extern.BytealgCount.count #[.slice A l.length c, .int .u8 10]).run Try.prog w = .ok (.int .i64 (lines l)) w := by
  cases A with
  | none =>
    have h0 : l = [] := by
      cases l with
      | nil => rfl
      | cons x t => obtain ⟨b, off, e, _⟩ := hA 0 (by simp); cases e
    subst h0
    exact Lib.run_countNil w 0 c 10
  | some a =>
    have := Lib.run_countAt (P := Try.prog) w a l.length c (l.map fun x => (x.toNat : Int)) (by simp) (fun i hi => by
      obtain ⟨b, off, e, _, hc⟩ := hA i hi
      cases e
      rw [add_plain, hc]
      simp [List.getD, hi]) 10
    rw [this]
    congr 3
    unfold Lib.countByte Lib.bytesOf lines
    rw [List.map_map]
    have e : ((fun n : Int => UInt8.ofNat n.toNat) ∘ fun x : UInt8 => (x.toNat : Int)) = id := by
      funext x
      simp
    rw [e, List.map_id]
    rfl

end Go.Proofs.Ytgpjjolgpppeeaa
