/-
  Chapter 5's draws: an edit of a text. Own work.
  Chapter 5's draws: an edit of a text, mostly one that fits. Own work.
  The draw of EditBack; sameEdit, bytesOf: contracts. Own work.
-/
import Derived.Test.YtdmmdbapkogdhaaCur9
import Derived.Test.YtdmmdbapkogdhaaEB
import Derived.Deep.RegionHeld3
import Derived.Deep.DeepCutAuto
import Derived.Test.YtdmmdbapkogdhaaS01
namespace Go.Proofs.Ytdmmdbapkogdhaa
open Go.RowKit P
set_option linter.unusedVariables false
set_option linter.unusedSimpArgs false
set_option maxRecDepth 100000

/-- What a draw of an edit ends in. -/
def DrawsE (g N : Nat) (w : World) (e : Ending) (w' : World) : Prop :=
  ∃ a m v l, e = .returned (.agg #[.int .i64 a, .int .i64 m, v]) ∧ (-9223372036854775808 ≤ a ∧ a ≤ 9223372036854775807) ∧ (-9223372036854775808 ≤ m ∧ m ≤ 9223372036854775807) ∧ Own w' w.heap.size v l ∧ l.length ≤ 500 ∧ Cur w' g N ∧ Only g w w'

theorem wrap64_bd (x : Int) : -9223372036854775808 ≤ wrap64 x ∧ wrap64 x ≤ 9223372036854775807 := by
  rw [← IntWalk.i64_left, IntKind.wrap_i64]
  omega
/-- A block's cells are what they are, the cursor's block apart. -/
theorem EBox.only {g b : Nat} {w w' : World} {a m : Int} {A : Option Addr} {n c : Nat} (h : EBox w b a m A n c) (ho : Only g w w') (hb : b ≠ g) : EBox w' b a m A n c := ⟨h.blk.only ho hb⟩
theorem EBox.f (i : Nat) {w : World} {b : Nat} {a m : Int} {A : Option Addr} {n c : Nat} (h : EBox w b a m A n c) : w.frozen? ⟨b, i, none⟩ = false := h.blk.frozen i
theorem EBox.set1 {w : World} {b : Nat} {a m : Int} {A : Option Addr} {n c : Nat} (h : EBox w b a m A n c) (x : Int) : EBox (w.setCell ⟨b, 1, none⟩ (.int .i64 x)) b a x A n c := ⟨by simpa using h.blk.set 1 (.int .i64 x)⟩
theorem EBox.set0 {w : World} {b : Nat} {a m : Int} {A : Option Addr} {n c : Nat} (h : EBox w b a m A n c) (x : Int) : EBox (w.setCell ⟨b, 0, none⟩ (.int .i64 x)) b x m A n c := ⟨by simpa using h.blk.set 0 (.int .i64 x)⟩
theorem EBox.set2 {w : World} {b : Nat} {a m : Int} {A : Option Addr} {n c : Nat} (h : EBox w b a m A n c) (B : Option Addr) (k d : Nat) : EBox (w.setCell ⟨b, 2, none⟩ (.slice B k d)) b a m B k d := ⟨by simpa using h.blk.set 2 (.slice B k d)⟩

end Go.Proofs.Ytdmmdbapkogdhaa

namespace Go.Proofs.Ytdmmdbapkogdhaa
open Go.RowKit P
set_option linter.unusedVariables false
set_option linter.unusedSimpArgs false
set_option maxRecDepth 100000

theorem own_zeros (w : World) (n : Nat) (hn : n ≤ 1000) : Own (w.alloc (.cells (madeCells #[.int .u8 0] n) 5)) w.heap.size (.slice (some ⟨w.heap.size, 0, none⟩) n n) (List.replicate n 0) := by
  have h : Row (w.alloc (.cells (madeCells #[.int .u8 0] n) 5)) w.heap.size (List.replicate n (0 : UInt8)) := by
    unfold Row
    rw [List.length_replicate]
    exact (World.rowIs_made w (.int .u8 0) n 5).congr (by intro j hj; simp [List.getD_eq_getElem?_getD, List.getElem?_replicate, hj])
  have := h.own w.heap.size (Nat.le_refl _) (by rw [List.length_replicate]; unfold maxLen; omega)
  rw [List.length_replicate] at this
  exact this

end Go.Proofs.Ytdmmdbapkogdhaa

namespace Go.Proofs.Ytdmmdbapkogdhaa
open Go.RowKit P
set_option linter.unusedVariables false
set_option linter.unusedSimpArgs false
set_option maxRecDepth 100000

/-- What a draw of a text and an edit ends in. -/
def DrawsTE (w : World) (e : Ending) (w' : World) : Prop :=
  ∃ A l c a m B p d, e = .returned (.tuple #[.slice A l.length c, .agg #[.int .i64 a, .int .i64 m, .slice B p.length d]]) ∧ l.length ≤ 401 ∧ l.length ≤ c ∧ c ≤ 9223372036854775807 ∧ Pl A c ∧ Bs w' A l ∧
    (-9223372036854775808 ≤ a ∧ a ≤ 9223372036854775807) ∧ (-9223372036854775808 ≤ m ∧ m ≤ 9223372036854775807) ∧ p.length ≤ 500 ∧ p.length ≤ d ∧ d ≤ 9223372036854775807 ∧ Pl B d ∧ Bs w' B p ∧ Below w.heap.size w w'

set_option maxHeartbeats 2000000 in
theorem sameEdit_any (a m : Int) (A B : Option Addr) (l : List UInt8) (c d : Nat) (w : World) (hA : Bs w A l) (hB : Bs w B l) :
    Calls Try.prog 42 #[.agg #[.int .i64 a, .int .i64 m, .slice A l.length c], .agg #[.int .i64 a, .int .i64 m, .slice B l.length d]] w fun e w' => e = .returned (.bool true) ∧ Below w.heap.size w w' := by
  have hb0 := (((Below.refl w.heap.size w).alloc (Nat.le_refl _) (.cells #[.int .i64 a, .int .i64 m, .slice A l.length c] 30))).alloc (by simp) (.cells #[.int .i64 a, .int .i64 m, .slice B l.length d] 30)
  have e1 : (a == a) = true := by simp
  have e2 : (m == m) = true := by simp
  have hc1 := run_conv_bs c l.length rfl (hA.below hb0)
  have hc2 := run_conv_bs d l.length rfl (hB.below hb0)
  go_enter Try.func42, Try.ntmps42
  go_wp2
  go_ret
  exact ⟨rfl, hb0⟩

set_option maxHeartbeats 1000000 in
theorem bytesOf_any (A : Option Addr) (l : List UInt8) (n c : Nat) (w : World) (hn : n = l.length) (hl : l.length ≤ 1000000) (hA : Bs w A l) :
    Calls Try.prog 54 #[.slice A n c] w (Makes w l) := by
  have hown0 : Own (w.alloc (.cells #[] 5)) w.heap.size (.slice (some ⟨w.heap.size, 0, none⟩) 0 0) [] := World.ownsRow_made w #[] 0 (Nat.le_refl _) (by unfold maxLen; omega) rfl
  have hal := (Below.refl w.heap.size w).alloc (Nat.le_refl _) (.cells #[] 5)
  have hA0 := hA.below hal
  go_enter Try.func54, Try.ntmps54
  go_wp2_with (at_builtin; go_must (refine wpList_app_bytes rfl _ _ rfl w.heap.size _ [] l A n c rfl rfl hn hown0 hA0 ?c1 ?c2 ?_))
  case c1 => simp; omega
  case c2 => simp
  intro v4 w4 hown4 hg4 _
  have hb4 := hal.grown hg4 (by simp) (fun x hx => (World.ownsRow.lt hown0 x hx).1)
  go_wp2
  go_ret
  exact ⟨_, rfl, hown4, hb4⟩
end Go.Proofs.Ytdmmdbapkogdhaa
