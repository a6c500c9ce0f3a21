/-
  Chapter 2, ChunksOk of the program and of the model: contracts. Own work.
-/
import Derived.Test.YtgpjjolgpppeeaaI02c
namespace Go.Proofs.Ytgpjjolgpppeeaa
open Go.RowKit P
set_option linter.unusedVariables false
set_option maxRecDepth 100000

theorem all_take (ls : List (List UInt8)) (k : Nat) (h : k < ls.length) : (ls.take (k + 1)).all chunkOk = ((ls.take k).all chunkOk && chunkOk ls[k]) := by
  rw [List.take_succ_eq_append_getElem h, List.all_append]; simp

theorem not_all {ls : List (List UInt8)} {k : Nat} (h : k < ls.length) (hc : chunkOk ls[k] = false) : chunksOk ls = false := by
  unfold chunksOk
  have : ls.all chunkOk = false := by
    rw [List.all_eq_false]
    exact ⟨ls[k], List.getElem_mem h, by simp [hc]⟩
  rw [this]; rfl

theorem chunkOk_len {l : List UInt8} (h : chunkOk l = true) : 1 ≤ l.length ∧ l.length ≤ 16 := ⟨((chunkOk_iff l).1 h).1, ((chunkOk_iff l).1 h).2.1⟩

theorem mB_ok {l : List UInt8} (h : chunkOk l = true) : mB l = l.length := by unfold mB; rw [if_pos ((chunkOk_iff l).1 h).2.2]

end Go.Proofs.Ytgpjjolgpppeeaa
