/-
  Chapter 2, ChunksText of the program and of the model: contracts. Own work.
-/
import Derived.Test.YtgpjjolgpppeeaaI02d
import Derived.Test.YtgpjjolgpppeeaaI01f
namespace Go.Proofs.Ytgpjjolgpppeeaa
open Go.RowKit P
set_option linter.unusedVariables false
set_option maxRecDepth 100000

theorem tot_take_le (ls : List (List UInt8)) (k : Nat) : tot (ls.take k) ≤ tot ls := by
  have h2 : ls.flatten = (ls.take k).flatten ++ (ls.drop k).flatten := by rw [← List.flatten_append, List.take_append_drop]
  unfold tot
  rw [h2, List.length_append]
  omega
theorem chunksOk_tot {ls : List (List UInt8)} (h : chunksOk ls = true) : tot ls ≤ 400 := (chunksOk_all h).2
theorem chunksText_len (L : List (List UInt8)) : (chunksText L).length ≤ 400 := by
  unfold chunksText
  split
  · rename_i h; exact chunksOk_tot h
  · simp

end Go.Proofs.Ytgpjjolgpppeeaa
