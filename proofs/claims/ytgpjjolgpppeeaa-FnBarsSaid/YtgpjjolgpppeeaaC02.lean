/-
  Chapter 2, the laws' helpers on chunks: contracts. Own work.
-/
import Derived.Test.YtgpjjolgpppeeaaLay
import Derived.Test.YtgpjjolgpppeeaaSz
import Derived.Test.YtgpjjolgpppeeaaMark
import Derived.Test.YtgpjjolgpppeeaaP02
import Derived.Deep.RegionWith
namespace Go.Proofs.Ytgpjjolgpppeeaa
open Go.RowKit P
set_option linter.unusedVariables false

/-- What a reading of a slice of bytes gives. -/
theorem bRd_slice {w : World} {v : Value} {l : List UInt8} (h : bRd w [v] l) : ∃ A c, v = .slice A l.length c ∧ l.length ≤ c ∧ c ≤ maxLen ∧ Bs w A l := by
  obtain ⟨A, c, e, h⟩ := h
  cases e
  exact ⟨A, c, rfl, h⟩

/-- The slice of chunks that starts at A. -/
def Cs (w : World) (A : Option Addr) (ls : List (List UInt8)) : Prop := Sl 1 bRd w A ls
theorem Cs.below {w w' : World} {A : Option Addr} {ls : List (List UInt8)} (h : Cs w A ls) (hb : Below w.heap.size w w') : Cs w' A ls := Sl.below (E := Lay.bytes) h hb
theorem Cs.at_ {w : World} {A : Option Addr} {ls : List (List UInt8)} (h : Cs w A ls) (k : Nat) (hk : k < ls.length) :
    ∃ b off B c, A = some ⟨b, off, none⟩ ∧ b < w.heap.size ∧ w.cell? ⟨b, off + k, none⟩ = some (.slice B (ls[k]).length c) ∧ (ls[k]).length ≤ c ∧ c ≤ maxLen ∧ Bs w B ls[k] := by
  obtain ⟨b, off, v, hA, hb, hc, hr⟩ := Sl.at1 h k hk
  obtain ⟨B, c, rfl, h1, h2, h3⟩ := bRd_slice hr
  exact ⟨b, off, B, c, hA, hb, hc, h1, h2, h3⟩

def tot (ls : List (List UInt8)) : Nat := ls.flatten.length
theorem tot_take (ls : List (List UInt8)) (k : Nat) (h : k < ls.length) : tot (ls.take (k + 1)) = tot (ls.take k) + (ls[k]).length := by
  unfold tot; rw [flat_snoc ls k h, List.length_append]
theorem tot_all (ls : List (List UInt8)) : tot (ls.take ls.length) = tot ls := by rw [List.take_length]
theorem tot_mem {ls : List (List UInt8)} (k : Nat) (h : k < ls.length) : (ls[k]).length ≤ tot ls := by
  have h1 := tot_take ls k h
  have h2 : ls.flatten = (ls.take (k + 1)).flatten ++ (ls.drop (k + 1)).flatten := by rw [← List.flatten_append, List.take_append_drop]
  have h3 : tot ls = tot (ls.take (k + 1)) + tot (ls.drop (k + 1)) := by unfold tot; rw [← List.length_append, ← h2]
  omega

/-- One chunk more in a new row of chunks that is being filled. -/
theorem Cs_of {w : World} {g : Nat} {ls : List (List UInt8)} (h : ∀ k (hk : k < ls.length), ∃ v, w.cell? ⟨g, k, none⟩ = some v ∧ bRd w [v] ls[k]) (hg : g < w.heap.size) : Cs w (some ⟨g, 0, none⟩) ls := by
  intro k hk
  obtain ⟨v, hc, hr⟩ := h k hk
  refine ⟨g, 0, [v], rfl, hg, rfl, fun j hj => ?_, hr⟩
  have : j = 0 := by simpa using hj
  subst this
  simpa using hc

end Go.Proofs.Ytgpjjolgpppeeaa
