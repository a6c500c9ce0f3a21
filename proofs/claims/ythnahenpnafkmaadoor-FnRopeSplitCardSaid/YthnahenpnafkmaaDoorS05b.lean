/-
  Chapter 4, the model's RopeJoin: contract. Own work.
-/
import Derived.Test.YthnahenpnafkmaaDoorS05
import Derived.Deep.RegionHeld3
namespace Go.Proofs.YthnahenpnafkmaaDoor
open Go.RowKit P
set_option linter.unusedVariables false
set_option linter.unusedSimpArgs false
set_option maxRecDepth 100000

def joinOk (ls rs : List (List UInt8)) : Bool := chunksOk ls && (chunksOk rs && decide ((chunksText ls).length + (chunksText rs).length ≤ 400))
def joinR (ls rs : List (List UInt8)) : List (List UInt8) := if joinOk ls rs = true then ls ++ rs else []

/-- What stands in memory when RopeJoin of the model begins. -/
structure JIn (w W : World) (A B : Option Addr) (ls rs : List (List UInt8)) (c d : Nat) : Prop where
  bel : Below w.heap.size w W
  k0 : W.cell? ⟨w.heap.size, 0, none⟩ = some (.slice A ls.length c)
  k1 : W.cell? ⟨w.heap.size + 1, 0, none⟩ = some (.slice B rs.length d)
  res : Blk W (w.heap.size + 2) #[.slice none 0 0] 26
  l : Cs W A ls
  r : Cs W B rs
theorem JIn.below {w W W' : World} {A B : Option Addr} {ls rs : List (List UInt8)} {c d : Nat} (h : JIn w W A B ls rs c d) (hb : Below W.heap.size W W') : JIn w W' A B ls rs c d := by
  have hz := h.res.lt
  exact ⟨below_then h.bel hb, (hb.cell (p := ⟨w.heap.size, 0, none⟩) (by show w.heap.size < _; omega)).trans h.k0, (hb.cell (p := ⟨w.heap.size + 1, 0, none⟩) (by show w.heap.size + 1 < _; omega)).trans h.k1, h.res.below hb, h.l.below hb, h.r.below hb⟩
theorem JIn.start (w : World) (A B : Option Addr) (ls rs : List (List UInt8)) (c d : Nat) (hC : Cs w A ls) (hD : Cs w B rs) :
    JIn w (((w.alloc (.cells #[.slice A ls.length c] 26)).alloc (.cells #[.slice B rs.length d] 26)).alloc (.cells #[.slice none 0 0] 26)) A B ls rs c d := by
  have hb := (((Below.refl w.heap.size w).alloc (Nat.le_refl _) (.cells #[.slice A ls.length c] 26)).alloc (by simp) (.cells #[.slice B rs.length d] 26)).alloc (by simp; omega) (.cells #[.slice none 0 0] 26)
  refine ⟨hb, ?_, ?_, ?_, hC.below hb, hD.below hb⟩
  · exact (((Blk.new w #[.slice A ls.length c] 26).alloc _).alloc _).cell 0
  · have := ((Blk.new (w.alloc (.cells #[.slice A ls.length c] 26)) #[.slice B rs.length d] 26).alloc (.cells #[.slice none 0 0] 26)).cell 0
    simpa using this
  · have := Blk.new ((w.alloc (.cells #[.slice A ls.length c] 26)).alloc (.cells #[.slice B rs.length d] 26)) #[.slice none 0 0] 26
    simpa using this

theorem joinR_no {ls rs : List (List UInt8)} (h : joinOk ls rs = false) : joinR ls rs = [] := by unfold joinR; rw [h]; rfl
theorem givesRB_no {w w1 : World} {b : Nat} (hb : Below w.heap.size w w1) (h : w.heap.size ≤ b) : GivesRB [] false w (.returned (.tuple #[.agg #[.slice none 0 0], .bool false])) (w1.setCell ⟨b, 0, none⟩ (.slice none 0 0)) :=
  ⟨_, [], rfl, Lay.slice_nil _ _ _, by simp, by simp, hb.setCell h _⟩

end Go.Proofs.YthnahenpnafkmaaDoor
