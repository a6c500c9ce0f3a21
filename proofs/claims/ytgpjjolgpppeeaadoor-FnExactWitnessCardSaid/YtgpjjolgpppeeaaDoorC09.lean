/-
  Chapter 7, the laws' helpers on leases: contracts (sizes, copies, equality). Own work.
-/
import Derived.Test.YtgpjjolgpppeeaaDoorP10
import Derived.Test.YtgpjjolgpppeeaaDoorSnoc
import Derived.Test.YtgpjjolgpppeeaaDoorBlk
import Derived.Test.YtgpjjolgpppeeaaDoorBs
import Derived.Test.YtgpjjolgpppeeaaDoorMark
namespace Go.Proofs.YtgpjjolgpppeeaaDoor
open Go.RowKit P
set_option linter.unusedVariables false
set_option linter.unusedSimpArgs false
set_option maxRecDepth 100000

def isI (x : Int) : Prop := -9223372036854775808 ≤ x ∧ x ≤ 9223372036854775807
/-- A lease in cells. -/
def Lay.lease : Lay Le := Lay.pair Lay.int (Lay.pair Lay.int (Lay.pair Lay.int Lay.int))
def leC (l : Le) : Array Value := #[.int .i64 l.1, .int .i64 l.2.1, .int .i64 l.2.2.1, .int .i64 l.2.2.2]
def leIn (l : Le) : Prop := isI l.1 ∧ isI l.2.1 ∧ isI l.2.2.1 ∧ isI l.2.2.2

theorem Lay.lease_rd {w : World} {cs : List Value} {l : Le} (h : Lay.lease.rd w cs l) : cs = (leC l).toList ∧ leIn l := by
  obtain ⟨c1, c2, rfl, ⟨rfl, h1⟩, c3, c4, rfl, ⟨rfl, h2⟩, c5, c6, rfl, ⟨rfl, h3⟩, rfl, h4⟩ := h
  exact ⟨rfl, h1, h2, h3, h4⟩
theorem own_lease (w : World) {l : Le} (h : leIn l) : Lay.lease.ow w (leC l).toList l [] :=
  ⟨[.int .i64 l.1], _, [], [], rfl, ⟨rfl, h.1, rfl⟩, ⟨[.int .i64 l.2.1], _, [], [], rfl, ⟨rfl, h.2.1, rfl⟩, ⟨[.int .i64 l.2.2.1], [.int .i64 l.2.2.2], [], [], rfl, ⟨rfl, h.2.2.1, rfl⟩, ⟨rfl, h.2.2.2, rfl⟩, rfl⟩, rfl⟩, rfl⟩
theorem ow_lease {w : World} {cs : List Value} {l : Le} {fp : List Nat} (h : Lay.lease.ow w cs l fp) : cs = (leC l).toList ∧ leIn l ∧ fp = [] := by
  obtain ⟨c1, c2, f1, f2, rfl, ⟨rfl, h1, rfl⟩, ⟨c3, c4, f3, f4, rfl, ⟨rfl, h2, rfl⟩, ⟨c5, c6, f5, f6, rfl, ⟨rfl, h3, rfl⟩, ⟨rfl, h4, rfl⟩, rfl⟩, rfl⟩, rfl⟩ := h
  exact ⟨rfl, ⟨h1, h2, h3, h4⟩, rfl⟩

/-- The slice of leases that starts at A. -/
def Ll (w : World) (A : Option Addr) (es : List Le) : Prop := Sl 4 Lay.lease.rd w A es
theorem Ll.below {w w' : World} {A : Option Addr} {es : List Le} (h : Ll w A es) (hb : Below w.heap.size w w') : Ll w' A es := Sl.below (E := Lay.lease) h hb
theorem Ll.at_ {w : World} {A : Option Addr} {es : List Le} (h : Ll w A es) (k : Nat) (hk : k < es.length) :
    ∃ b off i j s t, A = some ⟨b, off, none⟩ ∧ b < w.heap.size ∧ es[k] = (i, j, s, t) ∧ w.cell? ⟨b, off + k * 4, none⟩ = some (.int .i64 i) ∧ w.cell? ⟨b, off + k * 4 + 1, none⟩ = some (.int .i64 j) ∧ w.cell? ⟨b, off + k * 4 + 2, none⟩ = some (.int .i64 s) ∧ w.cell? ⟨b, off + k * 4 + 3, none⟩ = some (.int .i64 t) ∧ leIn (i, j, s, t) := by
  obtain ⟨b, off, us, hA, hlt, hus, hc, hr⟩ := h k hk
  obtain ⟨⟨i, j, s, t⟩, he⟩ : ∃ e, es[k] = e := ⟨_, rfl⟩
  rw [he] at hr
  obtain ⟨rfl, hin⟩ := Lay.lease_rd hr
  refine ⟨b, off, i, j, s, t, hA, hlt, he, ?_, ?_, ?_, ?_, hin⟩
  · have := hc 0 (by simp [leC]); simpa [leC] using this
  · have := hc 1 (by simp [leC]); simpa [leC, Nat.add_assoc] using this
  · have := hc 2 (by simp [leC]); simpa [leC, Nat.add_assoc] using this
  · have := hc 3 (by simp [leC]); simpa [leC, Nat.add_assoc] using this

theorem Keeps.put {fp : List Nat} {w w' : World} (h : Keeps fp w w') {g : Nat} (hg : g ∈ fp) (i : Nat) (u : Value) : Keeps fp w (w'.setCell ⟨g, i, none⟩ u) :=
  ⟨h.os, h.tape, h.output, by simpa using h.size, fun k hk hn => (Below.heap_setCell _ _ _ _ (fun e => hn (by rw [show k = g by simpa using e]; exact hg))).trans (h.block k hk hn)⟩

end Go.Proofs.YtgpjjolgpppeeaaDoor
