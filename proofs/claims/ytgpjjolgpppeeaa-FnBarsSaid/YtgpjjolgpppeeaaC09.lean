/-
  Chapter 7, the laws' helpers on leases: contracts (sizes, copies, equality). Own work.
-/
import Derived.Test.YtgpjjolgpppeeaaP10
import Derived.Test.YtgpjjolgpppeeaaSnoc
import Derived.Test.YtgpjjolgpppeeaaBlk
import Derived.Test.YtgpjjolgpppeeaaBs
import Derived.Test.YtgpjjolgpppeeaaMark
namespace Go.Proofs.Ytgpjjolgpppeeaa
open Go.RowKit P
set_option linter.unusedVariables false
set_option linter.unusedSimpArgs false
set_option maxRecDepth 100000

def isI (x : Int) : Prop := -9223372036854775808 ≤ x ∧ x ≤ 9223372036854775807
/-- A lease in cells. -/
def Lay.lease : Lay Le := Lay.pair Lay.int (Lay.pair Lay.int (Lay.pair Lay.int Lay.int))
def Lay.leases : Lay (List Le) := Lay.slice 43 Lay.lease
def leC (l : Le) : Array Value := #[.int .i64 l.1, .int .i64 l.2.1, .int .i64 l.2.2.1, .int .i64 l.2.2.2]
def leIn (l : Le) : Prop := isI l.1 ∧ isI l.2.1 ∧ isI l.2.2.1 ∧ isI l.2.2.2

theorem Lay.lease_rd {w : World} {cs : List Value} {l : Le} (h : Lay.lease.rd w cs l) : cs = (leC l).toList ∧ leIn l := by
  obtain ⟨c1, c2, rfl, ⟨rfl, h1⟩, c3, c4, rfl, ⟨rfl, h2⟩, c5, c6, rfl, ⟨rfl, h3⟩, rfl, h4⟩ := h
  exact ⟨rfl, h1, h2, h3, h4⟩
theorem own_lease (w : World) {l : Le} (h : leIn l) : Lay.lease.ow w (leC l).toList l [] :=
  ⟨[.int .i64 l.1], _, [], [], rfl, ⟨rfl, h.1, rfl⟩, ⟨[.int .i64 l.2.1], _, [], [], rfl, ⟨rfl, h.2.1, rfl⟩, ⟨[.int .i64 l.2.2.1], [.int .i64 l.2.2.2], [], [], rfl, ⟨rfl, h.2.2.1, rfl⟩, ⟨rfl, h.2.2.2, rfl⟩, rfl⟩, rfl⟩, rfl⟩
theorem ow_lease {w : World} {cs : List Value} {l : Le} {fp : List Nat} (h : Lay.lease.ow w cs l fp) : cs = (leC l).toList ∧ leIn l ∧ fp = [] := by
  obtain ⟨c1, c2, f1, f2, rfl, ⟨rfl, h1, rfl⟩, ⟨c3, c4, f3, f4, rfl, ⟨rfl, h2, rfl⟩, ⟨c5, c6, f5, f6, rfl, ⟨rfl, h3, rfl⟩, ⟨rfl, h4, rfl⟩, rfl⟩, rfl⟩, rfl⟩ := h
  exact ⟨rfl, ⟨h1, h2, h3, h4⟩, rfl⟩

/-- The slice of leases that starts at A. -/
def Ll (w : World) (A : Option Addr) (es : List Le) : Prop := Sl 4 Lay.lease.rd w A es
theorem Ll.below {w w' : World} {A : Option Addr} {es : List Le} (h : Ll w A es) (hb : Below w.heap.size w w') : Ll w' A es := Sl.below (E := Lay.lease) h hb
theorem Ll.at_ {w : World} {A : Option Addr} {es : List Le} (h : Ll w A es) (k : Nat) (hk : k < es.length) :
    ∃ b off i j s t, A = some ⟨b, off, none⟩ ∧ b < w.heap.size ∧ es[k] = (i, j, s, t) ∧ w.cell? ⟨b, off + k * 4, none⟩ = some (.int .i64 i) ∧ w.cell? ⟨b, off + k * 4 + 1, none⟩ = some (.int .i64 j) ∧ w.cell? ⟨b, off + k * 4 + 2, none⟩ = some (.int .i64 s) ∧ w.cell? ⟨b, off + k * 4 + 3, none⟩ = some (.int .i64 t) ∧ leIn (i, j, s, t) := by
  obtain ⟨b, off, us, hA, hlt, hus, hc, hr⟩ := h k hk
  obtain ⟨⟨i, j, s, t⟩, he⟩ : ∃ e, es[k] = e := ⟨_, rfl⟩
  rw [he] at hr
  obtain ⟨rfl, hin⟩ := Lay.lease_rd hr
  refine ⟨b, off, i, j, s, t, hA, hlt, he, ?_, ?_, ?_, ?_, hin⟩
  · have := hc 0 (by simp [leC]); simpa [leC] using this
  · have := hc 1 (by simp [leC]); simpa [leC, Nat.add_assoc] using this
  · have := hc 2 (by simp [leC]); simpa [leC, Nat.add_assoc] using this
  · have := hc 3 (by simp [leC]); simpa [leC, Nat.add_assoc] using this

theorem Try.infoLe : (Try.prog.info? 43).map (fun i => (i.zero, i.size, i.bytes)) = some (some (.agg #[.int .i64 0, .int .i64 0, .int .i64 0, .int .i64 0]), 4, 32) := by kernel_rfl

theorem Keeps.put {fp : List Nat} {w w' : World} (h : Keeps fp w w') {g : Nat} (hg : g ∈ fp) (i : Nat) (u : Value) : Keeps fp w (w'.setCell ⟨g, i, none⟩ u) :=
  ⟨h.os, h.tape, h.output, by simpa using h.size, fun k hk hn => (Below.heap_setCell _ _ _ _ (fun e => hn (by rw [show k = g by simpa using e]; exact hg))).trans (h.block k hk hn)⟩

/-- A list of leases of the call's own, in the blocks fp. -/
structure OwL (w : World) (base : Nat) (A : Option Addr) (es : List Le) (c : Nat) (fp : List Nat) : Prop where
  ow : Lay.leases.ow w [.slice A es.length c] es fp
  nd : fp.Nodup
  lo : ∀ k ∈ fp, base ≤ k
theorem OwL.range {w : World} {base : Nat} {A : Option Addr} {es : List Le} {c : Nat} {fp : List Nat} (h : OwL w base A es c fp) : ∀ k ∈ fp, base ≤ k ∧ k < w.heap.size := fun k hk => ⟨h.lo k hk, Lay.leases.lt h.ow k hk⟩
theorem OwL.below {w w' : World} {base : Nat} {A : Option Addr} {es : List Le} {c : Nat} {fp : List Nat} (h : OwL w base A es c fp) (hb : Below w.heap.size w w') : OwL w' base A es c fp := ⟨Lay.leases.owBelow h.ow hb, h.nd, h.lo⟩
theorem OwL.keeps {w w' : World} {base : Nat} {A : Option Addr} {es : List Le} {c : Nat} {fp fq : List Nat} (h : OwL w base A es c fp) (hk : Keeps fq w w') (hd : ∀ k ∈ fp, k ∉ fq) : OwL w' base A es c fp := ⟨Lay.leases.keeps h.ow hk hd, h.nd, h.lo⟩
theorem OwL.ll {w : World} {base : Nat} {A : Option Addr} {es : List Le} {c : Nat} {fp : List Nat} (h : OwL w base A es c fp) : Ll w A es := by
  obtain ⟨A', c', e, _, _, hs⟩ := Lay.leases.read h.ow
  simp only [List.cons.injEq, Value.slice.injEq, and_true] at e
  rw [e.1]
  exact hs
theorem OwL.cap {w : World} {base : Nat} {A : Option Addr} {es : List Le} {c : Nat} {fp : List Nat} (h : OwL w base A es c fp) : es.length ≤ c ∧ c ≤ maxLen := by
  obtain ⟨A', c', e, h1, h2, hs⟩ := Lay.leases.read h.ow
  simp only [List.cons.injEq, Value.slice.injEq, and_true] at e
  rw [e.2.2]
  exact ⟨h1, h2⟩
theorem gives_leases {es : List Le} {w : World} {e : Ending} {w' : World} (h : Gives Lay.leases wSlice es w e w') :
    ∃ A c fp, e = .returned (.slice A es.length c) ∧ OwL w' w.heap.size A es c fp ∧ Below w.heap.size w w' := by
  obtain ⟨cs, fp, he, how, hn, hb, hbel⟩ := h
  obtain ⟨A, c, rfl, _, _, _⟩ := Lay.leases.read how
  exact ⟨A, c, fp, he, ⟨how, hn, hb⟩, hbel⟩

end Go.Proofs.Ytgpjjolgpppeeaa
