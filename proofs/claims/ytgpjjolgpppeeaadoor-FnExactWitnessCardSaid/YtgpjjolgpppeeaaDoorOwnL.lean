/-
  A list of anything, of the call's own: what it holds, its blocks and where they lie. Own work.
-/
import Derived.Test.YtgpjjolgpppeeaaDoorLay
import Derived.Test.YtgpjjolgpppeeaaDoorBlk
namespace Go.Proofs.YtgpjjolgpppeeaaDoor
open Go.RowKit P
set_option linter.unusedVariables false

structure OwnL {α : Type} (T : TypeId) (E : Lay α) (w : World) (lo hi : Nat) (A : Option Addr) (es : List α) (c : Nat) (f : List Nat) : Prop where
  ow : (Lay.slice T E).ow w [.slice A es.length c] es f
  nd : f.Nodup
  rg : ∀ k ∈ f, lo ≤ k ∧ k < hi
theorem OwnL.below {α : Type} {T : TypeId} {E : Lay α} {w w' : World} {lo hi : Nat} {A : Option Addr} {es : List α} {c : Nat} {f : List Nat} (h : OwnL T E w lo hi A es c f) (hb : Below w.heap.size w w') : OwnL T E w' lo hi A es c f :=
  ⟨(Lay.slice T E).owBelow h.ow hb, h.nd, h.rg⟩
theorem OwnL.keeps {α : Type} {T : TypeId} {E : Lay α} {w w' : World} {lo hi : Nat} {A : Option Addr} {es : List α} {c : Nat} {f fq : List Nat} (h : OwnL T E w lo hi A es c f) (hk : Keeps fq w w') (hd : ∀ k ∈ f, k ∉ fq) : OwnL T E w' lo hi A es c f :=
  ⟨(Lay.slice T E).keeps h.ow hk hd, h.nd, h.rg⟩
theorem OwnL.sl {α : Type} {T : TypeId} {E : Lay α} {w : World} {lo hi : Nat} {A : Option Addr} {es : List α} {c : Nat} {f : List Nat} (h : OwnL T E w lo hi A es c f) : es.length ≤ c ∧ c ≤ maxLen ∧ Sl E.sz E.rd w A es := by
  obtain ⟨A', c', he, h1, h2, h3⟩ := (Lay.slice T E).read h.ow
  obtain ⟨rfl, rfl⟩ : A = A' ∧ c = c' := by simpa using he
  exact ⟨h1, h2, h3⟩
theorem gives_ownL {α : Type} {T : TypeId} {E : Lay α} {es : List α} {w : World} {e : Ending} {w' : World} (h : Gives (Lay.slice T E) wSlice es w e w') : ∃ A c f, e = .returned (.slice A es.length c) ∧ OwnL T E w' w.heap.size w'.heap.size A es c f ∧ Below w.heap.size w w' := by
  obtain ⟨cs, f, rfl, how, hnd, hlo, hb⟩ := h
  obtain ⟨A, c, hcs, h1, h2, h3⟩ := (Lay.slice T E).read how
  subst hcs
  exact ⟨A, c, f, rfl, ⟨how, hnd, fun k hk => ⟨hlo k hk, (Lay.slice T E).lt how k hk⟩⟩, hb⟩
end Go.Proofs.YtgpjjolgpppeeaaDoor
