/-
  Chapter 1, the model's decoding: contracts. Own work.
  Chapter 1, the model's decoding by forms: contracts (made by tools/gen_s01.py). Own work.
  Chapter 1, the model's l01Rune whole, RuneSize, RuneAt: contracts. Own work.
  Chapter 1, the model's l01Cuts and what is read off it: contracts. Own work.
  Chapter 1, the model's TextOk, RuneCount, PlaceOf, RunesTo, CutOk: contracts. Own work.
-/
import Derived.Test.YtgbmobepnhhldaaI01f
import Derived.Laws.IdiomStrings
import Derived.Deep.RegionWith
namespace Go.Proofs.Ytgbmobepnhhldaa
open Go.RowKit P
set_option linter.unusedVariables false

theorem run_conv_bs {W : World} {A : Option Addr} {l : List UInt8} (c n : Nat) (hn : n = l.length) (h : Bs W A l) :
    (convert 22 9 (.slice A n c)).run Try.prog W = .ok (.string ⟨l.toArray⟩) W := by
  subst hn
  cases A with
  | none =>
    have : l = [] := by
      cases l with
      | nil => rfl
      | cons x t => obtain ⟨b, off, e, _⟩ := h 0 (by simp); cases e
    subst this
    exact run_convert_bytes_nil W 22 5 Try.underlying22 Try.underlying5 0 c 9 Try.underlying9
  | some a =>
    refine run_convert_bytes_back W 22 9 5 a c l Try.underlying22 Try.underlying5 Try.underlying9 (fun j hj => ?_)
    obtain ⟨b, off, e, _, hc⟩ := h j hj
    cases e
    have hadd : (⟨b, off, none⟩ : Addr).add j = ⟨b, off + j, none⟩ := by unfold Addr.add; split <;> simp_all
    rw [hadd, hc]

end Go.Proofs.Ytgbmobepnhhldaa

namespace Go.Proofs.Ytgbmobepnhhldaa
open Go.RowKit P
set_option linter.unusedVariables false

end Go.Proofs.Ytgbmobepnhhldaa

namespace Go.Proofs.Ytgbmobepnhhldaa
open Go.RowKit P
set_option linter.unusedVariables false

theorem rawSz_bounds (b : Nat) (hb : b < 256) : (rawSz b = 1 ∧ b < 192) ∨ (rawSz b = 2 ∧ 192 ≤ b ∧ b < 224) ∨ (rawSz b = 3 ∧ 224 ≤ b ∧ b < 240) ∨ (rawSz b = 4 ∧ 240 ≤ b) := by
  unfold rawSz
  (repeat' split) <;> omega

theorem tup2 {a b c d : Int} (h1 : a = c) (h2 : b = d) : Ending.returned (.tuple #[.int .i64 a, .int .i64 b]) = .returned (.tuple #[.int .i64 c, .int .i64 d]) := by rw [h1, h2]

end Go.Proofs.Ytgbmobepnhhldaa

namespace Go.Proofs.Ytgbmobepnhhldaa
open Go.RowKit P
set_option linter.unusedVariables false

def nV (n : Nat) : Value := .int .i64 (n : Int)

/-- v is a slice of ints of the call's own that holds the numbers l. -/
def OwnN (w : World) (base : Nat) (v : Value) (l : List Nat) : Prop := w.ownsRow base 3 1 v l.length (l.map nV)

theorem OwnN.form {w : World} {base : Nat} {v : Value} {l : List Nat} (h : OwnN w base v l) : ∃ A c, v = .slice A l.length c ∧ l.length ≤ c ∧ c ≤ maxLen ∧
    ∀ k (hk : k < l.length), ∃ b off, A = some ⟨b, off, none⟩ ∧ w.cell? ⟨b, off + k, none⟩ = some (.int .i64 ((l[k] : Nat) : Int)) := by
  obtain ⟨h1, h2⟩ := h
  rcases h2 with ⟨rfl, h0⟩ | ⟨g, cap, cur, rfl, hb, hh, hn, hc, hs, ht⟩
  · have : l = [] := List.eq_nil_of_length_eq_zero h0
    subst this
    exact ⟨none, 0, rfl, Nat.le_refl _, by unfold maxLen; omega, fun k hk => by simp at hk⟩
  · refine ⟨_, cap, rfl, hn, hc, fun k hk => ⟨g, 0, rfl, ?_⟩⟩
    rw [Nat.zero_add, cell_of_row w g k cur _ (0, 0) hh]
    have h3 : (cur.toList.take (l.length * 1))[k]? = (l.map nV)[k]? := by rw [ht]
    rw [List.getElem?_take, if_pos (by omega)] at h3
    simp only [Array.getElem?_toList] at h3
    rw [h3]
    simp [hk, nV]

theorem OwnN.below {w w' : World} {base : Nat} {v : Value} {l : List Nat} (h : OwnN w base v l) (hb : Below w.heap.size w w') : OwnN w' base v l :=
  World.ownsRow.kept (w' := w') (row := none) h ⟨hb.os, hb.tape, hb.output, hb.size, fun k hk _ => hb.block k hk⟩ (by cases hv : v.ownBlock <;> simp)

theorem Try.infoI : (Try.prog.info? 3).map (fun i => (i.zero, i.size, i.bytes)) = some (some (.int .i64 0), 1, 8) := by kernel_rfl

theorem one_new {w : World} {t : TypeId} {u : Value} : ∀ j x, ([u] : List Value)[j]? = some x → (w.alloc (.cells #[u] t)).cell? ((⟨w.heap.size, 0, none⟩ : Addr).add j) = some x := by
  intro j x hx
  match j, hx with
  | 0, hx =>
    simp only [List.getElem?_cons_zero, Option.some.injEq] at hx
    subst hx
    rw [show (⟨w.heap.size, 0, none⟩ : Addr).add 0 = ⟨w.heap.size, 0, none⟩ from rfl, World.cell?_alloc_at _ _ _ _ rfl]
    rfl

theorem filter_len (l : List UInt8) (p : Nat) : ((List.range p).filter fun k : Nat => isBound l k).length ≤ p := by
  have := List.length_filter_le (fun k : Nat => isBound l k) (List.range p)
  simpa using this

end Go.Proofs.Ytgbmobepnhhldaa

namespace Go.Proofs.Ytgbmobepnhhldaa
open Go.RowKit P
set_option linter.unusedVariables false

theorem cutsOr_le (l : List UInt8) : (cutsOr l).length ≤ 401 := by
  unfold cutsOr
  split
  · rename_i h
    have h4 : l.length ≤ 400 := by unfold isText at h; simp at h; exact h.1
    rw [cuts_length]
    have := runesBefore_le l l.length
    omega
  · simp

end Go.Proofs.Ytgbmobepnhhldaa
