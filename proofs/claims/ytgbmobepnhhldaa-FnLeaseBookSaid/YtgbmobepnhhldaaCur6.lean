/-
  The draws' cursor: lists of chunks, with faults, and the draw of FnChunkFor, of FnChunks: contracts. Own work.
  The draws' cursor: lists of chunks with faults, the draws of FnChunkFor and FnChunks: contracts. Own work.
  The draws of FnChunkFor and FnChunks: contracts. Own work.
-/
import Derived.Test.YtgbmobepnhhldaaCur
import Derived.Test.YtgbmobepnhhldaaSnoc
import Derived.Test.YtgbmobepnhhldaaBlk
import Derived.Test.YtgbmobepnhhldaaC02
import Derived.Test.YtgbmobepnhhldaaI02f
import Derived.Lib.SlBytesConst
namespace Go.Proofs.Ytgbmobepnhhldaa
open Go.RowKit P
set_option linter.unusedVariables false

theorem cell_new6 {w : World} {t : TypeId} {u : Value} : ∀ j x, ([u] : List Value)[j]? = some x → (w.alloc (.cells #[u] t)).cell? ((⟨w.heap.size, 0, none⟩ : Addr).add j) = some x := by
  intro j x hx
  match j, hx with
  | 0, hx =>
    simp only [List.getElem?_cons_zero, Option.some.injEq] at hx
    subst hx
    rw [show (⟨w.heap.size, 0, none⟩ : Addr).add 0 = ⟨w.heap.size, 0, none⟩ from rfl, World.cell?_alloc_at _ _ _ _ rfl]
    rfl

/-- A slice of bytes that reads as l, and the block that it lies in. -/
def seenOw (w : World) (cs : List Value) (l : List UInt8) (fp : List Nat) : Prop := ∃ v, cs = [v] ∧ bRd w [v] l ∧ fp = v.ownBlock.toList ∧ ∀ k ∈ fp, k < w.heap.size

def Lay.seen : Lay (List UInt8) where
  sz := 1
  rd := bRd
  ow := seenOw
  len := by rintro w cs x ⟨A, c, rfl, _⟩; rfl
  one := by rintro w cs x ⟨A, c, rfl, _⟩ u hu; simp at hu; subst hu; rfl
  below := by rintro w w' cs x ⟨A, c, rfl, h1, h2, hB⟩ hb; exact ⟨A, c, rfl, h1, h2, hB.below hb⟩
  read := by rintro w cs x fp ⟨v, rfl, h, _⟩; exact h
  lt := by rintro w cs x fp ⟨v, rfl, _, _, h⟩; exact h
  kept := by
    rintro w w' cs x fp ⟨v, rfl, ⟨A, c, e, h1, h2, hB⟩, rfl, h4⟩ hk hs
    cases e
    refine ⟨_, rfl, ⟨A, c, rfl, h1, h2, hB.of_heap hs (fun b off hA _ => hk b (by rw [hA]; simp [Value.ownBlock]))⟩, rfl, fun k hkm => Nat.lt_of_lt_of_le (h4 k hkm) hs⟩

theorem Own.seen {w : World} {base : Nat} {v : Value} {l : List UInt8} (h : Own w base v l) : Lay.seen.ow w [v] l v.ownBlock.toList := by
  refine ⟨v, rfl, ?_, rfl, fun k hk => (h.range k hk).2⟩
  obtain ⟨A, c, rfl, h1, h2, h3⟩ := h.form
  exact ⟨A, c, rfl, h1, h2, h3⟩

theorem Lay.only {α : Type} (L : Lay α) {w w' : World} {g : Nat} {cs : List Value} {x : α} {fp : List Nat} (h : L.ow w cs x fp) (ho : Only g w w') (hg : ∀ k ∈ fp, g < k) : L.ow w' cs x fp :=
  L.kept h (fun k hk => ho.block k (L.lt h k hk) (fun e => by have := hg k hk; injection e with e; omega)) ho.size

end Go.Proofs.Ytgbmobepnhhldaa

namespace Go.Proofs.Ytgbmobepnhhldaa
open Go.RowKit P
set_option linter.unusedVariables false

theorem cell_newg {w : World} {t : TypeId} {u : Value} {g : Nat} (hg : g = w.heap.size) : ∀ j x, ([u] : List Value)[j]? = some x → (w.alloc (.cells #[u] t)).cell? ((⟨g, 0, none⟩ : Addr).add j) = some x := by
  subst hg; exact cell_new6

/-- The bytes of the text's constant, sixteen letters a. -/
theorem aRow (w : World) (f : Nat × Nat) : Lay.seen.ow (w.alloc (.cells #[.int .u8 97, .int .u8 97, .int .u8 97, .int .u8 97, .int .u8 97, .int .u8 97, .int .u8 97, .int .u8 97, .int .u8 97, .int .u8 97, .int .u8 97, .int .u8 97, .int .u8 97, .int .u8 97, .int .u8 97, .int .u8 97] 5 f)) [.slice (some ⟨w.heap.size, 0, none⟩) 16 16] (List.replicate 16 97) [w.heap.size] := by
  refine ⟨_, rfl, ⟨_, 16, rfl, by simp, by unfold maxLen; omega, fun k hk => ⟨w.heap.size, 0, rfl, by simp, ?_⟩⟩, rfl, by intro k hk; simp at hk; subst hk; simp⟩
  have hk' : k < 16 := by simpa using hk
  have hh : (w.alloc (.cells #[.int .u8 97, .int .u8 97, .int .u8 97, .int .u8 97, .int .u8 97, .int .u8 97, .int .u8 97, .int .u8 97, .int .u8 97, .int .u8 97, .int .u8 97, .int .u8 97, .int .u8 97, .int .u8 97, .int .u8 97, .int .u8 97] 5 f)).heap[w.heap.size]? = some (.cells #[.int .u8 97, .int .u8 97, .int .u8 97, .int .u8 97, .int .u8 97, .int .u8 97, .int .u8 97, .int .u8 97, .int .u8 97, .int .u8 97, .int .u8 97, .int .u8 97, .int .u8 97, .int .u8 97, .int .u8 97, .int .u8 97] 5 f) := heap_alloc_new w _
  rw [Nat.zero_add, cell_of_row _ w.heap.size k _ _ _ hh]
  simp only [List.getElem_replicate]
  clear hk hh
  match k, hk' with
  | 0, _ | 1, _ | 2, _ | 3, _ | 4, _ | 5, _ | 6, _ | 7, _ | 8, _ | 9, _ | 10, _ | 11, _ | 12, _ | 13, _ | 14, _ | 15, _ => rfl
  | k + 16, h => omega

end Go.Proofs.Ytgbmobepnhhldaa

namespace Go.Proofs.Ytgbmobepnhhldaa
open Go.RowKit P
set_option linter.unusedVariables false

/-- What a draw of chunks and an offset ends in. -/
def DrawsL (w : World) (e : Ending) (w' : World) : Prop :=
  ∃ A c L a, e = .returned (.tuple #[.slice A L.length c, .int .i64 a]) ∧ L.length ≤ c ∧ c ≤ maxLen ∧ Cs w' A L ∧ L.length ≤ 40 ∧ (∀ x ∈ L, x.length ≤ 401) ∧ -9223372036854775808 ≤ a ∧ a ≤ 9223372036854775807 ∧ Below w.heap.size w w'


end Go.Proofs.Ytgbmobepnhhldaa
