/-
  Texts of one claim in one: Cur6, R04, Cur9, Cur10, Cur13, Cur20, Cur21, Cur23, C22. Own work.
-/
import Derived.Test.YtgpjjolgpppeeaaCur
import Derived.Test.YtgpjjolgpppeeaaSnoc
import Derived.Test.YtgpjjolgpppeeaaBlk
import Derived.Test.YtgpjjolgpppeeaaC02
import Derived.Test.YtgpjjolgpppeeaaI02f
import Derived.Lib.SlBytesConst
import Derived.Test.YtgpjjolgpppeeaaI02g
import Derived.Test.YtgpjjolgpppeeaaC04
import Derived.Test.YtgpjjolgpppeeaaS02b
import Derived.Test.YtgpjjolgpppeeaaP04
import Derived.Test.YtgpjjolgpppeeaaS01
import Derived.BigQuiet
import Derived.Deep.QuietTactic
import Derived.Test.YtgpjjolgpppeeaaEB
import Derived.Deep.RegionHeld3
import Derived.Deep.DeepCutAuto
import Derived.Test.YtgpjjolgpppeeaaC10
import Derived.Test.YtgpjjolgpppeeaaS16

/-
  The draws' cursor: lists of chunks, with faults, and the draw of FnChunkFor, of FnChunks: contracts. Own work.
  The draws' cursor: lists of chunks with faults, the draws of FnChunkFor and FnChunks: contracts. Own work.
  The draws of FnChunkFor and FnChunks: contracts. Own work.
-/
namespace Go.Proofs.Ytgpjjolgpppeeaa
open Go.RowKit P
set_option linter.unusedVariables false

theorem cell_new6 {w : World} {t : TypeId} {u : Value} : ∀ j x, ([u] : List Value)[j]? = some x → (w.alloc (.cells #[u] t)).cell? ((⟨w.heap.size, 0, none⟩ : Addr).add j) = some x := by
  intro j x hx
  match j, hx with
  | 0, hx =>
    simp only [List.getElem?_cons_zero, Option.some.injEq] at hx
    subst hx
    rw [show (⟨w.heap.size, 0, none⟩ : Addr).add 0 = ⟨w.heap.size, 0, none⟩ from rfl, World.cell?_alloc_at _ _ _ _ rfl]
    rfl

/-- A slice of bytes that reads as l, and the block that it lies in. -/
def seenOw (w : World) (cs : List Value) (l : List UInt8) (fp : List Nat) : Prop := ∃ v, cs = [v] ∧ bRd w [v] l ∧ fp = v.ownBlock.toList ∧ ∀ k ∈ fp, k < w.heap.size

def Lay.seen : Lay (List UInt8) where
  sz := 1
  rd := bRd
  ow := seenOw
  len := by rintro w cs x ⟨A, c, rfl, _⟩; rfl
  one := by rintro w cs x ⟨A, c, rfl, _⟩ u hu; simp at hu; subst hu; rfl
  below := by rintro w w' cs x ⟨A, c, rfl, h1, h2, hB⟩ hb; exact ⟨A, c, rfl, h1, h2, hB.below hb⟩
  read := by rintro w cs x fp ⟨v, rfl, h, _⟩; exact h
  lt := by rintro w cs x fp ⟨v, rfl, _, _, h⟩; exact h
  kept := by
    rintro w w' cs x fp ⟨v, rfl, ⟨A, c, e, h1, h2, hB⟩, rfl, h4⟩ hk hs
    cases e
    refine ⟨_, rfl, ⟨A, c, rfl, h1, h2, hB.of_heap hs (fun b off hA _ => hk b (by rw [hA]; simp [Value.ownBlock]))⟩, rfl, fun k hkm => Nat.lt_of_lt_of_le (h4 k hkm) hs⟩

theorem Own.seen {w : World} {base : Nat} {v : Value} {l : List UInt8} (h : Own w base v l) : Lay.seen.ow w [v] l v.ownBlock.toList := by
  refine ⟨v, rfl, ?_, rfl, fun k hk => (h.range k hk).2⟩
  obtain ⟨A, c, rfl, h1, h2, h3⟩ := h.form
  exact ⟨A, c, rfl, h1, h2, h3⟩

theorem Lay.only {α : Type} (L : Lay α) {w w' : World} {g : Nat} {cs : List Value} {x : α} {fp : List Nat} (h : L.ow w cs x fp) (ho : Only g w w') (hg : ∀ k ∈ fp, g < k) : L.ow w' cs x fp :=
  L.kept h (fun k hk => ho.block k (L.lt h k hk) (fun e => by have := hg k hk; injection e with e; omega)) ho.size

end Go.Proofs.Ytgpjjolgpppeeaa

namespace Go.Proofs.Ytgpjjolgpppeeaa
open Go.RowKit P
set_option linter.unusedVariables false

theorem cell_newg {w : World} {t : TypeId} {u : Value} {g : Nat} (hg : g = w.heap.size) : ∀ j x, ([u] : List Value)[j]? = some x → (w.alloc (.cells #[u] t)).cell? ((⟨g, 0, none⟩ : Addr).add j) = some x := by
  subst hg; exact cell_new6

/-- The bytes of the text's constant, sixteen letters a. -/
theorem aRow (w : World) (f : Nat × Nat) : Lay.seen.ow (w.alloc (.cells #[.int .u8 97, .int .u8 97, .int .u8 97, .int .u8 97, .int .u8 97, .int .u8 97, .int .u8 97, .int .u8 97, .int .u8 97, .int .u8 97, .int .u8 97, .int .u8 97, .int .u8 97, .int .u8 97, .int .u8 97, .int .u8 97] 5 f)) [.slice (some ⟨w.heap.size, 0, none⟩) 16 16] (List.replicate 16 97) [w.heap.size] := by
  refine ⟨_, rfl, ⟨_, 16, rfl, by simp, by unfold maxLen; omega, fun k hk => ⟨w.heap.size, 0, rfl, by simp, ?_⟩⟩, rfl, by intro k hk; simp at hk; subst hk; simp⟩
  have hk' : k < 16 := by simpa using hk
  have hh : (w.alloc (.cells #[.int .u8 97, .int .u8 97, .int .u8 97, .int .u8 97, .int .u8 97, .int .u8 97, .int .u8 97, .int .u8 97, .int .u8 97, .int .u8 97, .int .u8 97, .int .u8 97, .int .u8 97, .int .u8 97, .int .u8 97, .int .u8 97] 5 f)).heap[w.heap.size]? = some (.cells #[.int .u8 97, .int .u8 97, .int .u8 97, .int .u8 97, .int .u8 97, .int .u8 97, .int .u8 97, .int .u8 97, .int .u8 97, .int .u8 97, .int .u8 97, .int .u8 97, .int .u8 97, .int .u8 97, .int .u8 97, .int .u8 97] 5 f) := heap_alloc_new w _
  rw [Nat.zero_add, cell_of_row _ w.heap.size k _ _ _ hh]
  simp only [List.getElem_replicate]
  clear hk hh
  match k, hk' with
  | 0, _ | 1, _ | 2, _ | 3, _ | 4, _ | 5, _ | 6, _ | 7, _ | 8, _ | 9, _ | 10, _ | 11, _ | 12, _ | 13, _ | 14, _ | 15, _ => rfl
  | k + 16, h => omega

end Go.Proofs.Ytgpjjolgpppeeaa

namespace Go.Proofs.Ytgpjjolgpppeeaa
open Go.RowKit P
set_option linter.unusedVariables false

/-- What a draw of chunks and an offset ends in. -/
def DrawsL (w : World) (e : Ending) (w' : World) : Prop :=
  ∃ A c L a, e = .returned (.tuple #[.slice A L.length c, .int .i64 a]) ∧ L.length ≤ c ∧ c ≤ maxLen ∧ Cs w' A L ∧ L.length ≤ 40 ∧ (∀ x ∈ L, x.length ≤ 401) ∧ -9223372036854775808 ≤ a ∧ a ≤ 9223372036854775807 ∧ Below w.heap.size w w'


end Go.Proofs.Ytgpjjolgpppeeaa

/-
  Chapter 4, the program's RopeOk, RopeText, RopeMeas, RopeOf: contracts. Own work.
  Chapter 4, the model's RopeOk, RopeText, RopeMeas: contracts. Own work.
  Chapter 4, the model's l04Cut, RopeLine: contracts. Own work.
  Chapter 4, the model's RopeLine: contract. Own work.
  Chapter 4, the program's cutsOk, RopeLine: contracts. Own work.
  Chapter 4, the program's RopeLine: contract. Own work.
  Chapter 4, the model's l04Stands: contract. Own work.
-/
namespace Go.Proofs.Ytgpjjolgpppeeaa
open Go.RowKit P
set_option linter.unusedVariables false
set_option maxRecDepth 100000


end Go.Proofs.Ytgpjjolgpppeeaa

namespace Go.Proofs.Ytgpjjolgpppeeaa
open Go.RowKit P
set_option linter.unusedVariables false
set_option maxRecDepth 100000

end Go.Proofs.Ytgpjjolgpppeeaa

namespace Go.Proofs.Ytgpjjolgpppeeaa
open Go.RowKit P
set_option linter.unusedVariables false
set_option maxRecDepth 100000

theorem slice_part2 (A : Option Addr) (n c i : Nat) (w : World) (l : List UInt8) (hA : A = none → c = 0) (hp : ∀ a, A = some a → ∃ g o, a = ⟨g, o, none⟩) (hn : l.length = n) (hi : i ≤ n) (hc : n ≤ c) (hc9 : c ≤ 9223372036854775807) (hB : Bs w A l) :
    ∃ A', (∀ W, (Instr.slice 33 (.slice A n c) (some (.int .i64 (i : Int))) none none).run Try.prog W = .ok (.slice A' (n - i) (c - i)) W) ∧ Bs w A' (l.drop i) ∧ (A' = none → c - i = 0) ∧ (∀ a, A' = some a → ∃ g o, a = ⟨g, o, none⟩) := by
  have hz : ∀ W, (Go.sizeOf 5).run Try.prog W = .ok 1 W := fun W => by kernel_rfl
  have ht' : Try.prog.underlying 33 = some (.slice (Try.prog.elem 33)) := by simp [Program.elem, Try.underlying33]
  have he : Try.prog.elem 33 = 5 := by simp [Program.elem, Try.underlying33]
  cases A with
  | none =>
    have h0 := hA rfl
    subst h0
    refine ⟨none, fun W => ?_, fun k hk => by rw [List.length_drop] at hk; omega, fun _ => by omega, fun _ h => by cases h⟩
    rw [run_slice_l W 33 _ _ _ ht' .i64 _ (by omega) (by omega), he, hz]
    simp [Result.andThen, sliced]
  | some x =>
    obtain ⟨g, o, rfl⟩ := hp x rfl
    refine ⟨some (if c = i then ⟨g, o, none⟩ else ⟨g, o + i, none⟩), fun W => ?_, ?_, (fun h => by cases h), fun a h => by cases h; split <;> exact ⟨_, _, rfl⟩⟩
    · rw [run_slice_l W 33 _ _ _ ht' .i64 _ (by omega) (by omega), he, hz]
      by_cases h0 : c = i
      · simp [Result.andThen, sliced, h0]
      · by_cases h1 : i = 0
        · subst h1; simp [Result.andThen, sliced, Addr.add, h0]
        · simp [Result.andThen, sliced, Addr.add, h0, h1]
    · by_cases h0 : c = i
      · intro k hk
        rw [List.length_drop] at hk
        omega
      · rw [if_neg h0]
        have := Bs.sub hB i (l.length - i)
        rw [List.take_of_length_le (by rw [List.length_drop]; omega)] at this
        exact this
theorem slice_part (A : Option Addr) (n c i : Nat) (w : World) (l : List UInt8) (hA : A = none → c = 0) (hp : ∀ a, A = some a → ∃ g o, a = ⟨g, o, none⟩) (hn : l.length = n) (hi : i ≤ n) (hc : n ≤ c) (hc9 : c ≤ 9223372036854775807) (hB : Bs w A l) :
    ∃ A', (∀ W, (Instr.slice 33 (.slice A n c) (some (.int .i64 (i : Int))) none none).run Try.prog W = .ok (.slice A' (n - i) (c - i)) W) ∧ Bs w A' (l.drop i) :=
  let ⟨A', h1, h2, _, _⟩ := slice_part2 A n c i w l hA hp hn hi hc hc9 hB
  ⟨A', h1, h2⟩
end Go.Proofs.Ytgpjjolgpppeeaa

namespace Go.Proofs.Ytgpjjolgpppeeaa
open Go.RowKit P
set_option linter.unusedVariables false
set_option maxRecDepth 100000

theorem ten_eq {x : UInt8} (h : x = 10) : ((x.toNat : Int) == 10) = true := by subst h; rfl
theorem ten_ne {x : UInt8} (h : x ≠ 10) : ((x.toNat : Int) == 10) = false := by
  rw [beq_eq_false_iff_ne]
  intro e
  apply h
  apply UInt8.toNat_inj.1
  have : (10 : UInt8).toNat = 10 := rfl
  omega

end Go.Proofs.Ytgpjjolgpppeeaa

namespace Go.Proofs.Ytgpjjolgpppeeaa
open Go.RowKit P
set_option linter.unusedVariables false
set_option maxRecDepth 100000

theorem ret_i64 {a b : Int} (h : a = b) : Ending.returned (.int .i64 a) = .returned (.int .i64 b) := by rw [h]

end Go.Proofs.Ytgpjjolgpppeeaa

namespace Go.Proofs.Ytgpjjolgpppeeaa
open Go.RowKit P
set_option linter.unusedVariables false
set_option maxRecDepth 100000

/-- Own bytes: nil, or a block of their own. -/
theorem Own.form2 {w : World} {base : Nat} {v : Value} {l : List UInt8} (h : Own w base v l) : ∃ A c, v = .slice A l.length c ∧ l.length ≤ c ∧ c ≤ 9223372036854775807 ∧ Bs w A l ∧ (A = none → c = 0) ∧ (∀ x, A = some x → ∃ g o, x = ⟨g, o, none⟩) := by
  obtain ⟨A, c, hv, h1, h2, hB⟩ := h.form
  refine ⟨A, c, hv, h1, by unfold maxLen at h2; omega, hB, ?_, ?_⟩
  · intro hA
    rcases h.2 with ⟨e, _⟩ | ⟨g, cap, cur, e, _⟩
    · rw [hv] at e; simp only [Value.slice.injEq] at e; exact e.2.2
    · rw [hv] at e; simp only [Value.slice.injEq] at e; rw [hA] at e; exact absurd e.1 (by simp)
  · intro x hx
    rcases h.2 with ⟨e, _⟩ | ⟨g, cap, cur, e, _⟩
    · rw [hv] at e; simp only [Value.slice.injEq] at e; rw [hx] at e; exact absurd e.1 (by simp)
    · rw [hv] at e; simp only [Value.slice.injEq] at e; rw [hx] at e; exact ⟨g, 0, Option.some.inj e.1⟩

/-- 's[:k]' of bytes. -/
theorem slice_head (A : Option Addr) (n c k : Nat) (hA : A = none → c = 0) (hp : ∀ x, A = some x → ∃ g o, x = ⟨g, o, none⟩) (hk : k ≤ c) :
    ∀ W, (Instr.slice 33 (.slice A n c) none (some (.int .i64 (k : Int))) none).run Try.prog W = .ok (.slice A k c) W := by
  intro W
  have hz : ∀ W, (Go.sizeOf 5).run Try.prog W = .ok 1 W := fun W => by kernel_rfl
  have ht' : Try.prog.underlying 33 = some (.slice (Try.prog.elem 33)) := by simp [Program.elem, Try.underlying33]
  have he : Try.prog.elem 33 = 5 := by simp [Program.elem, Try.underlying33]
  rw [run_slice_h W 33 _ _ _ ht' .i64 _ (by omega) (by omega), he, hz]
  cases A with
  | none =>
    have h0 := hA rfl
    subst h0
    have : k = 0 := by omega
    subst this
    simp [Result.andThen, sliced]
  | some x =>
    obtain ⟨g, o, rfl⟩ := hp x rfl
    simp [Result.andThen, sliced, Addr.add]

theorem Bs.head {w : World} {A : Option Addr} {l : List UInt8} (h : Bs w A l) (k : Nat) (hk : k ≤ l.length) : Bs w A (l.take k) := by
  intro j hj
  rw [List.length_take] at hj
  obtain ⟨b, off, hA, hlt, hc⟩ := h j (by omega)
  refine ⟨b, off, hA, hlt, ?_⟩
  rw [hc, List.getElem_take]

end Go.Proofs.Ytgpjjolgpppeeaa

namespace Go.Proofs.Ytgpjjolgpppeeaa
open Go.RowKit P
set_option linter.unusedVariables false
set_option maxRecDepth 100000

/-- 's[i:i+m]' of bytes. -/
theorem slice_mid (A : Option Addr) (n c i m : Nat) (w : World) (l : List UInt8) (hA : A = none → c = 0) (hp : ∀ a, A = some a → ∃ g o, a = ⟨g, o, none⟩) (hn : l.length = n) (hi : i + m ≤ n) (hc : n ≤ c) (hc9 : c ≤ 9223372036854775807) (hB : Bs w A l) :
    ∃ A', (∀ W, (Instr.slice 33 (.slice A n c) (some (.int .i64 (i : Int))) (some (.int .i64 ((i : Int) + (m : Int)))) none).run Try.prog W = .ok (.slice A' m (c - i)) W) ∧ Bs w A' ((l.drop i).take m) := by
  have hz : ∀ W, (Go.sizeOf 5).run Try.prog W = .ok 1 W := fun W => by kernel_rfl
  have ht' : Try.prog.underlying 33 = some (.slice (Try.prog.elem 33)) := by simp [Program.elem, Try.underlying33]
  have he : Try.prog.elem 33 = 5 := by simp [Program.elem, Try.underlying33]
  have htn : ((i : Int) + (m : Int)).toNat = i + m := by omega
  cases A with
  | none =>
    have h0 := hA rfl
    subst h0
    refine ⟨none, fun W => ?_, fun k hk => by rw [List.length_take, List.length_drop] at hk; omega⟩
    rw [run_slice_lh W 33 _ _ _ ht' .i64 .i64 _ _ (by omega) (by omega) (by omega), he, hz]
    have : i = 0 := by omega
    have : m = 0 := by omega
    subst i; subst m
    simp [Result.andThen, sliced]
  | some x =>
    obtain ⟨g, o, rfl⟩ := hp x rfl
    refine ⟨some (if c = i then ⟨g, o, none⟩ else ⟨g, o + i, none⟩), fun W => ?_, ?_⟩
    · rw [run_slice_lh W 33 _ _ _ ht' .i64 .i64 _ _ (by omega) (by omega) (by omega), he, hz]
      have hm : i + m - i = m := by omega
      by_cases h0 : c = i
      · simp [Result.andThen, sliced, h0, htn, hm]
      · by_cases h1 : i = 0
        · subst h1; simp [Result.andThen, sliced, Addr.add, h0]
        · simp [Result.andThen, sliced, Addr.add, h0, h1, htn, hm]
    · by_cases h0 : c = i
      · intro k hk
        rw [List.length_take, List.length_drop] at hk
        omega
      · rw [if_neg h0]
        exact Bs.sub hB i m

end Go.Proofs.Ytgpjjolgpppeeaa

/-
  The draws' cursor: ropes, places of a rope: contracts. Own work.
-/
namespace Go.Proofs.Ytgpjjolgpppeeaa
open Go.RowKit P
set_option linter.unusedVariables false

/-- Chunks that can be read, whatever becomes of what lies below base. -/
def Far (base : Nat) (w : World) (A : Option Addr) (L : List (List UInt8)) (c : Nat) : Prop :=
  L.length ≤ c ∧ c ≤ maxLen ∧ ∀ w' : World, (∀ k, base ≤ k → k < w.heap.size → w'.heap[k]? = w.heap[k]?) → w.heap.size ≤ w'.heap.size → Cs w' A L
theorem Far.keep {base : Nat} {w w' : World} {A : Option Addr} {L : List (List UInt8)} {c : Nat} (h : Far base w A L c) (hk : ∀ k, base ≤ k → k < w.heap.size → w'.heap[k]? = w.heap[k]?) (hs : w.heap.size ≤ w'.heap.size) : Far base w' A L c :=
  ⟨h.1, h.2.1, fun x hx hz => h.2.2 x (fun k h1 h2 => (hx k h1 (by omega)).trans (hk k h1 h2)) (by omega)⟩
theorem Far.only {base g : Nat} {w w' : World} {A : Option Addr} {L : List (List UInt8)} {c : Nat} (h : Far base w A L c) (hg : g < base) (ho : Only g w w') : Far base w' A L c := h.keep (fun k h1 h2 => ho.block k h2 (fun e => by injection e; omega)) ho.size
theorem Far.cs {base : Nat} {w : World} {A : Option Addr} {L : List (List UInt8)} {c : Nat} (h : Far base w A L c) : Cs w A L := h.2.2 w (fun _ _ _ => rfl) (Nat.le_refl _)
theorem Far.below {base : Nat} {w w' : World} {A : Option Addr} {L : List (List UInt8)} {c : Nat} (h : Far base w A L c) (hb : Below w.heap.size w w') : Far base w' A L c := h.keep (fun k _ h2 => hb.block k h2) hb.size
theorem Far.setNew {base : Nat} {w : World} {A : Option Addr} {L : List (List UInt8)} {c : Nat} (h : Far base w A L c) {b : Nat} (hb : b < base) (i : Nat) (u : Value) : Far base (w.setCell ⟨b, i, none⟩ u) A L c :=
  h.keep (fun k h1 _ => Below.heap_setCell w ⟨b, i, none⟩ u k (fun e => by simp at e; omega)) (by simp [World.setCell])
theorem Far.mono {base base' : Nat} {w : World} {A : Option Addr} {L : List (List UInt8)} {c : Nat} (h : Far base w A L c) (hb : base' ≤ base) : Far base' w A L c := ⟨h.1, h.2.1, fun x hx hz => h.2.2 x (fun k h1 h2 => hx k (by omega) h2) hz⟩
/-- What a draw of a rope ends in. -/
def DrawsR (g N : Nat) (w : World) (e : Ending) (w' : World) : Prop :=
  ∃ A c L, e = .returned (.agg #[.slice A L.length c]) ∧ Far w.heap.size w' A L c ∧ L.length ≤ 400 ∧ (∀ x ∈ L, x.length ≤ 401) ∧ Cur w' g N ∧ Only g w w'

theorem Blk.only {g b : Nat} {w w' : World} {cs : Array Value} {t : TypeId} (h : Blk w b cs t) (ho : Only g w w') (hb : b ≠ g) : Blk w' b cs t := h.of_block (ho.block b h.lt (fun e => hb (by injection e)))

theorem chunksOf_len (l : List UInt8) : (chunksOf l).length ≤ 400 ∧ ∀ x ∈ chunksOf l, x.length ≤ 401 := by
  have h := chunksOf_ok l
  refine ⟨chunksOk_len h, fun x hx => ?_⟩
  obtain ⟨k, hk, rfl⟩ := List.mem_iff_getElem.1 hx
  have h1 := tot_mem (ls := chunksOf l) k hk
  have h2 := chunksOk_tot h
  omega

theorem Only.setNew {g : Nat} {a w : World} (h : Only g a w) {b : Nat} (hb : a.heap.size ≤ b) (i : Nat) (u : Value) : Only g a (w.setCell ⟨b, i, none⟩ u) :=
  ⟨h.os, h.tape, h.output, by simpa [World.setCell] using h.size, fun k hk hne => (Below.heap_setCell w ⟨b, i, none⟩ u k (fun e => by simp at e; omega)).trans (h.block k hk hne)⟩
theorem Cur.setNew {w : World} {g N : Nat} (h : Cur w g N) {b : Nat} (hb : g < b) (i : Nat) (u : Value) : Cur (w.setCell ⟨b, i, none⟩ u) g N :=
  h.keep (fun k hk => Below.heap_setCell w ⟨b, i, none⟩ u k (fun e => by simp at e; omega)) (by simp [World.setCell])
theorem Lay.set {α : Type} (L : Lay α) {w : World} {cs : List Value} {x : α} {fp : List Nat} (h : L.ow w cs x fp) {b : Nat} (hb : b ∉ fp) (i : Nat) (u : Value) : L.ow (w.setCell ⟨b, i, none⟩ u) cs x fp :=
  L.kept h (fun k hk => Below.heap_setCell _ _ _ _ (fun e => hb (by simp at e; exact e ▸ hk))) (by simp [World.setCell])
theorem Blk.setFar {w : World} {b d : Nat} {cs : Array Value} {t : TypeId} (h : Blk w b cs t) (hne : b ≠ d) (i : Nat) (u : Value) : Blk (w.setCell ⟨d, i, none⟩ u) b cs t := h.of_block (Below.heap_setCell w ⟨d, i, none⟩ u b (fun e => hne (by simpa using e)))

theorem cutsOr_bd (l : List UInt8) : (cutsOr l).length ≤ l.length + 1 ∧ ∀ x ∈ cutsOr l, x ≤ l.length := by
  unfold cutsOr cuts
  split
  · refine ⟨by have := List.length_filter_le (fun k : Nat => isBound l k) (List.range (l.length + 1)); simpa using this, fun x hx => ?_⟩
    have := List.mem_range.1 (List.mem_filter.1 hx).1
    omega
  · simp

theorem OwnN.only {w w' : World} {g base : Nat} {v : Value} {l : List Nat} (h : OwnN w base v l) (ho : Only g w w') (hb : g < base) : OwnN w' base v l := by
  refine World.ownsRow.kept (w' := w') (row := some g) h ho ?_
  cases hv : v.ownBlock with
  | none => exact .inl rfl
  | some k => exact .inr (fun e => by injection e with e; have := (World.ownsRow.lt h k hv).1; omega)

/-- What a draw of two places ends in. -/
def Draws2 (g N : Nat) (w : World) (e : Ending) (w' : World) : Prop := ∃ x y : Int, e = .returned (.tuple #[.int .i64 x, .int .i64 y]) ∧ (-9223372036854775808 ≤ x ∧ x ≤ 9223372036854775807) ∧ (-9223372036854775808 ≤ y ∧ y ≤ 9223372036854775807) ∧ Cur w' g N ∧ Only g w w'

end Go.Proofs.Ytgpjjolgpppeeaa

/-
  Chapter 5's draws: an edit of a text. Own work.
  Chapter 5's draws: an edit of a text, mostly one that fits. Own work.
  The draw of EditBack; sameEdit, bytesOf: contracts. Own work.
-/
namespace Go.Proofs.Ytgpjjolgpppeeaa
open Go.RowKit P
set_option linter.unusedVariables false
set_option linter.unusedSimpArgs false
set_option maxRecDepth 100000

/-- What a draw of an edit ends in. -/
def DrawsE (g N : Nat) (w : World) (e : Ending) (w' : World) : Prop :=
  ∃ a m v l, e = .returned (.agg #[.int .i64 a, .int .i64 m, v]) ∧ (-9223372036854775808 ≤ a ∧ a ≤ 9223372036854775807) ∧ (-9223372036854775808 ≤ m ∧ m ≤ 9223372036854775807) ∧ Own w' w.heap.size v l ∧ l.length ≤ 500 ∧ Cur w' g N ∧ Only g w w'

theorem wrap64_bd (x : Int) : -9223372036854775808 ≤ wrap64 x ∧ wrap64 x ≤ 9223372036854775807 := by
  rw [← IntWalk.i64_left, IntKind.wrap_i64]
  omega
/-- A block's cells are what they are, the cursor's block apart. -/
theorem EBox.only {g b : Nat} {w w' : World} {a m : Int} {A : Option Addr} {n c : Nat} (h : EBox w b a m A n c) (ho : Only g w w') (hb : b ≠ g) : EBox w' b a m A n c := ⟨h.blk.only ho hb⟩
theorem EBox.f (i : Nat) {w : World} {b : Nat} {a m : Int} {A : Option Addr} {n c : Nat} (h : EBox w b a m A n c) : w.frozen? ⟨b, i, none⟩ = false := h.blk.frozen i
theorem EBox.set1 {w : World} {b : Nat} {a m : Int} {A : Option Addr} {n c : Nat} (h : EBox w b a m A n c) (x : Int) : EBox (w.setCell ⟨b, 1, none⟩ (.int .i64 x)) b a x A n c := ⟨by simpa using h.blk.set 1 (.int .i64 x)⟩
theorem EBox.set0 {w : World} {b : Nat} {a m : Int} {A : Option Addr} {n c : Nat} (h : EBox w b a m A n c) (x : Int) : EBox (w.setCell ⟨b, 0, none⟩ (.int .i64 x)) b x m A n c := ⟨by simpa using h.blk.set 0 (.int .i64 x)⟩
theorem EBox.set2 {w : World} {b : Nat} {a m : Int} {A : Option Addr} {n c : Nat} (h : EBox w b a m A n c) (B : Option Addr) (k d : Nat) : EBox (w.setCell ⟨b, 2, none⟩ (.slice B k d)) b a m B k d := ⟨by simpa using h.blk.set 2 (.slice B k d)⟩

end Go.Proofs.Ytgpjjolgpppeeaa

namespace Go.Proofs.Ytgpjjolgpppeeaa
open Go.RowKit P
set_option linter.unusedVariables false
set_option linter.unusedSimpArgs false
set_option maxRecDepth 100000

theorem own_zeros (w : World) (n : Nat) (hn : n ≤ 1000) : Own (w.alloc (.cells (madeCells #[.int .u8 0] n) 5)) w.heap.size (.slice (some ⟨w.heap.size, 0, none⟩) n n) (List.replicate n 0) := by
  have h : Row (w.alloc (.cells (madeCells #[.int .u8 0] n) 5)) w.heap.size (List.replicate n (0 : UInt8)) := by
    unfold Row
    rw [List.length_replicate]
    exact (World.rowIs_made w (.int .u8 0) n 5).congr (by intro j hj; simp [List.getD_eq_getElem?_getD, List.getElem?_replicate, hj])
  have := h.own w.heap.size (Nat.le_refl _) (by rw [List.length_replicate]; unfold maxLen; omega)
  rw [List.length_replicate] at this
  exact this

end Go.Proofs.Ytgpjjolgpppeeaa

namespace Go.Proofs.Ytgpjjolgpppeeaa
open Go.RowKit P
set_option linter.unusedVariables false
set_option linter.unusedSimpArgs false
set_option maxRecDepth 100000

/-- What a draw of a text and an edit ends in. -/
def DrawsTE (w : World) (e : Ending) (w' : World) : Prop :=
  ∃ A l c a m B p d, e = .returned (.tuple #[.slice A l.length c, .agg #[.int .i64 a, .int .i64 m, .slice B p.length d]]) ∧ l.length ≤ 401 ∧ l.length ≤ c ∧ c ≤ 9223372036854775807 ∧ Pl A c ∧ Bs w' A l ∧
    (-9223372036854775808 ≤ a ∧ a ≤ 9223372036854775807) ∧ (-9223372036854775808 ≤ m ∧ m ≤ 9223372036854775807) ∧ p.length ≤ 500 ∧ p.length ≤ d ∧ d ≤ 9223372036854775807 ∧ Pl B d ∧ Bs w' B p ∧ Below w.heap.size w w'

set_option maxHeartbeats 2000000 in
theorem sameEdit_any (a m : Int) (A B : Option Addr) (l : List UInt8) (c d : Nat) (w : World) (hA : Bs w A l) (hB : Bs w B l) :
    Calls Try.prog 38 #[.agg #[.int .i64 a, .int .i64 m, .slice A l.length c], .agg #[.int .i64 a, .int .i64 m, .slice B l.length d]] w fun e w' => e = .returned (.bool true) ∧ Below w.heap.size w w' := by
  have hb0 := (((Below.refl w.heap.size w).alloc (Nat.le_refl _) (.cells #[.int .i64 a, .int .i64 m, .slice A l.length c] 37))).alloc (by simp) (.cells #[.int .i64 a, .int .i64 m, .slice B l.length d] 37)
  have e1 : (a == a) = true := by simp
  have e2 : (m == m) = true := by simp
  have hc1 := run_conv_bs c l.length rfl (hA.below hb0)
  have hc2 := run_conv_bs d l.length rfl (hB.below hb0)
  go_enter Try.func38, Try.ntmps38
  go_wp2
  go_ret
  exact ⟨rfl, hb0⟩

set_option maxHeartbeats 1000000 in
theorem bytesOf_any (A : Option Addr) (l : List UInt8) (n c : Nat) (w : World) (hn : n = l.length) (hl : l.length ≤ 1000000) (hA : Bs w A l) :
    Calls Try.prog 50 #[.slice A n c] w (Makes w l) := by
  have hown0 : Own (w.alloc (.cells #[] 5)) w.heap.size (.slice (some ⟨w.heap.size, 0, none⟩) 0 0) [] := World.ownsRow_made w #[] 0 (Nat.le_refl _) (by unfold maxLen; omega) rfl
  have hal := (Below.refl w.heap.size w).alloc (Nat.le_refl _) (.cells #[] 5)
  have hA0 := hA.below hal
  go_enter Try.func50, Try.ntmps50
  go_wp2_with (at_builtin; go_must (refine wpList_app_bytes rfl _ _ rfl w.heap.size _ [] l A n c rfl rfl hn hown0 hA0 ?c1 ?c2 ?_))
  case c1 => simp; omega
  case c2 => simp
  intro v4 w4 hown4 hg4 _
  have hb4 := hal.grown hg4 (by simp) (fun x hx => (World.ownsRow.lt hown0 x hx).1)
  go_wp2
  go_ret
  exact ⟨_, rfl, hown4, hb4⟩
end Go.Proofs.Ytgpjjolgpppeeaa

/-
  Chapter 6's draws: small edits, spots; laws.pick at any offset: contracts. Own work.
  Chapter 5's draw of a text and an edit that may not fit: contract. Own work.
-/
namespace Go.Proofs.Ytgpjjolgpppeeaa
open Go.RowKit P
set_option linter.unusedVariables false
set_option linter.unusedSimpArgs false
set_option maxRecDepth 100000

set_option maxHeartbeats 4000000 in
theorem lawPickN_any (j : Nat) (hj : j ≤ 100) (A : Option Addr) (l : List UInt8) (c : Nat) (n : Int) (w : World) (hl : l.length ≤ 1048576) (h0 : 0 ≤ n) (hn : n ≤ 1000) (hA : Bs w A l) :
    Calls Try.prog 23 #[.slice A l.length c, .int .i64 (j : Int), .int .i64 n] w fun e w' => (∃ x : Int, e = .returned (.int .i64 x) ∧ 0 ≤ x ∧ (x < n ∨ (n < 2 ∧ x = 0))) ∧ Below w.heap.size w w' := by
  by_cases hz : l.length = 0
  · have g1 : ((l.length : Int) == 0) = true := by simp [hz]
    have H := Lib.hid hz
    clear hz
    go_enter Try.func23, Try.ntmps23
    go_wp2
    go_ret
    exact ⟨⟨0, rfl, Int.le_refl _, by omega⟩, Below.refl _ _⟩
  have g1 : ((l.length : Int) == 0) = false := by rw [beq_eq_false_iff_ne]; omega
  by_cases hn2 : n < 2
  · go_enter Try.func23, Try.ntmps23
    go_wp2
    go_ret
    exact ⟨⟨0, rfl, Int.le_refl _, .inr ⟨hn2, rfl⟩⟩, Below.refl _ _⟩
  have hlz : (l.length : Int) ≠ 0 := by omega
  have hnz : n ≠ 0 := by omega
  go_enter Try.func23, Try.ntmps23
  go_wp2
  go_loopw [7, 8] (fun xx kk wr => ∃ (x : Int) (k : Nat), xx = .int .i64 x ∧ kk = .int .i64 k ∧ 0 ≤ x ∧ ((k = 0 ∧ x ≤ 0) ∨ (k = 1 ∧ x ≤ 255) ∨ (k = 2 ∧ x ≤ 8160) ∨ (k = 3 ∧ x ≤ 253215)) ∧ Below w.heap.size w wr) (fun _ kk _ => 3 - (intOf kk).toNat)
  case atStart => exact ⟨0, 0, rfl, rfl, Int.le_refl _, .inl ⟨rfl, Int.le_refl _⟩, Below.refl _ _⟩
  case round =>
    obtain ⟨x, k, rfl, rfl, hx0, hx, hb⟩ := hrel
    by_cases hk : k < 3
    · obtain ⟨m, hme, hml⟩ : ∃ m : Nat, ((j : Int) + (k : Int)) % (l.length : Int) = (m : Int) ∧ m < l.length := by
        refine ⟨(j + k) % l.length, by rw [Int.natCast_emod, Int.natCast_add], Nat.mod_lt _ (by omega)⟩
      obtain ⟨b, off, rfl, hbl, hc⟩ := (hA.below hb) m hml
      have hu := (l[m]).toNat_lt
      obtain ⟨bn, hbn⟩ : ∃ bn : Int, bn = (l[m]).toNat := ⟨_, rfl⟩
      rw [← hbn] at hc
      have hbn1 : 0 ≤ bn ∧ bn ≤ 255 := by omega
      have hml' : (m : Int) < (l.length : Int) := by omega
      have hx9 : x ≤ 8160 := by omega
      have hne : ¬ (l.length : Int) = 0 := by omega
      have hw0 : IntKind.i64.wrap ((j : Int) + (k : Int)) = (j : Int) + (k : Int) := IntWalk.i64_in _ ⟨by omega, by omega⟩
      have hw1 : IntKind.i64.wrap (31 * x) = 31 * x := IntWalk.i64_in _ ⟨by omega, by omega⟩
      have hw2 : IntKind.i64.wrap (31 * x + bn) = 31 * x + bn := IntWalk.i64_in _ ⟨by omega, by omega⟩
      clear hbn hu
      go_wp2
      go_roundw
      case rel => exact ⟨31 * x + bn, k + 1, rfl, by go_num, by omega, by omega, hb⟩
      case measure => first | (simp [intOf]; done) | (simp [intOf]; omega)
    · have hbd := emod_bd (x + j) n (by omega)
      have hx9 : x ≤ 253215 := by omega
      have hw2 : IntKind.i64.wrap (x + j) = x + j := IntWalk.i64_in _ ⟨by omega, by omega⟩
      have hx3 : 0 ≤ x + (j : Int) := by omega
      go_wp2
      go_ret
      exact ⟨⟨_, rfl, hbd.1, .inl hbd.2⟩, hb⟩

/-- A write into another block leaves bytes of the call's own. -/
theorem ownSet9 {w : World} {B b : Nat} {v : Value} {l : List UInt8} (h : Own w B v l) (hne : ∀ k ∈ v.ownBlock.toList, b ≠ k) (i : Nat) (u : Value) : Own (w.setCell ⟨b, i, none⟩ u) B v l :=
  h.heap (fun k hk => Below.heap_setCell _ _ _ _ (fun e => hne k hk (by simpa using e.symm)))

set_option maxHeartbeats 8000000 in
theorem small_any (g N : Nat) (w : World) (hN : N ≤ 9000) (h : Cur w g N) :
    Calls Try.prog 62 #[.pointer (some ⟨g, 0, none⟩)] w (DrawsE g (N + 50) w) := by
  have hglt := h.lt
  have hal := (Below.refl w.heap.size w).alloc (Nat.le_refl _) (.cells #[.int .i64 0, .int .i64 0, .slice none 0 0] 37)
  have bR := EBox.new w 0 0 none 0 0
  have hc0 := h.only_new hal
  have ho0 : Only g w _ := Only.of_below hal
  have hsW0 : w.heap.size + 1 ≤ (w.alloc (.cells #[.int .i64 0, .int .i64 0, .slice none 0 0] 37)).heap.size := by simp
  clear h
  go_enter Try.func62, Try.ntmps62
  go_wp2_with fail
  generalize w.alloc (.cells #[.int .i64 0, .int .i64 0, .slice none 0 0] 37) = W0 at *
  refine (pick_draws g N 20 _ (by omega) (by omega) (by omega) (by exact hc0)).mono ?_
  rintro e w3 ⟨a, rfl, ha0, ha1, hc3, ho3⟩
  have bR := bR.only ho3 (by omega)
  have hz3 : w.heap.size + 1 ≤ w3.heap.size := by have := ho3.size; omega
  have ho3 := ho0.trans ho3
  clear hc0 ho0 hal
  go_wp2_with fail
  refine (pick_draws g (N + 1) 6 _ (by omega) (by omega) (by omega) (by exact hc3)).mono ?_
  rintro e w4 ⟨m, rfl, hm0, hm1, hc4, ho4⟩
  have bR := bR.only ho4 (by omega)
  have hz4 : w.heap.size + 1 ≤ w4.heap.size := by have := ho4.size; omega
  have ho4 := ho3.trans ho4
  clear hc3 ho3
  go_wp2_with fail
  refine (text_any g (N + 2) 5 _ (by omega) (by omega) (by exact hc4)).mono ?_
  rintro e w5 ⟨v1, p, rfl, hown1, hp5, hc5, ho5⟩
  have HRG1 := Lib.hid hown1.range
  obtain ⟨A1, c1, rfl, _, _, _⟩ := hown1.form
  have bR := bR.only ho5 (by omega)
  have hz1 : w.heap.size + 1 ≤ w5.heap.size := by have := ho5.size; omega
  have hz45 := ho5.size
  have ho1 := ho4.trans ho5
  have hal1 := (Below.refl w5.heap.size w5).alloc (Nat.le_refl _) (.cells #[.int .i64 a, .int .i64 m, .slice A1 p.length c1] 37)
  have bE := EBox.new w5 a m A1 p.length c1
  have bR := bR.below hal1
  have hc1 := hc5.only_new hal1
  have ho1 := ho1.trans (Only.of_below hal1)
  have hown1 := hown1.below hal1
  clear hal1 hc4 ho4 hc5 ho5
  go_wp2_with fail
  generalize w5.alloc (.cells #[.int .i64 a, .int .i64 m, .slice A1 p.length c1] 37) = W1 at *
  refine (pick_any g (N + 2 + 1 + 3 * 5) 14 _ (by omega) (by omega) (by exact hc1)).mono ?_
  rintro e w2 ⟨x, rfl, hx0, hx1, hc2, ho2⟩
  have bR := bR.only ho2 (by omega)
  have bE := bE.only ho2 (by omega)
  have hown2 := hown1.only ho2 (by omega)
  have HRG := HRG1
  have ho2 := ho1.trans ho2
  have hc2 := hc2.mono (M := N + 40) (by omega)
  clear hc1 ho1 hown1
  have r0 := bR.c0
  have r1 := bR.c1
  have r2 := bR.c2
  have g0 := bR.f 0
  have g1 := bR.f 1
  have g2 := bR.f 2
  have e0 := bE.c0
  have e1 := bE.c1
  have e2 := bE.c2
  have hlt := bR.lt
  have hlt2 := bE.lt
  by_cases q0 : x = 0
  · subst q0
    clear r0 r1 r2 g0 g1 g2 e0 e1 e2 hlt hlt2
    go_wp2_with fail
    refine (raw_any g (N + 40) _ (by omega) (by exact hc2)).mono ?_
    rintro e w6 ⟨r, rfl, hr0, hr1, hc6, ho6⟩
    have bR := bR.only ho6 (by omega)
    have bE := bE.only ho6 (by omega)
    have hown6 := hown2.only ho6 (by omega)
    have ho6 := ho2.trans ho6
    have hal6 := (Below.refl w6.heap.size w6).alloc (Nat.le_refl _) (.cells #[.int .i64 r, .int .i64 400, .int .i64 401] 3)
    go_wp2_with fail
    refine (pick_draws g (N + 42) 3 _ (by omega) (by omega) (by omega) (by exact hc6.alloc _)).mono ?_
    rintro e w7 ⟨z, rfl, hz0, hz1, hc7, ho7⟩
    obtain ⟨k, rfl⟩ := Int.eq_ofNat_of_zero_le hz0
    have hrow := ho7.row hc6.lt k
    obtain ⟨t, hv, ht0, ht1⟩ : ∃ v : Int, w7.cell? ⟨w6.heap.size, k, none⟩ = some (.int .i64 v) ∧ -9223372036854775808 ≤ v ∧ v ≤ 9223372036854775807 := by
      rw [hrow]
      match k, (show k < 3 by omega) with
      | 0, _ => exact ⟨_, rfl, by omega, by omega⟩
      | 1, _ => exact ⟨_, rfl, by omega, by omega⟩
      | 2, _ => exact ⟨_, rfl, by omega, by omega⟩
    clear hrow
    have bR := (bR.below hal6).only ho7 (by omega)
    have bE := (bE.below hal6).only ho7 (by omega)
    have hown7 := (hown6.below hal6).only ho7 (by omega)
    have ho7 := ho6.trans ho7.of_alloc
    have r0 := bR.c0
    have r1 := bR.c1
    have r2 := bR.c2
    have g0 := bR.f 0
    have g1 := bR.f 1
    have g2 := bR.f 2
    have e0 := bE.c0
    have e1 := bE.c1
    have e2 := bE.c2
    have f0 := bE.f 0
    have f1 := bE.f 1
    have f2 := bE.f 2
    have hlt := bR.lt
    have hlt2 := bE.lt
    have HO := Lib.hid hown7
    clear hown7 hown6
    go_wp2
    refine bodyPost_ret (v := .agg #[.int .i64 t, .int .i64 m, .slice A1 p.length c1]) (by simp [results, Try.results62, go_sem, r0, r1, r2]) rfl ?_
    have hA : ∀ k ∈ (Value.slice A1 p.length c1).ownBlock.toList, w.heap.size ≠ k := fun k hk => by have h1 := HRG.out k hk; omega
    have hB : ∀ k ∈ (Value.slice A1 p.length c1).ownBlock.toList, w5.heap.size ≠ k := fun k hk => by have h1 := HRG.out k hk; omega
    exact ⟨t, m, .slice A1 p.length c1, p, rfl, ⟨by omega, by omega⟩, ⟨by omega, by omega⟩, (ownSet9 (ownSet9 (ownSet9 (ownSet9 HO.out hB 0 _) hA 0 _) hA 1 _) hA 2 _).mono (by omega), by omega,
      ((((hc7.setNew (b := w5.heap.size) (by omega) 0 _).setNew (b := w.heap.size) (by omega) 0 _).setNew (b := w.heap.size) (by omega) 1 _).setNew (b := w.heap.size) (by omega) 2 _).mono (by omega),
      (((ho7.setNew (b := w5.heap.size) (by omega) 0 _).setNew (Nat.le_refl _) 0 _).setNew (Nat.le_refl _) 1 _).setNew (Nat.le_refl _) 2 _⟩
  by_cases q1 : x = 1
  · subst q1
    clear r0 r1 r2 g0 g1 g2 e0 e1 e2 hlt hlt2
    go_wp2_with fail
    refine (raw_any g (N + 40) _ (by omega) (by exact hc2)).mono ?_
    rintro e w6 ⟨r, rfl, hr0, hr1, hc6, ho6⟩
    have bR := bR.only ho6 (by omega)
    have bE := bE.only ho6 (by omega)
    have hown6 := hown2.only ho6 (by omega)
    have ho6 := ho2.trans ho6
    have hal6 := (Below.refl w6.heap.size w6).alloc (Nat.le_refl _) (.cells #[.int .i64 r, .int .i64 400, .int .i64 401] 3)
    go_wp2_with fail
    refine (pick_draws g (N + 42) 3 _ (by omega) (by omega) (by omega) (by exact hc6.alloc _)).mono ?_
    rintro e w7 ⟨z, rfl, hz0, hz1, hc7, ho7⟩
    obtain ⟨k, rfl⟩ := Int.eq_ofNat_of_zero_le hz0
    have hrow := ho7.row hc6.lt k
    obtain ⟨t, hv, ht0, ht1⟩ : ∃ v : Int, w7.cell? ⟨w6.heap.size, k, none⟩ = some (.int .i64 v) ∧ -9223372036854775808 ≤ v ∧ v ≤ 9223372036854775807 := by
      rw [hrow]
      match k, (show k < 3 by omega) with
      | 0, _ => exact ⟨_, rfl, by omega, by omega⟩
      | 1, _ => exact ⟨_, rfl, by omega, by omega⟩
      | 2, _ => exact ⟨_, rfl, by omega, by omega⟩
    clear hrow
    have bR := (bR.below hal6).only ho7 (by omega)
    have bE := (bE.below hal6).only ho7 (by omega)
    have hown7 := (hown6.below hal6).only ho7 (by omega)
    have ho7 := ho6.trans ho7.of_alloc
    have r0 := bR.c0
    have r1 := bR.c1
    have r2 := bR.c2
    have g0 := bR.f 0
    have g1 := bR.f 1
    have g2 := bR.f 2
    have e0 := bE.c0
    have e1 := bE.c1
    have e2 := bE.c2
    have f0 := bE.f 0
    have f1 := bE.f 1
    have f2 := bE.f 2
    have hlt := bR.lt
    have hlt2 := bE.lt
    have HO := Lib.hid hown7
    clear hown7 hown6
    go_wp2
    refine bodyPost_ret (v := .agg #[.int .i64 a, .int .i64 t, .slice A1 p.length c1]) (by simp [results, Try.results62, go_sem, r0, r1, r2]) rfl ?_
    have hA : ∀ k ∈ (Value.slice A1 p.length c1).ownBlock.toList, w.heap.size ≠ k := fun k hk => by have h1 := HRG.out k hk; omega
    have hB : ∀ k ∈ (Value.slice A1 p.length c1).ownBlock.toList, w5.heap.size ≠ k := fun k hk => by have h1 := HRG.out k hk; omega
    exact ⟨a, t, .slice A1 p.length c1, p, rfl, ⟨by omega, by omega⟩, ⟨by omega, by omega⟩, (ownSet9 (ownSet9 (ownSet9 (ownSet9 HO.out hB 1 _) hA 0 _) hA 1 _) hA 2 _).mono (by omega), by omega,
      ((((hc7.setNew (b := w5.heap.size) (by omega) 1 _).setNew (b := w.heap.size) (by omega) 0 _).setNew (b := w.heap.size) (by omega) 1 _).setNew (b := w.heap.size) (by omega) 2 _).mono (by omega),
      (((ho7.setNew (b := w5.heap.size) (by omega) 1 _).setNew (Nat.le_refl _) 0 _).setNew (Nat.le_refl _) 1 _).setNew (Nat.le_refl _) 2 _⟩
  by_cases q2 : x = 2
  · subst q2
    clear r0 r1 r2 g0 g1 g2 e0 e1 e2 hlt hlt2
    go_wp2_with fail
    refine (pick_any g (N + 40) 2 _ (by omega) (by omega) (by exact hc2)).mono ?_
    rintro e w6 ⟨y, rfl, hy0, hy1, hc6, ho6⟩
    have bR := bR.only ho6 (by omega)
    have bE := bE.only ho6 (by omega)
    have ho6 := ho2.trans ho6
    obtain ⟨n, hn⟩ : ∃ n : Nat, 400 + y = (n : Int) := ⟨(400 + y).toNat, by omega⟩
    have hn4 : n ≤ 402 := by omega
    have hmk : ∀ W, (Instr.makeSlice 33 (.int .i64 (400 + y)) (.int .i64 (400 + y))).run Try.prog W = .ok (.slice (some ⟨W.heap.size, 0, none⟩) n n) (W.alloc (.cells (madeCells #[.int .u8 0] n) 5)) := fun W => by
      rw [hn]
      have := run_mk (P := Try.prog) 33 5 (.int .u8 0) 1 1 Try.underlying33 Try.infoB n (by omega) (by omega) W
      rw [Nat.mul_one] at this
      exact this
    have t0 := bR.c0
    have t1 := bR.c1
    have t2 := bR.c2
    have s0 := bR.f 0
    have s1 := bR.f 1
    have s2 := bR.f 2
    have o0 := bE.c0
    have o1 := bE.c1
    have o2 := bE.c2
    have p2 := bE.f 2
    have hq1 := bE.lt
    have hq2 := bR.lt
    have hz4 := ho6.size
    have HN := Lib.hid hn
    clear hn
    go_wp2
    have bR5 := ((((EBox.mk (bR.blk.setFar (d := w5.heap.size) (by omega) 2 (.slice (some ⟨w6.heap.size, 0, none⟩) n n))).set0 a).set1 m).set2 (some ⟨w6.heap.size, 0, none⟩) n n).below ((Below.refl _ _).alloc (Nat.le_refl _) (.cells (madeCells #[.int .u8 0] n) 5))
    have u0 := bR5.c0
    have u1 := bR5.c1
    have u2 := bR5.c2
    refine bodyPost_ret (v := .agg #[.int .i64 a, .int .i64 m, .slice (some ⟨w6.heap.size, 0, none⟩) n n]) (by simp [results, Try.results62, go_sem, u0, u1, u2]) rfl ?_
    clear u0 u1 u2 bR5
    have hc5 := (((hc6.setNew (b := w5.heap.size) (by omega) 2 (.slice (some ⟨w6.heap.size, 0, none⟩) n n)).setNew (b := w.heap.size) (by omega) 0 (.int .i64 a)).setNew (b := w.heap.size) (by omega) 1 (.int .i64 m)).setNew (b := w.heap.size) (by omega) 2 (.slice (some ⟨w6.heap.size, 0, none⟩) n n)
    have ho5 := (((ho6.setNew (b := w5.heap.size) (by omega) 2 (.slice (some ⟨w6.heap.size, 0, none⟩) n n)).setNew (Nat.le_refl _) 0 (.int .i64 a)).setNew (Nat.le_refl _) 1 (.int .i64 m)).setNew (Nat.le_refl _) 2 (.slice (some ⟨w6.heap.size, 0, none⟩) n n)
    have hsz5 : ((((w6.setCell ⟨w5.heap.size, 2, none⟩ (.slice (some ⟨w6.heap.size, 0, none⟩) n n)).setCell ⟨w.heap.size, 0, none⟩ (.int .i64 a)).setCell ⟨w.heap.size, 1, none⟩ (.int .i64 m)).setCell ⟨w.heap.size, 2, none⟩ (.slice (some ⟨w6.heap.size, 0, none⟩) n n)).heap.size = w6.heap.size := by simp
    generalize (((w6.setCell ⟨w5.heap.size, 2, none⟩ (.slice (some ⟨w6.heap.size, 0, none⟩) n n)).setCell ⟨w.heap.size, 0, none⟩ (.int .i64 a)).setCell ⟨w.heap.size, 1, none⟩ (.int .i64 m)).setCell ⟨w.heap.size, 2, none⟩ (.slice (some ⟨w6.heap.size, 0, none⟩) n n) = W5 at *
    have hown5 := own_zeros W5 n (by omega)
    rw [hsz5] at hown5
    exact ⟨a, m, .slice (some ⟨w6.heap.size, 0, none⟩) n n, List.replicate n 0, rfl, ⟨by omega, by omega⟩, ⟨by omega, by omega⟩, hown5.mono (by omega), by rw [List.length_replicate]; omega, (hc5.alloc _).mono (by omega), ho5.trans (Only.of_below ((Below.refl _ _).alloc (Nat.le_refl _) _))⟩
  have b0 : (x == 0) = false := by simpa using q0
  have b1 : (x == 1) = false := by simpa using q1
  have b2 : (x == 2) = false := by simpa using q2
  go_wp2
  refine bodyPost_ret (v := .agg #[.int .i64 a, .int .i64 m, .slice A1 p.length c1]) (by simp [results, Try.results62, go_sem, r0, r1, r2]) rfl ?_
  have hA : ∀ k ∈ (Value.slice A1 p.length c1).ownBlock.toList, w.heap.size ≠ k := fun k hk => by have h1 := HRG.out k hk; omega
  exact ⟨a, m, .slice A1 p.length c1, p, rfl, ⟨by omega, by omega⟩, ⟨by omega, by omega⟩, (ownSet9 (ownSet9 (ownSet9 hown2 hA 0 _) hA 1 _) hA 2 _).mono (by omega), by omega,
    (((hc2.setNew (b := w.heap.size) (by omega) 0 _).setNew (b := w.heap.size) (by omega) 1 _).setNew (b := w.heap.size) (by omega) 2 _).mono (by omega),
    ((ho2.setNew (Nat.le_refl _) 0 _).setNew (Nat.le_refl _) 1 _).setNew (Nat.le_refl _) 2 _⟩

end Go.Proofs.Ytgpjjolgpppeeaa

namespace Go.Proofs.Ytgpjjolgpppeeaa
open Go.RowKit P
set_option linter.unusedVariables false
set_option linter.unusedSimpArgs false
set_option maxRecDepth 100000

end Go.Proofs.Ytgpjjolgpppeeaa

namespace Go.Proofs.Ytgpjjolgpppeeaa
open Go.RowKit P
set_option linter.unusedVariables false
set_option linter.unusedSimpArgs false
set_option maxRecDepth 100000

end Go.Proofs.Ytgpjjolgpppeeaa

/-
  Chapter 7's draws of a lease and of a clock: contracts. Own work.
-/
namespace Go.Proofs.Ytgpjjolgpppeeaa
open Go.RowKit P
set_option linter.unusedVariables false
set_option linter.unusedSimpArgs false
set_option maxRecDepth 100000

/-- What a draw of one lease ends in. -/
def DrawsLe (g N : Nat) (w : World) (e : Ending) (w' : World) : Prop :=
  ∃ i j s t : Int, e = .returned (.agg #[.int .i64 i, .int .i64 j, .int .i64 s, .int .i64 t]) ∧ isI i ∧ isI j ∧ isI s ∧ isI t ∧ Cur w' g N ∧ Only g w w'
/-- Four cells written in a row into one new block. -/
theorem put4 {g : Nat} {a w : World} {b : Nat} (h : Only g a w) (hb : a.heap.size ≤ b) (x y s t : Value) : Only g a ((((w.setCell ⟨b, 0, none⟩ x).setCell ⟨b, 1, none⟩ y).setCell ⟨b, 2, none⟩ s).setCell ⟨b, 3, none⟩ t) :=
  (((h.setNew hb 0 x).setNew hb 1 y).setNew hb 2 s).setNew hb 3 t
theorem curPut4 {g N : Nat} {w : World} {b : Nat} (h : Cur w g N) (hb : g < b) (x y s t : Value) : Cur ((((w.setCell ⟨b, 0, none⟩ x).setCell ⟨b, 1, none⟩ y).setCell ⟨b, 2, none⟩ s).setCell ⟨b, 3, none⟩ t) g N :=
  (((h.setNew hb 0 x).setNew hb 1 y).setNew hb 2 s).setNew hb 3 t

set_option maxHeartbeats 8000000 in
theorem lease_any (g N : Nat) (w : World) (hN : N ≤ 10000000) (h : Cur w g N) :
    Calls Try.prog 121 #[.pointer (some ⟨g, 0, none⟩)] w (DrawsLe g (N + 4) w) := by
  have hglt := h.lt
  have hal := (Below.refl w.heap.size w).alloc (Nat.le_refl _) (.cells #[.int .i64 0, .int .i64 0, .int .i64 0, .int .i64 0] 43)
  have bR := Blk.new w #[.int .i64 0, .int .i64 0, .int .i64 0, .int .i64 0] 43
  have hc0 := h.only_new hal
  have ho0 : Only g w _ := Only.of_below hal
  clear h
  go_enter Try.func121, Try.ntmps121
  go_wp2_with fail
  generalize w.alloc (.cells #[.int .i64 0, .int .i64 0, .int .i64 0, .int .i64 0] 43) = W0 at *
  refine (pick_draws g N 20 _ (by omega) (by omega) (by omega) (by exact hc0)).mono ?_
  rintro e w1 ⟨i, rfl, hi0, hi1, hc1, ho1⟩
  have bR := bR.only ho1 (by omega)
  have ho1 := ho0.trans ho1
  clear hc0 ho0 hal
  go_wp2_with fail
  refine (pick_draws g (N + 1) 6 _ (by omega) (by omega) (by omega) (by exact hc1)).mono ?_
  rintro e w2 ⟨y, rfl, hy0, hy1, hc2, ho2⟩
  have bR := bR.only ho2 (by omega)
  have ho2 := ho1.trans ho2
  clear hc1 ho1
  go_wp2_with fail
  refine (pick_draws g (N + 2) 3 _ (by omega) (by omega) (by omega) (by exact hc2)).mono ?_
  rintro e w3 ⟨s, rfl, hs0, hs1, hc3, ho3⟩
  have bR := bR.only ho3 (by omega)
  have ho3 := ho2.trans ho3
  clear hc2 ho2
  go_wp2_with fail
  refine (pick_draws g (N + 3) 12 _ (by omega) (by omega) (by omega) (by exact hc3)).mono ?_
  rintro e w4 ⟨t, rfl, ht0, ht1, hc4, ho4⟩
  have bR := bR.only ho4 (by omega)
  have ho4 := ho3.trans ho4
  clear hc3 ho3
  have r0 := bR.cell 0
  have r1 := bR.cell 1
  have r2 := bR.cell 2
  have r3 := bR.cell 3
  have g0 := bR.frozen 0
  have g1 := bR.frozen 1
  have g2 := bR.frozen 2
  have g3 := bR.frozen 3
  have hlt := bR.lt
  have hw1 : IntKind.i64.wrap (i + 1) = i + 1 := IntWalk.i64_in _ ⟨by omega, by omega⟩
  have hw2 : IntKind.i64.wrap (i + 1 + y) = i + 1 + y := IntWalk.i64_in _ ⟨by omega, by omega⟩
  have hw3 : IntKind.i64.wrap (1 + s) = 1 + s := IntWalk.i64_in _ ⟨by omega, by omega⟩
  have hw4 : IntKind.i64.wrap (1 + t) = 1 + t := IntWalk.i64_in _ ⟨by omega, by omega⟩
  go_wp2
  refine bodyPost_ret (v := .agg #[.int .i64 i, .int .i64 (i + 1 + y), .int .i64 (1 + s), .int .i64 (1 + t)]) (by simp [results, Try.results121, go_sem, r0, r1, r2, r3]) rfl ?_
  exact ⟨i, i + 1 + y, 1 + s, 1 + t, rfl, ⟨by omega, by omega⟩, ⟨by omega, by omega⟩, ⟨by omega, by omega⟩, ⟨by omega, by omega⟩, curPut4 hc4 (by omega) _ _ _ _, put4 ho4 (Nat.le_refl _) _ _ _ _⟩


set_option maxHeartbeats 4000000 in
theorem now_any (g N : Nat) (w : World) (hN : N ≤ 10000000) (h : Cur w g N) :
    Calls Try.prog 63 #[.pointer (some ⟨g, 0, none⟩)] w (Draws g (N + 4) (-9223372036854775808) 9223372036854775807 w) := by
  go_enter Try.func63, Try.ntmps63
  go_wp2_with fail
  refine (pick_draws g N 14 _ (by omega) (by omega) (by omega) (by exact h)).mono ?_
  rintro e w1 ⟨x, rfl, hx0, hx1, hc1, ho1⟩
  clear h
  go_wp2_with fail
  refine (raw_any g (N + 1) _ (by omega) (by exact hc1)).mono ?_
  rintro e w2 ⟨r, rfl, hr0, hr1, hc2, ho2⟩
  have ho2 := ho1.trans ho2
  clear hc1 ho1
  go_wp2_with fail
  refine (pick_draws g (N + 1 + 2) 5 _ (by omega) (by omega) (by omega) (by exact hc2.alloc _)).mono ?_
  rintro e w3 ⟨z, rfl, hz0, hz1, hc3, ho3⟩
  obtain ⟨k, rfl⟩ := Int.eq_ofNat_of_zero_le hz0
  have hrow := ho3.row hc2.lt k
  obtain ⟨t, hv, hv0, hv1⟩ : ∃ v : Int, w3.cell? ⟨w2.heap.size, k, none⟩ = some (.int .i64 v) ∧ -9223372036854775808 ≤ v ∧ v ≤ 9223372036854775807 := by
    rw [hrow]
    match k, (show k < 5 by omega) with
    | 0, _ => exact ⟨_, rfl, by omega, by omega⟩
    | 1, _ => exact ⟨_, rfl, by omega, by omega⟩
    | 2, _ => exact ⟨_, rfl, by omega, by omega⟩
    | 3, _ => exact ⟨_, rfl, by omega, by omega⟩
    | 4, _ => exact ⟨_, rfl, by omega, by omega⟩
  clear hrow
  have ho3 := ho2.trans ho3.of_alloc
  go_wp2
  go_ret
  exact ⟨t, rfl, hv0, hv1, hc3, ho3⟩


set_option maxHeartbeats 16000000 in
theorem badLease_any (g N : Nat) (w : World) (hN : N ≤ 10000000) (h : Cur w g N) :
    Calls Try.prog 71 #[.pointer (some ⟨g, 0, none⟩)] w (DrawsLe g (N + 8) w) := by
  have hglt := h.lt
  have hal := (Below.refl w.heap.size w).alloc (Nat.le_refl _) (.cells #[.int .i64 0, .int .i64 0, .int .i64 0, .int .i64 0] 43)
  have bR := Blk.new w #[.int .i64 0, .int .i64 0, .int .i64 0, .int .i64 0] 43
  have hc0 := h.only_new hal
  have ho0 : Only g w _ := Only.of_below hal
  have hsW0 : w.heap.size + 1 ≤ (w.alloc (.cells #[.int .i64 0, .int .i64 0, .int .i64 0, .int .i64 0] 43)).heap.size := by simp
  clear h
  go_enter Try.func71, Try.ntmps71
  go_wp2_with fail
  generalize w.alloc (.cells #[.int .i64 0, .int .i64 0, .int .i64 0, .int .i64 0] 43) = W0 at *
  refine (lease_any g N _ (by omega) (by exact hc0)).mono ?_
  rintro e w1 ⟨i, j, s, t, rfl, hi, hj, hs, ht, hc1, ho1⟩
  have hz1 := ho1.size
  have bR := bR.only ho1 (by omega)
  have ho1 := ho0.trans ho1
  have hal1 := (Below.refl w1.heap.size w1).alloc (Nat.le_refl _) (.cells #[.int .i64 i, .int .i64 j, .int .i64 s, .int .i64 t] 43)
  have bL := Blk.new w1 #[.int .i64 i, .int .i64 j, .int .i64 s, .int .i64 t] 43
  have bR := bR.below hal1
  have hc1 := hc1.only_new hal1
  have ho1 := ho1.trans (Only.of_below hal1)
  have hwl : w.heap.size < w1.heap.size := by omega
  clear hc0 ho0 hal hal1
  go_wp2_with fail
  generalize w1.alloc (.cells #[.int .i64 i, .int .i64 j, .int .i64 s, .int .i64 t] 43) = W1 at *
  refine (pick_draws g (N + 4) 14 _ (by omega) (by omega) (by omega) (by exact hc1)).mono ?_
  rintro e w2 ⟨x, rfl, hx0, hx1, hc2, ho2⟩
  have bR := bR.only ho2 (by omega)
  have bL := bL.only ho2 (by omega)
  have ho2 := ho1.trans ho2
  clear hc1 ho1
  by_cases q0 : x = 0
  · subst q0
    go_wp2_with fail
    refine (raw_any g (N + 5) _ (by omega) (by exact hc2)).mono ?_
    rintro e w6 ⟨r, rfl, hr0, hr1, hc6, ho6⟩
    have bR := bR.only ho6 (by omega)
    have bL := bL.only ho6 (by omega)
    have hz6 := ho6.size
    have ho6 := ho2.trans ho6
    have hr : isI r := ⟨hr0, hr1⟩
    have r0 := bR.cell 0
    have r1 := bR.cell 1
    have r2 := bR.cell 2
    have r3 := bR.cell 3
    have g0 := bR.frozen 0
    have g1 := bR.frozen 1
    have g2 := bR.frozen 2
    have g3 := bR.frozen 3
    have e0 := bL.cell 0
    have e1 := bL.cell 1
    have e2 := bL.cell 2
    have e3 := bL.cell 3
    have f0 := bL.frozen 0
    have f1 := bL.frozen 1
    have f2 := bL.frozen 2
    have f3 := bL.frozen 3
    have hlt := bR.lt
    have hlt2 := bL.lt
    go_wp2
    refine bodyPost_ret (v := .agg #[.int .i64 r, .int .i64 j, .int .i64 s, .int .i64 t]) (by simp [results, Try.results71, go_sem, r0, r1, r2, r3]) rfl ?_
    exact ⟨r, j, s, t, rfl, hr, hj, hs, ht, curPut4 ((hc6.setNew (b := w1.heap.size) (by omega) 0 _).mono (by omega)) (by omega) _ _ _ _, put4 (ho6.setNew (b := w1.heap.size) (by omega) 0 _) (Nat.le_refl _) _ _ _ _⟩
  by_cases q1 : x = 1
  · subst q1
    have e0 := bL.cell 0
    go_upto_region 6 with fail
    refine wp_region_held_drew (S := (fun V => V.cell? ⟨w1.heap.size, 0, none⟩ = some (.int .i64 i))) (by kernel_rfl) (by exact e0) (fun hHeld => ?_)
    refine wpAnyH_take (i := 0) (oi := ?_) (v := ?_) ?_ ?_ ?_ ?_ ?_ ?_ (by exact hHeld) ?_
    rotate_left 2
    · (simp only [List.getElem?_toArray, List.getElem?_cons_zero]; try rfl)
    · kernel_rfl
    · kernel_rfl
    · kernel_rfl
    · exact fun _ _ _ h => h
    · refine Or.inl ⟨by rfl, ?_⟩
      (intro V hSV; (try dsimp only at hSV); have q0 := hSV; go_simp; try with_reducible rfl)
    (try simp only [Act.put, List.setIfInBounds_toArray, List.set_cons_zero, List.set_cons_succ])
    refine wpAnyH_take (i := 2) (oi := ?_) (v := ?_) ?_ ?_ ?_ ?_ ?_ ?_ (by exact hHeld) ?_
    rotate_left 2
    · (simp only [List.getElem?_toArray, List.getElem?_cons_zero, List.getElem?_cons_succ]; try rfl)
    · kernel_rfl
    · kernel_rfl
    · kernel_rfl
    · exact fun _ _ _ h => h
    · refine Or.inl ⟨by rfl, ?_⟩
      (intro V hSV; (try dsimp only at hSV); have q0 := hSV; go_simp; try with_reducible rfl)
    (try simp only [Act.put, List.setIfInBounds_toArray, List.set_cons_zero, List.set_cons_succ])
    refine wpAnyH_take (i := 3) (oi := ?_) (v := ?_) ?_ ?_ ?_ ?_ ?_ ?_ (by exact hHeld) ?_
    rotate_left 2
    · (simp only [List.getElem?_toArray, List.getElem?_cons_zero, List.getElem?_cons_succ]; try rfl)
    · kernel_rfl
    · kernel_rfl
    · kernel_rfl
    · exact fun _ _ _ h => h
    · refine Or.inl ⟨by rfl, ?_⟩
      (intro V hSV; (try dsimp only at hSV); have q0 := hSV; go_simp; try with_reducible rfl)
    (try simp only [Act.put, List.setIfInBounds_toArray, List.set_cons_zero, List.set_cons_succ])
    refine wpAnyH_take (i := 5) (oi := ?_) (v := ?_) ?_ ?_ ?_ ?_ ?_ ?_ (by exact hHeld) ?_
    rotate_left 2
    · (simp only [List.getElem?_toArray, List.getElem?_cons_zero, List.getElem?_cons_succ]; try rfl)
    · kernel_rfl
    · kernel_rfl
    · kernel_rfl
    · exact fun _ _ _ h => h
    · refine Or.inl ⟨by rfl, ?_⟩
      (intro V hSV; (try dsimp only at hSV); have q0 := hSV; go_simp; try with_reducible rfl)
    (try simp only [Act.put, List.setIfInBounds_toArray, List.set_cons_zero, List.set_cons_succ])
    refine wpAnyH_ready (rs := [1]) (by kernel_rfl) (by simp) ?_
    refine AllReadyH.cons rfl (fun K hK => ?_) AllReadyH.nil
    go_simp
    refine (raw_any g (N + 5) _ (by omega) (by exact hc2)).mono ?_
    rintro e w6 ⟨r, rfl, hr0, hr1, hc6, ho6⟩
    have ho6 : Only g w2 w6 := ⟨ho6.os, ho6.tape, ho6.output, ho6.size, ho6.block⟩
    have bR := bR.only ho6 (by omega)
    have bL := bL.only ho6 (by omega)
    have hz6 := ho6.size
    have ho6 := ho2.trans ho6
    have hr : isI r := ⟨hr0, hr1⟩
    have e0 := bL.cell 0
    go_wp2_with fail
    refine hK.out _ _ (by exact e0) (fun hHeld => ?_)
    clear hK K
    (try simp only [Act.put, List.setIfInBounds_toArray, List.set_cons_zero, List.set_cons_succ])
    refine wpAnyH_ready (rs := [4, 6]) (by kernel_rfl) (by simp) ?_
    refine AllReadyH.cons (o := ?_) ?_ (fun K hK => ?_) ?_
    rotate_left 1
    · (simp only [List.getElem?_toArray, List.getElem?_cons_zero, List.getElem?_cons_succ]; try rfl)
    · have hal6 := (Below.refl w6.heap.size w6).alloc (Nat.le_refl _) (.cells #[.int .i64 r, .int .i64 i, .int .i64 400, .int .i64 401] 3)
      go_simp
      refine hK.out _ _ (by exact (bL.below hal6).cell 0) (fun hHeld => ?_)
      clear hK K
      (try simp only [Act.put, List.setIfInBounds_toArray, List.set_cons_zero, List.set_cons_succ])
      refine wpAnyH_ready (rs := [6]) (by kernel_rfl) (by simp) ?_
      refine AllReadyH.cons rfl (fun K hK => ?_) AllReadyH.nil
      go_simp
      refine (pick_draws g (N + 7) 4 _ (by omega) (by omega) (by omega) (by exact hc6.alloc _)).mono ?_
      rintro e w7 ⟨z, rfl, hz0, hz1, hc7, ho7⟩
      have ho7 : Only g (w6.alloc (.cells #[.int .i64 r, .int .i64 i, .int .i64 400, .int .i64 401] 3)) w7 := ⟨ho7.os, ho7.tape, ho7.output, ho7.size, ho7.block⟩
      have hrow := ho7.row hc6.lt
      have bR := (bR.below hal6).only ho7 (by omega)
      have bL := (bL.below hal6).only ho7 (by omega)
      have ho7 := ho6.trans ho7.of_alloc
      have e0 := bL.cell 0
      go_wp2_with fail
      refine hK.out _ _ (by exact e0) (fun hHeld => ?_)
      clear hK K
      (try simp only [Act.put, List.setIfInBounds_toArray, List.set_cons_zero, List.set_cons_succ])
      obtain ⟨k, rfl⟩ := Int.eq_ofNat_of_zero_le hz0
      have hk4 : (k : Int) < 4 := by omega
      obtain ⟨v, hv, hvI⟩ : ∃ v : Int, (w7).cell? ⟨w6.heap.size, k, none⟩ = some (.int .i64 v) ∧ isI v := by
        rw [hrow k]
        match k, (show k < 4 by omega) with
        | 0, _ => exact ⟨_, rfl, hr⟩
        | 1, _ => exact ⟨_, rfl, hi⟩
        | 2, _ => exact ⟨_, rfl, by decide, by decide⟩
        | 3, _ => exact ⟨_, rfl, by decide, by decide⟩
      clear hrow
      have r0 := bR.cell 0
      have r1 := bR.cell 1
      have r2 := bR.cell 2
      have r3 := bR.cell 3
      have g0 := bR.frozen 0
      have g1 := bR.frozen 1
      have g2 := bR.frozen 2
      have g3 := bR.frozen 3
      have e0 := bL.cell 0
      have e1 := bL.cell 1
      have e2 := bL.cell 2
      have e3 := bL.cell 3
      have f0 := bL.frozen 0
      have f1 := bL.frozen 1
      have f2 := bL.frozen 2
      have f3 := bL.frozen 3
      have hlt := bR.lt
      have hlt2 := bL.lt
      refine wpAnyH_take (i := 7) (oi := ?_) (v := ?_) ?_ ?_ ?_ ?_ ?_ ?_ (by exact hHeld) ?_
      rotate_left 2
      · (simp only [List.getElem?_toArray, List.getElem?_cons_zero, List.getElem?_cons_succ]; try rfl)
      · kernel_rfl
      · kernel_rfl
      · kernel_rfl
      · exact fun _ _ _ h => h
      · refine Or.inl ⟨by rfl, ?_⟩
        (intro V hSV; (try dsimp only at hSV); have q0 := hSV; go_simp; try with_reducible rfl)
      (try simp only [Act.put, List.setIfInBounds_toArray, List.set_cons_zero, List.set_cons_succ])
      refine wpAnyH_ready (rs := [8]) (by kernel_rfl) (by simp) ?_
      refine AllReadyH.cons (o := ?_) ?_ (fun K hK => ?_) AllReadyH.nil
      rotate_left 1
      · (simp only [List.getElem?_toArray, List.getElem?_cons_zero, List.getElem?_cons_succ]; try rfl)
      go_simp
      refine hK.out _ _ (by exact e0) (fun hHeld => ?_)
      clear hK K
      (try simp only [Act.put, List.setIfInBounds_toArray, List.set_cons_zero, List.set_cons_succ])
      refine wpAnyH_take (i := 9) (oi := ?_) (v := ?_) ?_ ?_ ?_ ?_ ?_ ?_ (by exact hHeld) ?_
      rotate_left 2
      · (simp only [List.getElem?_toArray, List.getElem?_cons_zero, List.getElem?_cons_succ]; try rfl)
      · kernel_rfl
      · kernel_rfl
      · kernel_rfl
      · exact fun _ _ _ h => h
      · refine Or.inl ⟨by rfl, ?_⟩
        (intro V hSV; (try dsimp only at hSV); have q0 := hSV; go_simp; try with_reducible rfl)
      (try simp only [Act.put, List.setIfInBounds_toArray, List.set_cons_zero, List.set_cons_succ])
      refine wpAnyH_ready (rs := [10]) (by kernel_rfl) (by simp) ?_
      refine AllReadyH.cons (o := ?_) ?_ (fun K hK => ?_) AllReadyH.nil
      rotate_left 1
      · (simp only [List.getElem?_toArray, List.getElem?_cons_zero, List.getElem?_cons_succ]; try rfl)
      go_simp
      refine hK.out _ _ (by exact (bL.set 1 (.int .i64 v)).cell 0) (fun hHeld => ?_)
      clear hK K
      (try simp only [Act.put, List.setIfInBounds_toArray, List.set_cons_zero, List.set_cons_succ])
      refine wpAnyH_done (by kernel_rfl) ?_ _
      go_wp2
      refine bodyPost_ret (v := .agg #[.int .i64 i, .int .i64 v, .int .i64 s, .int .i64 t]) (by simp [results, Try.results71, go_sem, r0, r1, r2, r3]) rfl ?_
      exact ⟨i, v, s, t, rfl, hi, hvI, hs, ht, curPut4 ((hc7.setNew (b := w1.heap.size) (by omega) 1 _).mono (by omega)) (by omega) _ _ _ _, put4 (ho7.setNew (b := w1.heap.size) (by omega) 1 _) (Nat.le_refl _) _ _ _ _⟩
    refine AllReadyH.cons (o := ?_) ?_ (fun K hK => ?_) AllReadyH.nil
    rotate_left 1
    · (simp only [List.getElem?_toArray, List.getElem?_cons_zero, List.getElem?_cons_succ]; try rfl)
    go_simp
    refine (pick_draws g (N + 7) 4 _ (by omega) (by omega) (by omega) (by exact hc6)).mono ?_
    rintro e w7 ⟨z, rfl, hz0, hz1, hc7, ho7⟩
    have ho7 : Only g w6 w7 := ⟨ho7.os, ho7.tape, ho7.output, ho7.size, ho7.block⟩
    have bR := bR.only ho7 (by omega)
    have bL := bL.only ho7 (by omega)
    have hz7 := ho7.size
    have ho7 := ho6.trans ho7
    have e0 := bL.cell 0
    go_wp2_with fail
    refine hK.out _ _ (by exact e0) (fun hHeld => ?_)
    clear hK K
    (try simp only [Act.put, List.setIfInBounds_toArray, List.set_cons_zero, List.set_cons_succ])
    refine wpAnyH_ready (rs := [4]) (by kernel_rfl) (by simp) ?_
    refine AllReadyH.cons (o := ?_) ?_ (fun K hK => ?_) AllReadyH.nil
    rotate_left 1
    · (simp only [List.getElem?_toArray, List.getElem?_cons_zero, List.getElem?_cons_succ]; try rfl)
    have hal7 := (Below.refl w7.heap.size w7).alloc (Nat.le_refl _) (.cells #[.int .i64 r, .int .i64 i, .int .i64 400, .int .i64 401] 3)
    go_simp
    refine hK.out _ _ (by exact (bL.below hal7).cell 0) (fun hHeld => ?_)
    clear hK K
    (try simp only [Act.put, List.setIfInBounds_toArray, List.set_cons_zero, List.set_cons_succ])
    have hrow := (Blk.new w7 #[.int .i64 r, .int .i64 i, .int .i64 400, .int .i64 401] 3).cell
    have bR := bR.below hal7
    have bL := bL.below hal7
    have ho7 := ho7.trans (Only.of_below hal7)
    have hc7 := hc7.alloc (.cells #[.int .i64 r, .int .i64 i, .int .i64 400, .int .i64 401] 3)
    have e0 := bL.cell 0
    obtain ⟨k, rfl⟩ := Int.eq_ofNat_of_zero_le hz0
    have hk4 : (k : Int) < 4 := by omega
    obtain ⟨v, hv, hvI⟩ : ∃ v : Int, (w7.alloc (.cells #[.int .i64 r, .int .i64 i, .int .i64 400, .int .i64 401] 3)).cell? ⟨w7.heap.size, k, none⟩ = some (.int .i64 v) ∧ isI v := by
      rw [hrow k]
      match k, (show k < 4 by omega) with
      | 0, _ => exact ⟨_, rfl, hr⟩
      | 1, _ => exact ⟨_, rfl, hi⟩
      | 2, _ => exact ⟨_, rfl, by decide, by decide⟩
      | 3, _ => exact ⟨_, rfl, by decide, by decide⟩
    clear hrow
    have r0 := bR.cell 0
    have r1 := bR.cell 1
    have r2 := bR.cell 2
    have r3 := bR.cell 3
    have g0 := bR.frozen 0
    have g1 := bR.frozen 1
    have g2 := bR.frozen 2
    have g3 := bR.frozen 3
    have e0 := bL.cell 0
    have e1 := bL.cell 1
    have e2 := bL.cell 2
    have e3 := bL.cell 3
    have f0 := bL.frozen 0
    have f1 := bL.frozen 1
    have f2 := bL.frozen 2
    have f3 := bL.frozen 3
    have hlt := bR.lt
    have hlt2 := bL.lt
    refine wpAnyH_take (i := 7) (oi := ?_) (v := ?_) ?_ ?_ ?_ ?_ ?_ ?_ (by exact hHeld) ?_
    rotate_left 2
    · (simp only [List.getElem?_toArray, List.getElem?_cons_zero, List.getElem?_cons_succ]; try rfl)
    · kernel_rfl
    · kernel_rfl
    · kernel_rfl
    · exact fun _ _ _ h => h
    · refine Or.inl ⟨by rfl, ?_⟩
      (intro V hSV; (try dsimp only at hSV); have q0 := hSV; go_simp; try with_reducible rfl)
    (try simp only [Act.put, List.setIfInBounds_toArray, List.set_cons_zero, List.set_cons_succ])
    refine wpAnyH_ready (rs := [8]) (by kernel_rfl) (by simp) ?_
    refine AllReadyH.cons (o := ?_) ?_ (fun K hK => ?_) AllReadyH.nil
    rotate_left 1
    · (simp only [List.getElem?_toArray, List.getElem?_cons_zero, List.getElem?_cons_succ]; try rfl)
    go_simp
    refine hK.out _ _ (by exact e0) (fun hHeld => ?_)
    clear hK K
    (try simp only [Act.put, List.setIfInBounds_toArray, List.set_cons_zero, List.set_cons_succ])
    refine wpAnyH_take (i := 9) (oi := ?_) (v := ?_) ?_ ?_ ?_ ?_ ?_ ?_ (by exact hHeld) ?_
    rotate_left 2
    · (simp only [List.getElem?_toArray, List.getElem?_cons_zero, List.getElem?_cons_succ]; try rfl)
    · kernel_rfl
    · kernel_rfl
    · kernel_rfl
    · exact fun _ _ _ h => h
    · refine Or.inl ⟨by rfl, ?_⟩
      (intro V hSV; (try dsimp only at hSV); have q0 := hSV; go_simp; try with_reducible rfl)
    (try simp only [Act.put, List.setIfInBounds_toArray, List.set_cons_zero, List.set_cons_succ])
    refine wpAnyH_ready (rs := [10]) (by kernel_rfl) (by simp) ?_
    refine AllReadyH.cons (o := ?_) ?_ (fun K hK => ?_) AllReadyH.nil
    rotate_left 1
    · (simp only [List.getElem?_toArray, List.getElem?_cons_zero, List.getElem?_cons_succ]; try rfl)
    go_simp
    refine hK.out _ _ (by exact (bL.set 1 (.int .i64 v)).cell 0) (fun hHeld => ?_)
    clear hK K
    (try simp only [Act.put, List.setIfInBounds_toArray, List.set_cons_zero, List.set_cons_succ])
    refine wpAnyH_done (by kernel_rfl) ?_ _
    go_wp2
    refine bodyPost_ret (v := .agg #[.int .i64 i, .int .i64 v, .int .i64 s, .int .i64 t]) (by simp [results, Try.results71, go_sem, r0, r1, r2, r3]) rfl ?_
    exact ⟨i, v, s, t, rfl, hi, hvI, hs, ht, curPut4 ((hc7.setNew (b := w1.heap.size) (by omega) 1 _).mono (by omega)) (by omega) _ _ _ _, put4 (ho7.setNew (b := w1.heap.size) (by omega) 1 _) (Nat.le_refl _) _ _ _ _⟩
  by_cases q2 : x = 2
  · subst q2
    go_wp2_with fail
    refine (raw_any g (N + 5) _ (by omega) (by exact hc2)).mono ?_
    rintro e w6 ⟨r, rfl, hr0, hr1, hc6, ho6⟩
    have bR := bR.only ho6 (by omega)
    have bL := bL.only ho6 (by omega)
    have hz6 := ho6.size
    have ho6 := ho2.trans ho6
    have hr : isI r := ⟨hr0, hr1⟩
    have hal6 := (Below.refl w6.heap.size w6).alloc (Nat.le_refl _) (.cells #[.int .i64 r, .int .i64 8, .int .i64 9] 3)
    go_wp2_with fail
    refine (pick_draws g (N + 7) 3 _ (by omega) (by omega) (by omega) (by exact hc6.alloc _)).mono ?_
    rintro e w7 ⟨z, rfl, hz0, hz1, hc7, ho7⟩
    obtain ⟨k, rfl⟩ := Int.eq_ofNat_of_zero_le hz0
    have hrow := ho7.row hc6.lt k
    obtain ⟨v, hv, hv0, hv1⟩ : ∃ v : Int, w7.cell? ⟨w6.heap.size, k, none⟩ = some (.int .i64 v) ∧ -9223372036854775808 ≤ v ∧ v ≤ 9223372036854775807 := by
      rw [hrow]
      match k, (show k < 3 by omega) with
      | 0, _ => exact ⟨_, rfl, by (try unfold isI at *); omega, by (try unfold isI at *); omega⟩
      | 1, _ => exact ⟨_, rfl, by (try unfold isI at *); omega, by (try unfold isI at *); omega⟩
      | 2, _ => exact ⟨_, rfl, by (try unfold isI at *); omega, by (try unfold isI at *); omega⟩
    clear hrow
    have bR := (bR.below hal6).only ho7 (by omega)
    have bL := (bL.below hal6).only ho7 (by omega)
    have ho7 := ho6.trans ho7.of_alloc
    have hvI : isI v := ⟨hv0, hv1⟩
    have r0 := bR.cell 0
    have r1 := bR.cell 1
    have r2 := bR.cell 2
    have r3 := bR.cell 3
    have g0 := bR.frozen 0
    have g1 := bR.frozen 1
    have g2 := bR.frozen 2
    have g3 := bR.frozen 3
    have e0 := bL.cell 0
    have e1 := bL.cell 1
    have e2 := bL.cell 2
    have e3 := bL.cell 3
    have f0 := bL.frozen 0
    have f1 := bL.frozen 1
    have f2 := bL.frozen 2
    have f3 := bL.frozen 3
    have hlt := bR.lt
    have hlt2 := bL.lt
    go_wp2
    refine bodyPost_ret (v := .agg #[.int .i64 i, .int .i64 j, .int .i64 v, .int .i64 t]) (by simp [results, Try.results71, go_sem, r0, r1, r2, r3]) rfl ?_
    exact ⟨i, j, v, t, rfl, hi, hj, hvI, ht, curPut4 ((hc7.setNew (b := w1.heap.size) (by omega) 2 _).mono (by omega)) (by omega) _ _ _ _, put4 (ho7.setNew (b := w1.heap.size) (by omega) 2 _) (Nat.le_refl _) _ _ _ _⟩
  by_cases q3 : x = 3
  · subst q3
    go_wp2_with fail
    refine (raw_any g (N + 5) _ (by omega) (by exact hc2)).mono ?_
    rintro e w6 ⟨r, rfl, hr0, hr1, hc6, ho6⟩
    have bR := bR.only ho6 (by omega)
    have bL := bL.only ho6 (by omega)
    have hz6 := ho6.size
    have ho6 := ho2.trans ho6
    have hr : isI r := ⟨hr0, hr1⟩
    have hal6 := (Below.refl w6.heap.size w6).alloc (Nat.le_refl _) (.cells #[.int .i64 r, .int .i64 1000, .int .i64 1001] 3)
    go_wp2_with fail
    refine (pick_draws g (N + 7) 3 _ (by omega) (by omega) (by omega) (by exact hc6.alloc _)).mono ?_
    rintro e w7 ⟨z, rfl, hz0, hz1, hc7, ho7⟩
    obtain ⟨k, rfl⟩ := Int.eq_ofNat_of_zero_le hz0
    have hrow := ho7.row hc6.lt k
    obtain ⟨v, hv, hv0, hv1⟩ : ∃ v : Int, w7.cell? ⟨w6.heap.size, k, none⟩ = some (.int .i64 v) ∧ -9223372036854775808 ≤ v ∧ v ≤ 9223372036854775807 := by
      rw [hrow]
      match k, (show k < 3 by omega) with
      | 0, _ => exact ⟨_, rfl, by (try unfold isI at *); omega, by (try unfold isI at *); omega⟩
      | 1, _ => exact ⟨_, rfl, by (try unfold isI at *); omega, by (try unfold isI at *); omega⟩
      | 2, _ => exact ⟨_, rfl, by (try unfold isI at *); omega, by (try unfold isI at *); omega⟩
    clear hrow
    have bR := (bR.below hal6).only ho7 (by omega)
    have bL := (bL.below hal6).only ho7 (by omega)
    have ho7 := ho6.trans ho7.of_alloc
    have hvI : isI v := ⟨hv0, hv1⟩
    have r0 := bR.cell 0
    have r1 := bR.cell 1
    have r2 := bR.cell 2
    have r3 := bR.cell 3
    have g0 := bR.frozen 0
    have g1 := bR.frozen 1
    have g2 := bR.frozen 2
    have g3 := bR.frozen 3
    have e0 := bL.cell 0
    have e1 := bL.cell 1
    have e2 := bL.cell 2
    have e3 := bL.cell 3
    have f0 := bL.frozen 0
    have f1 := bL.frozen 1
    have f2 := bL.frozen 2
    have f3 := bL.frozen 3
    have hlt := bR.lt
    have hlt2 := bL.lt
    go_wp2
    refine bodyPost_ret (v := .agg #[.int .i64 i, .int .i64 j, .int .i64 s, .int .i64 v]) (by simp [results, Try.results71, go_sem, r0, r1, r2, r3]) rfl ?_
    exact ⟨i, j, s, v, rfl, hi, hj, hs, hvI, curPut4 ((hc7.setNew (b := w1.heap.size) (by omega) 3 _).mono (by omega)) (by omega) _ _ _ _, put4 (ho7.setNew (b := w1.heap.size) (by omega) 3 _) (Nat.le_refl _) _ _ _ _⟩
  have p0 : (x == 0) = false := by simp [q0]
  have p1 : (x == 1) = false := by simp [q1]
  have p2 : (x == 2) = false := by simp [q2]
  have p3 : (x == 3) = false := by simp [q3]
  have r0 := bR.cell 0
  have r1 := bR.cell 1
  have r2 := bR.cell 2
  have r3 := bR.cell 3
  have g0 := bR.frozen 0
  have g1 := bR.frozen 1
  have g2 := bR.frozen 2
  have g3 := bR.frozen 3
  have e0 := bL.cell 0
  have e1 := bL.cell 1
  have e2 := bL.cell 2
  have e3 := bL.cell 3
  have f0 := bL.frozen 0
  have f1 := bL.frozen 1
  have f2 := bL.frozen 2
  have f3 := bL.frozen 3
  have hlt := bR.lt
  have hlt2 := bL.lt
  go_wp2
  refine bodyPost_ret (v := .agg #[.int .i64 i, .int .i64 j, .int .i64 s, .int .i64 t]) (by simp [results, Try.results71, go_sem, r0, r1, r2, r3]) rfl ?_
  exact ⟨i, j, s, t, rfl, hi, hj, hs, ht, curPut4 (hc2.mono (by omega)) (by omega) _ _ _ _, put4 ho2 (Nat.le_refl _) _ _ _ _⟩
end Go.Proofs.Ytgpjjolgpppeeaa

/-
  Chapter 7's draw of a list of leases: contract. Own work.
-/
namespace Go.Proofs.Ytgpjjolgpppeeaa
open Go.RowKit P
set_option linter.unusedVariables false
set_option linter.unusedSimpArgs false
set_option maxRecDepth 100000

theorem OwR.only {w w' : World} {g base : Nat} {v : Value} {es : List Le} (h : OwR w base v es) (ho : Only g w w') (hb : g < base) : OwR w' base v es := by
  refine ⟨World.ownsRow.kept (w' := w') (row := some g) h.row ho ?_, h.in_⟩
  cases hv : v.ownBlock with
  | none => exact .inl rfl
  | some k =>
    have := (World.ownsRow.lt h.row k hv).1
    right
    intro e
    injection e with e
    omega
theorem Only.grownR {g base : Nat} {a w w' : World} {v : Value} {es : List Le} (h : Only g a w) (hown : OwR w base v es) (hg : w.grownBy w' v.ownBlock) (hb : a.heap.size ≤ base) : Only g a w' :=
  ⟨hg.os.trans h.os, hg.tape.trans h.tape, hg.output.trans h.output, Nat.le_trans h.size hg.size, fun k hk hne =>
    (hg.block k (Nat.lt_of_lt_of_le hk h.size) (fun e => by have := (World.ownsRow.lt hown.row k e.symm).1; omega)).trans (h.block k hk hne)⟩
theorem Cur.grownR {g N base : Nat} {w w' : World} {v : Value} {es : List Le} (h : Cur w g N) (hown : OwR w base v es) (hg : w.grownBy w' v.ownBlock) (hb : g < base) : Cur w' g N :=
  h.keep (fun k hk => hg.block k (by have := h.lt; omega) (fun e => by have := (World.ownsRow.lt hown.row k e.symm).1; omega)) hg.size
theorem takeL_12 {es : List Le} {l : Le} {now : Int} (h : takeN es l now = 0) : (takeL es l now).length ≤ 12 := by
  have h1 := takeN_zero h
  have h2 := putL_length es l
  unfold takeL
  rw [if_pos h]
  omega

/-- What a draw of a list of leases ends in. -/
def DrawsLs (g N : Nat) (w : World) (e : Ending) (w' : World) : Prop := ∃ v es, e = .returned v ∧ OwR w' w.heap.size v es ∧ es.length ≤ 13 ∧ Cur w' g N ∧ Only g w w'

set_option maxHeartbeats 16000000 in
theorem leases_any (g N : Nat) (w : World) (hN : N ≤ 9000) (h : Cur w g N) :
    Calls Try.prog 59 #[.pointer (some ⟨g, 0, none⟩)] w (DrawsLs g (N + 90) w) := by
  have hglt := h.lt
  have hown0 := OwR.empty w
  have hal := (Below.refl w.heap.size w).alloc (Nat.le_refl _) (.cells #[] 43)
  have hc0 := h.only_new hal
  have ho0 : Only g w _ := Only.of_below hal
  clear h
  go_enter Try.func59, Try.ntmps59
  go_wp2_with fail
  generalize w.alloc (.cells #[] 43) = W0 at *
  refine (size_any g N 16 _ (by omega) (by omega) (by omega) (by exact hc0)).mono ?_
  rintro e w1 ⟨x, rfl, hx0, hx1, hc1, ho1⟩
  obtain ⟨j0, rfl⟩ := Int.eq_ofNat_of_zero_le hx0
  have hj0 : j0 ≤ 16 := by omega
  have how1 := hown0.only ho1 (by omega)
  have ho1 := ho0.trans ho1
  clear hc0 ho0 hown0 hal hx0 hx1
  go_wp2
  go_loopw [3, 4] (fun lv kk wr => ∃ (j : Nat) (v : Value) (es : List Le), kk = .int .i64 j ∧ v = lv ∧ j ≤ 16 ∧ OwR wr w.heap.size v es ∧ es.length ≤ 12 ∧ Cur wr g (N + 1 + 4 * (16 - j)) ∧ Only g w wr) (fun _ kk _ => (intOf kk).toNat)
  case atStart => exact ⟨j0, _, [], rfl, rfl, hj0, how1, by simp, hc1.mono (by omega), ho1⟩
  case round =>
    obtain ⟨j, v, es, rfl, rfl, hj, how, hes, hcur, honly⟩ := hrel
    by_cases hjp : 0 < j
    · go_wp2_with fail
      refine (lease_any g (N + 1 + 4 * (16 - j)) _ (by omega) (by exact hcur)).mono ?_
      rintro e w4 ⟨li, lj, ls, lt, rfl, hi, hjj, hs, ht, hc4, ho4⟩
      have how4 := how.only ho4 (by omega)
      have honly4 := honly.trans ho4
      obtain ⟨A4, c4, rfl, hcap4, hm4, hL4⟩ := how4.ll
      have HOW4 := Lib.hid how4
      have HON := Lib.hid honly4
      have HC4 := Lib.hid hc4
      clear how how4 honly honly4 hcur hc4 ho4
      go_wp2_with fail
      refine (specLeaseTake_any A4 es c4 li lj ls lt 0 _ (by omega) ⟨hcap4, hm4⟩ (by exact hL4)).mono ?_
      rintro e w5 ⟨v5, rfl, how5, hb5⟩
      obtain ⟨n, hn⟩ : ∃ n, takeN es (li, lj, ls, lt) 0 = n := ⟨_, rfl⟩
      rw [hn]
      have hs4 := HON.out.size
      by_cases hz : n = 0
      · have hlen := takeL_12 (hn.trans hz)
        generalize takeL es (li, lj, ls, lt) 0 = es5 at *
        have how5 := how5.mono (base' := w.heap.size) (by omega)
        have hc5 := HC4.out.only_new hb5
        have ho5 := HON.out.trans (Only.of_below hb5)
        subst hz
        have HW := Lib.hid how5
        have HC := Lib.hid hc5
        have HO := Lib.hid ho5
        clear hn how5 hc5 ho5 hb5 hL4
        go_wp2
        go_roundw
        case rel => exact ⟨j - 1, _, es5, by go_num, rfl, by omega, HW.out, hlen, HC.out.mono (by omega), HO.out⟩
        case measure => simp [intOf]; omega
      · have hz2 : (n == 0) = false := by simp [hz]
        have how6 := HOW4.out.below hb5
        have hc5 := HC4.out.only_new hb5
        have ho5 := HON.out.trans (Only.of_below hb5)
        have HW := Lib.hid how6
        have HC := Lib.hid hc5
        have HO := Lib.hid ho5
        clear hn hz how5 how6 hc5 ho5 hb5 hL4
        go_wp2
        go_roundw
        case rel => exact ⟨j - 1, _, es, by go_num, rfl, by omega, HW.out, hes, HC.out.mono (by omega), HO.out⟩
        case measure => simp [intOf]; omega
    · obtain rfl : j = 0 := by omega
      have hcur := hcur.mono (M := N + 70) (by omega)
      go_wp2_with fail
      refine (pick_draws g (N + 70) 14 _ (by omega) (by omega) (by omega) (by exact hcur)).mono ?_
      rintro e w2 ⟨x, rfl, hx0, hx1, hc2, ho2⟩
      have how := how.only ho2 (by omega)
      have honly := honly.trans ho2
      obtain ⟨A2, c2, rfl, hcap2, hm2, hL2⟩ := how.ll
      have hsz := honly.size
      clear hcur ho2
      by_cases q0 : x = 0
      · subst q0
        go_wp2_with fail
        refine (badLease_any g (N + 71) _ (by omega) (by exact hc2)).mono ?_
        rintro e w6 ⟨li, lj, ls, lt, rfl, hi, hjj, hs, ht, hc6, ho6⟩
        have how6 := how.only ho6 (by omega)
        have honly6 := honly.trans ho6
        have hs6 := honly6.size
        have hnew := ll_new w6 (l := (li, lj, ls, lt)) ⟨hi, hjj, hs, ht⟩
        have hal6 := (Below.refl w6.heap.size w6).alloc (Nat.le_refl _) (.cells (leC (li, lj, ls, lt)) 43)
        have how7 := how6.below hal6
        have HC := Lib.hid (hc6.only_new hal6)
        have HO := Lib.hid (honly6.trans (Only.of_below hal6))
        clear how how6 honly honly6 hc6 ho6 hc2 hal6 hL2
        go_wp2_with (at_builtin; go_must (refine wpList_app_le rfl _ _ rfl w.heap.size _ es [(li, lj, ls, lt)] _ 1 1 rfl rfl rfl how7 hnew ?c1 ?c2 ?_))
        case c1 => simp; omega
        case c2 => simp; omega
        intro v8 w8 how8 hg8 _
        have hc8 := HC.out.grownR how7 hg8 (by omega)
        have ho8 := HO.out.grownR how7 hg8 (Nat.le_refl _)
        clear how7 hg8 hnew HC HO
        go_wp2
        go_ret
        exact ⟨v8, _, rfl, how8, by simp; omega, hc8.mono (by omega), ho8⟩
      have p0 : (x == 0) = false := by simp [q0]
      by_cases q1 : x = 1
      · subst q1
        by_cases hl0 : 0 < es.length
        · have hl1 : (0 : Int) < (es.length : Int) := by omega
          clear hL2
          go_wp2_with fail
          refine (pick_draws g (N + 71) es.length _ (by omega) (by omega) (by omega) (by exact hc2)).mono ?_
          rintro e w3 ⟨y, rfl, hy0, hy1, hc3, ho3⟩
          obtain ⟨k, rfl⟩ := Int.eq_ofNat_of_zero_le hy0
          have hk : k < es.length := by omega
          have hk0 : (0 : Int) ≤ (k : Int) := by omega
          have hk1 : (k : Int) < (es.length : Int) := by omega
          have how3 := how.only ho3 (by omega)
          have honly3 := honly.trans ho3
          clear how honly hc2 ho3 hy0 hy1
          go_wp2_with fail
          refine (badLease_any g (N + 72) _ (by omega) (by exact hc3)).mono ?_
          rintro e w6 ⟨li, lj, ls, lt, rfl, hi, hjj, hs, ht, hc6, ho6⟩
          have how6 := how3.only ho6 (by omega)
          have honly6 := honly3.trans ho6
          obtain ⟨gb, rfl, hgb, cur, hB9⟩ : ∃ gb, A2 = some ⟨gb, 0, none⟩ ∧ w.heap.size ≤ gb ∧ ∃ cur, Blk w6 gb cur 43 := by
            rcases how6.row.2 with ⟨e, h0⟩ | ⟨g', cap, cur, e, hbg, hh9, _⟩
            · omega
            · cases e; exact ⟨g', rfl, hbg, cur, hh9⟩
          obtain ⟨_, _, e9, _, _, hL6⟩ := how6.ll
          cases e9
          obtain ⟨b9, off9, x9, y9, s9, t9, e9, hbl9, hek9, k0, k1, k2, k3, _⟩ := hL6.at_ k hk
          cases e9
          have hset := how6.set4 k hk li lj ls lt ⟨hi, hjj, hs, ht⟩
          have f0 := hB9.frozen (k * 4)
          have f1 := hB9.frozen (k * 4 + 1)
          have f2 := hB9.frozen (k * 4 + 2)
          have f3 := hB9.frozen (k * 4 + 3)
          simp only [Nat.zero_add] at k0 k1 k2 k3
          have HS := Lib.hid hset
          have HC := Lib.hid ((((hc6.setNew (b := gb) (by omega) (k * 4) (.int .i64 li)).setNew (b := gb) (by omega) (k * 4 + 1) (.int .i64 lj)).setNew (b := gb) (by omega) (k * 4 + 2) (.int .i64 ls)).setNew (b := gb) (by omega) (k * 4 + 3) (.int .i64 lt))
          have HO := Lib.hid ((((honly6.setNew (b := gb) hgb (k * 4) (.int .i64 li)).setNew (b := gb) hgb (k * 4 + 1) (.int .i64 lj)).setNew (b := gb) hgb (k * 4 + 2) (.int .i64 ls)).setNew (b := gb) hgb (k * 4 + 3) (.int .i64 lt))
          clear hset how6 how3 honly3 honly6 hc6 hc3 ho6 hL6 hek9 hB9
          go_wp2
          go_ret
          exact ⟨_, es.set k (li, lj, ls, lt), rfl, HS.out, by rw [List.length_set]; omega, HC.out.mono (by omega), HO.out⟩
        · obtain rfl : es = [] := List.eq_nil_of_length_eq_zero (by omega)
          have HW := Lib.hid how
          have HC := Lib.hid hc2
          have HO := Lib.hid honly
          clear how hc2 honly hL2 hl0 hcap2 hes
          go_wp2
          go_ret
          exact ⟨_, [], rfl, HW.out, by simp, HC.out.mono (by omega), HO.out⟩
      have p1 : (x == 1) = false := by simp [q1]
      by_cases q2 : x = 2
      · subst q2
        have HW := Lib.hid how
        have HC := Lib.hid hc2
        have HO := Lib.hid honly
        clear how hc2 honly hL2
        go_wp2
        go_loopw [3, 7] (fun lv ii wr => ∃ (i : Nat) (v : Value) (L : List Le), ii = .int .i64 i ∧ v = lv ∧ i + es.length = L.length ∧ L.length ≤ 12 ∧ OwR wr w.heap.size v L ∧ Cur wr g (N + 71) ∧ Only g w wr) (fun _ ii _ => 12 - (intOf ii).toNat)
        case atStart => exact ⟨0, _, es, rfl, rfl, by omega, hes, HW.out, HC.out.mono (by omega), HO.out⟩
        case round =>
          obtain ⟨i, v, L, rfl, rfl, hiL, hL12, how, hcur, honly⟩ := hrel
          obtain ⟨A3, c3, rfl, hcap3, hm3, hL3⟩ := how.ll
          by_cases hlt : L.length < 12
          · have hlt1 : (L.length : Int) < 12 := by omega
            have hw1 : IntKind.i64.wrap (30 + (i : Int)) = 30 + (i : Int) := IntWalk.i64_in _ ⟨by omega, by omega⟩
            have hw2 : IntKind.i64.wrap (31 + (i : Int)) = 31 + (i : Int) := IntWalk.i64_in _ ⟨by omega, by omega⟩
            have a1 : isI (30 + (i : Int)) := ⟨by omega, by omega⟩
            have a2 : isI (31 + (i : Int)) := ⟨by omega, by omega⟩
            have a3 : isI 1 := ⟨by decide, by decide⟩
            have a4 : isI 9 := ⟨by decide, by decide⟩
            have hin : leIn (30 + (i : Int), 31 + (i : Int), 1, 9) := ⟨a1, a2, a3, a4⟩
            clear a1 a2 a3 a4
            have hnew := ll_new wr hin
            have hal6 := (Below.refl wr.heap.size wr).alloc (Nat.le_refl _) (.cells (leC (30 + (i : Int), 31 + (i : Int), 1, 9)) 43)
            have how7 := how.below hal6
            have hsr := honly.size
            have HC := Lib.hid (hcur.only_new hal6)
            have HO := Lib.hid (honly.trans (Only.of_below hal6))
            clear how honly hcur hal6 hL3 hin
            go_wp2_with (at_builtin; go_must (refine wpList_app_le rfl _ _ rfl w.heap.size _ L [(30 + (i : Int), 31 + (i : Int), 1, 9)] _ 1 1 rfl rfl rfl how7 hnew ?c1 ?c2 ?_))
            case c1 => simp; omega
            case c2 => simp; omega
            intro v8 w8 how8 hg8 _
            have hc8 := HC.out.grownR how7 hg8 (by omega)
            have ho8 := HO.out.grownR how7 hg8 (Nat.le_refl _)
            have H8 := Lib.hid how8
            clear how7 hg8 hnew HC HO how8
            go_wp2
            go_roundw
            case rel => exact ⟨i + 1, _, _, by go_num, rfl, by simp; omega, by simp; omega, H8.out, hc8, ho8⟩
            case measure => simp [intOf]; omega
          · have hlt1 : ¬ (L.length : Int) < 12 := by omega
            have HW := Lib.hid how
            have HC := Lib.hid hcur
            have HO := Lib.hid honly
            clear how hcur honly hL3
            go_wp2
            go_ret
            exact ⟨_, L, rfl, HW.out, by omega, HC.out.mono (by omega), HO.out⟩
      have p2 : (x == 2) = false := by simp [q2]
      have HW := Lib.hid how
      have HC := Lib.hid hc2
      have HO := Lib.hid honly
      clear how hc2 honly hL2
      go_wp2
      go_ret
      exact ⟨_, es, rfl, HW.out, by omega, HC.out.mono (by omega), HO.out⟩
end Go.Proofs.Ytgpjjolgpppeeaa

/-
  Chapter 7's draw for the bars of leases: contract. Own work.
-/
namespace Go.Proofs.Ytgpjjolgpppeeaa
open Go.RowKit P
set_option linter.unusedVariables false
set_option linter.unusedSimpArgs false
set_option maxRecDepth 100000

/-- What a draw for the bars of leases ends in. -/
def DrawsLB (w : World) (e : Ending) (w' : World) : Prop :=
  ∃ v es q a m P p d n, e = .returned (.tuple #[v, .int .i64 q, .agg #[.int .i64 a, .int .i64 m, .slice P p.length d], .int .i64 n]) ∧ OwR w' w.heap.size v es ∧ es.length ≤ 13 ∧ isI q ∧ isI a ∧ isI m ∧ isI n ∧ p.length ≤ 500 ∧ p.length ≤ d ∧ d ≤ maxLen ∧ Bs w' P p ∧ Below w.heap.size w w'

set_option maxHeartbeats 32000000 in
theorem drawLeaseBars_any (A : Option Addr) (l : List UInt8) (c : Nat) (w : World) (hl : l.length ≤ 1048576) (hA : Bs w A l) :
    Calls Try.prog 19 #[.slice A l.length c] w (DrawsLB w) := by
  have hal := (Below.refl w.heap.size w).alloc (Nat.le_refl _) (.cells #[.int .i64 0, .int .i64 0, .slice none 0 0] 37)
  have BR := Lib.hid (Blk.new w #[.int .i64 0, .int .i64 0, .slice none 0 0] 37)
  have hA0 := hA.below hal
  have hz0 : (w.alloc (.cells #[.int .i64 0, .int .i64 0, .slice none 0 0] 37)).heap.size = w.heap.size + 1 := by simp
  go_enter Try.func19, Try.ntmps19
  go_wp2_with fail
  generalize w.alloc (.cells #[.int .i64 0, .int .i64 0, .slice none 0 0] 37) = W0 at *
  refine (l01Open_any A l c _ hl (by exact hA0)).mono ?_
  rintro e w1 ⟨rfl, hc0, hb0⟩
  obtain ⟨g, hg⟩ : ∃ g, W0.heap.size = g := ⟨_, rfl⟩
  rw [hg] at hc0 hz0 ⊢
  have hwg : w.heap.size < g := by omega
  have BR := Lib.hid (BR.out.below hb0)
  have hb1 := hal.trans (hb0.mono (by omega))
  have hgl := hc0.lt
  clear hA0 hal hz0 hg hb0
  go_wp2_with fail
  refine (leases_any g 0 _ (by omega) (by exact hc0)).mono ?_
  rintro e w2 ⟨v, es, rfl, how2, hes, hc2, ho2⟩
  have BR := Lib.hid (BR.out.only ho2 (by omega))
  have hz2 := ho2.size
  obtain ⟨N, hNe⟩ : ∃ N, 0 + 90 = N := ⟨_, rfl⟩
  rw [hNe] at hc2
  have hN : N ≤ 1000 := by omega
  have HL := Lib.hid how2
  clear hc0 how2 hNe
  go_upto_region 3 with fail
  refine wp_region_held_drew (S := (fun V => True)) (by kernel_rfl) (by exact trivial) (fun hHeld => ?_)
  refine wpAnyH_take (i := 0) (oi := ?_) (v := ?_) ?_ ?_ ?_ ?_ ?_ ?_ (by exact hHeld) ?_
  rotate_left 2
  · (simp only [List.getElem?_toArray, List.getElem?_cons_zero]; try rfl)
  · kernel_rfl
  · kernel_rfl
  · kernel_rfl
  · exact fun _ _ _ h => h
  · refine Or.inl ⟨by rfl, ?_⟩
    (intro V hSV; (try dsimp only at hSV); have q0 := hSV; go_simp; try with_reducible rfl)
  (try simp only [Act.put, List.setIfInBounds_toArray, List.set_cons_zero, List.set_cons_succ])
  refine wpAnyH_take (i := 1) (oi := ?_) (v := ?_) ?_ ?_ ?_ ?_ ?_ ?_ (by exact hHeld) ?_
  rotate_left 2
  · (simp only [List.getElem?_toArray, List.getElem?_cons_zero, List.getElem?_cons_succ]; try rfl)
  · kernel_rfl
  · kernel_rfl
  · kernel_rfl
  · exact fun _ _ _ h => h
  · refine Or.inl ⟨by rfl, ?_⟩
    (intro V hSV; (try dsimp only at hSV); have q0 := hSV; go_simp; try with_reducible rfl)
  (try simp only [Act.put, List.setIfInBounds_toArray, List.set_cons_zero, List.set_cons_succ])
  refine wpAnyH_take (i := 4) (oi := ?_) (v := ?_) ?_ ?_ ?_ ?_ ?_ ?_ (by exact hHeld) ?_
  rotate_left 2
  · (simp only [List.getElem?_toArray, List.getElem?_cons_zero, List.getElem?_cons_succ]; try rfl)
  · kernel_rfl
  · kernel_rfl
  · kernel_rfl
  · exact fun _ _ _ h => h
  · refine Or.inl ⟨by rfl, ?_⟩
    (intro V hSV; (try dsimp only at hSV); have q0 := hSV; go_simp; try with_reducible rfl)
  (try simp only [Act.put, List.setIfInBounds_toArray, List.set_cons_zero, List.set_cons_succ])
  refine wpAnyH_take (i := 7) (oi := ?_) (v := ?_) ?_ ?_ ?_ ?_ ?_ ?_ (by exact hHeld) ?_
  rotate_left 2
  · (simp only [List.getElem?_toArray, List.getElem?_cons_zero, List.getElem?_cons_succ]; try rfl)
  · kernel_rfl
  · kernel_rfl
  · kernel_rfl
  · exact fun _ _ _ h => h
  · refine Or.inl ⟨by rfl, ?_⟩
    (intro V hSV; (try dsimp only at hSV); have q0 := hSV; go_simp; try with_reducible rfl)
  (try simp only [Act.put, List.setIfInBounds_toArray, List.set_cons_zero, List.set_cons_succ])
  refine wpAnyH_take (i := 11) (oi := ?_) (v := ?_) ?_ ?_ ?_ ?_ ?_ ?_ (by exact hHeld) ?_
  rotate_left 2
  · (simp only [List.getElem?_toArray, List.getElem?_cons_zero, List.getElem?_cons_succ]; try rfl)
  · kernel_rfl
  · kernel_rfl
  · kernel_rfl
  · exact fun _ _ _ h => h
  · refine Or.inl ⟨by rfl, ?_⟩
    (intro V hSV; (try dsimp only at hSV); have q0 := hSV; go_simp; try with_reducible rfl)
  (try simp only [Act.put, List.setIfInBounds_toArray, List.set_cons_zero, List.set_cons_succ])
  refine wpAnyH_take (i := 13) (oi := ?_) (v := ?_) ?_ ?_ ?_ ?_ ?_ ?_ (by exact hHeld) ?_
  rotate_left 2
  · (simp only [List.getElem?_toArray, List.getElem?_cons_zero, List.getElem?_cons_succ]; try rfl)
  · kernel_rfl
  · kernel_rfl
  · kernel_rfl
  · exact fun _ _ _ h => h
  · refine Or.inl ⟨by rfl, ?_⟩
    (intro V hSV; (try dsimp only at hSV); have q0 := hSV; go_simp; try with_reducible rfl)
  (try simp only [Act.put, List.setIfInBounds_toArray, List.set_cons_zero, List.set_cons_succ])
  refine wpAnyH_ready (rs := [2]) (by kernel_rfl) (by simp) ?_
  refine AllReadyH.cons rfl (fun K hK => ?_) AllReadyH.nil
  go_simp
  refine (pick_draws g N 4 _ (by omega) (by omega) (by omega) (by exact hc2)).mono ?_
  rintro e w3 ⟨x, rfl, hx0, hx1, hc3, hO⟩
  have hO : Only g w2 w3 := ⟨hO.os, hO.tape, hO.output, hO.size, hO.block⟩
  have BR := Lib.hid (BR.out.only hO (by omega))
  have HL := Lib.hid (HL.out.only hO (by omega))
  have HO := Lib.hid hO
  have hwx : IntKind.i64.wrap (1 + x) = 1 + x := IntWalk.i64_in _ ⟨by omega, by omega⟩
  clear hO
  go_wp2_with fail
  refine hK.out _ _ (by exact trivial) (fun hHeld => ?_)
  clear hK K
  (try simp only [Act.put, List.setIfInBounds_toArray, List.set_cons_zero, List.set_cons_succ])
  refine wpAnyH_take (i := 3) (oi := ?_) (v := ?_) ?_ ?_ ?_ ?_ ?_ ?_ (by exact hHeld) ?_
  rotate_left 2
  · (simp only [List.getElem?_toArray, List.getElem?_cons_zero, List.getElem?_cons_succ]; try rfl)
  · kernel_rfl
  · kernel_rfl
  · kernel_rfl
  · exact fun _ _ _ h => h
  · refine Or.inl ⟨by rfl, ?_⟩
    (intro V hSV; (try dsimp only at hSV); have q0 := hSV; go_simp; try with_reducible rfl)
  (try simp only [Act.put, List.setIfInBounds_toArray, List.set_cons_zero, List.set_cons_succ])
  refine wpAnyH_ready (rs := [5]) (by kernel_rfl) (by simp) ?_
  refine AllReadyH.cons rfl (fun K hK => ?_) AllReadyH.nil
  go_simp
  refine (raw_any g (N + 1) _ (by omega) (by exact hc3)).mono ?_
  rintro e w4 ⟨r, rfl, hr0, hr1, hc4, hO⟩
  have hO : Only g w3 w4 := ⟨hO.os, hO.tape, hO.output, hO.size, hO.block⟩
  have BR := Lib.hid (BR.out.only hO (by omega))
  have HL := Lib.hid (HL.out.only hO (by omega))
  have HO := Lib.hid (HO.out.trans hO)
  have HC : Hid (Cur w4 g (N + 3)) := Lib.hid hc4
  clear hO hwx hc4 hc3 hc2
  go_wp2_with fail
  refine hK.out _ _ (by exact trivial) (fun hHeld => ?_)
  clear hK K
  (try simp only [Act.put, List.setIfInBounds_toArray, List.set_cons_zero, List.set_cons_succ])
  refine wpAnyH_ready (rs := [6, 8]) (by kernel_rfl) (by simp) ?_
  refine AllReadyH.cons (o := ?_) ?_ (fun K hK => ?_) ?_
  rotate_left 1
  · (simp only [List.getElem?_toArray, List.getElem?_cons_zero, List.getElem?_cons_succ]; try rfl)
  · have hal := (Below.refl (w4).heap.size (w4)).alloc (Nat.le_refl _) (.cells #[.int .i64 (1 + x), .int .i64 r] 3)
    have hO := Only.of_below (g := g) hal
    have HAB : Hid (g < (w4).heap.size ∧ w2.heap.size ≤ (w4).heap.size) := Lib.hid ⟨by have := HC.out.lt; exact this, HO.out.size⟩
    have BA := Lib.hid (Blk.new (w4) #[.int .i64 (1 + x), .int .i64 r] 3)
    have BR := Lib.hid (BR.out.only hO (by omega))
    have HL := Lib.hid (HL.out.only hO (by omega))
    have HO := Lib.hid (HO.out.trans hO)
    have HC := Lib.hid (HC.out.only_new hal)
    clear hal hO
    go_simp
    generalize (w4).heap.size = ab at HAB BA ⊢
    generalize (w4).alloc (.cells #[.int .i64 (1 + x), .int .i64 r] 3) = y1 at BA BR HL HO HC ⊢
    refine hK.out _ _ (by exact trivial) (fun hHeld => ?_)
    clear hK K
    (try simp only [Act.put, List.setIfInBounds_toArray, List.set_cons_zero, List.set_cons_succ])
    refine wpAnyH_ready (rs := [8]) (by kernel_rfl) (by simp) ?_
    refine AllReadyH.cons (o := ?_) ?_ (fun K hK => ?_) AllReadyH.nil
    rotate_left 1
    · (simp only [List.getElem?_toArray, List.getElem?_cons_zero, List.getElem?_cons_succ]; try rfl)
    go_simp
    have hszY := HO.out.size
    refine (pick_draws g (N + 3) 2 _ (by omega) (by omega) (by omega) (by exact HC.out)).mono ?_
    rintro e y2 ⟨z, rfl, hz0, hz1, hc, hO⟩
    have hO : Only g y1 y2 := ⟨hO.os, hO.tape, hO.output, hO.size, hO.block⟩
    have BR := Lib.hid (BR.out.only hO (by omega))
    have HL := Lib.hid (HL.out.only hO (by omega))
    have BA := Lib.hid (BA.out.only hO (by have := HAB.out; omega))
    have HO := Lib.hid (HO.out.trans hO)
    have HC := Lib.hid hc
    obtain ⟨k, rfl⟩ := Int.eq_ofNat_of_zero_le hz0
    have hk2 : (k : Int) < 2 := by omega
    clear hO hc hszY
    go_wp2_with fail
    refine hK.out _ _ (by exact trivial) (fun hHeld => ?_)
    clear hK K
    (try simp only [Act.put, List.setIfInBounds_toArray, List.set_cons_zero, List.set_cons_succ])
    refine wpAnyH_take (i := 9) (oi := ?_) (v := ?_) ?_ ?_ ?_ ?_ ?_ ?_ (by exact hHeld) ?_
    rotate_left 2
    · (simp only [List.getElem?_toArray, List.getElem?_cons_zero, List.getElem?_cons_succ]; try rfl)
    · kernel_rfl
    · kernel_rfl
    · kernel_rfl
    · exact fun _ _ _ h => h
    · refine Or.inl ⟨by rfl, ?_⟩
      (intro V hSV; (try dsimp only at hSV); have q0 := hSV; go_simp; try with_reducible rfl)
    (try simp only [Act.put, List.setIfInBounds_toArray, List.set_cons_zero, List.set_cons_succ])
    refine wpAnyH_ready (rs := [10, 12]) (by kernel_rfl) (by simp) ?_
    refine AllReadyH.cons (o := ?_) ?_ (fun K hK => ?_) ?_
    rotate_left 1
    · (simp only [List.getElem?_toArray, List.getElem?_cons_zero, List.getElem?_cons_succ]; try rfl)
    · obtain ⟨q, hq, hqI⟩ : ∃ q : Int, (y2).cell? ⟨ab, k, none⟩ = some (.int .i64 q) ∧ isI q := by
        rw [BA.out.cell k]
        match k, (show k < 2 by omega) with
        | 0, _ => exact ⟨_, rfl, by omega, by omega⟩
        | 1, _ => exact ⟨_, rfl, hr0, hr1⟩
      go_simp
      refine hK.out _ _ (by exact trivial) (fun hHeld => ?_)
      clear hK K
      (try simp only [Act.put, List.setIfInBounds_toArray, List.set_cons_zero, List.set_cons_succ])
      clear hq
      refine wpAnyH_ready (rs := [12]) (by kernel_rfl) (by simp) ?_
      refine AllReadyH.cons (o := ?_) ?_ (fun K hK => ?_) AllReadyH.nil
      rotate_left 1
      · (simp only [List.getElem?_toArray, List.getElem?_cons_zero, List.getElem?_cons_succ]; try rfl)
      go_simp
      have hszY := HO.out.size
      refine (small_any g (N + 4) _ (by omega) (by exact HC.out)).mono ?_
      rintro e y3 ⟨ea, em, ev, ep, rfl, hea, hem, hown, hp5, hc, hO⟩
      have hO : Only g y2 y3 := ⟨hO.os, hO.tape, hO.output, hO.size, hO.block⟩
      have BR := Lib.hid (BR.out.only hO (by omega))
      have HL := Lib.hid (HL.out.only hO (by omega))
      have BA := Lib.hid (BA.out.only hO (by have := HAB.out; omega))
      have HO := Lib.hid (HO.out.trans hO)
      have HC := Lib.hid hc
      obtain ⟨eA, ec, rfl, _, _, _⟩ := hown.form
      have HP := Lib.hid (hown.mono (base' := w2.heap.size) hszY)
      clear hown
      clear hO hc hszY
      go_wp2_with fail
      refine hK.out _ _ (by exact trivial) (fun hHeld => ?_)
      clear hK K
      (try simp only [Act.put, List.setIfInBounds_toArray, List.set_cons_zero, List.set_cons_succ])
      refine wpAnyH_ready (rs := [14]) (by kernel_rfl) (by simp) ?_
      refine AllReadyH.cons (o := ?_) ?_ (fun K hK => ?_) AllReadyH.nil
      rotate_left 1
      · (simp only [List.getElem?_toArray, List.getElem?_cons_zero, List.getElem?_cons_succ]; try rfl)
      go_simp
      have hszY := HO.out.size
      refine (now_any g (N + 54) _ (by omega) (by exact HC.out)).mono ?_
      rintro e y4 ⟨n, rfl, hn0, hn1, hc, hO⟩
      have hO : Only g y3 y4 := ⟨hO.os, hO.tape, hO.output, hO.size, hO.block⟩
      have BR := Lib.hid (BR.out.only hO (by omega))
      have HL := Lib.hid (HL.out.only hO (by omega))
      have BA := Lib.hid (BA.out.only hO (by have := HAB.out; omega))
      have HP := Lib.hid (HP.out.only hO (by omega))
      have HO := Lib.hid (HO.out.trans hO)
      have HC := Lib.hid hc
      clear hO hc hszY
      go_wp2_with fail
      refine hK.out _ _ (by exact trivial) (fun hHeld => ?_)
      clear hK K
      (try simp only [Act.put, List.setIfInBounds_toArray, List.set_cons_zero, List.set_cons_succ])
      refine wpAnyH_take (i := 15) (oi := ?_) (v := ?_) ?_ ?_ ?_ ?_ ?_ ?_ (by exact hHeld) ?_
      rotate_left 2
      · (simp only [List.getElem?_toArray, List.getElem?_cons_zero, List.getElem?_cons_succ]; try rfl)
      · kernel_rfl
      · kernel_rfl
      · kernel_rfl
      · exact fun _ _ _ h => h
      · refine Or.inl ⟨by rfl, ?_⟩
        (intro V hSV; (try dsimp only at hSV); have q0 := hSV; go_simp; try with_reducible rfl)
      (try simp only [Act.put, List.setIfInBounds_toArray, List.set_cons_zero, List.set_cons_succ])
      refine wpAnyH_take (i := 16) (oi := ?_) (v := ?_) ?_ ?_ ?_ ?_ ?_ ?_ (by exact hHeld) ?_
      rotate_left 2
      · (simp only [List.getElem?_toArray, List.getElem?_cons_zero, List.getElem?_cons_succ]; try rfl)
      · kernel_rfl
      · kernel_rfl
      · kernel_rfl
      · exact fun _ _ _ h => h
      · refine Or.inl ⟨by rfl, ?_⟩
        (intro V hSV; (try dsimp only at hSV); have q0 := hSV; go_simp; try with_reducible rfl)
      (try simp only [Act.put, List.setIfInBounds_toArray, List.set_cons_zero, List.set_cons_succ])
      have r0 := BR.out.cell 0
      have r1 := BR.out.cell 1
      have r2 := BR.out.cell 2
      have g0 := BR.out.frozen 0
      have g1 := BR.out.frozen 1
      have g2 := BR.out.frozen 2
      have hlt := BR.out.lt
      refine wpAnyH_ready (rs := [17]) (by kernel_rfl) (by simp) ?_
      refine AllReadyH.cons (o := ?_) ?_ (fun K hK => ?_) AllReadyH.nil
      rotate_left 1
      · (simp only [List.getElem?_toArray, List.getElem?_cons_zero, List.getElem?_cons_succ]; try rfl)
      go_simp
      refine hK.out _ _ (by exact trivial) (fun hHeld => ?_)
      clear hK K
      (try simp only [Act.put, List.setIfInBounds_toArray, List.set_cons_zero, List.set_cons_succ])
      refine wpAnyH_take (i := 18) (oi := ?_) (v := ?_) ?_ ?_ ?_ ?_ ?_ ?_ (by exact hHeld) ?_
      rotate_left 2
      · (simp only [List.getElem?_toArray, List.getElem?_cons_zero, List.getElem?_cons_succ]; try rfl)
      · kernel_rfl
      · kernel_rfl
      · kernel_rfl
      · exact fun _ _ _ h => h
      · refine Or.inl ⟨by rfl, ?_⟩
        (intro V hSV; (try dsimp only at hSV); have q0 := hSV; go_simp; try with_reducible rfl)
      (try simp only [Act.put, List.setIfInBounds_toArray, List.set_cons_zero, List.set_cons_succ])
      refine wpAnyH_done (by kernel_rfl) ?_ _
      clear hHeld
      have hsO := HO.out.size
      have hOW := (((HL.out.only ((Only.refl w.heap.size y4).setCell 0 (.int .i64 ea)) (by omega)).only ((Only.refl w.heap.size _).setCell 1 (.int .i64 em)) (by omega)).only ((Only.refl w.heap.size _).setCell 2 (.slice eA ep.length ec)) (by omega)).mono (base' := w.heap.size) (by omega)
      have hPW := (((HP.out.only ((Only.refl w.heap.size y4).setCell 0 (.int .i64 ea)) (by omega)).only ((Only.refl w.heap.size _).setCell 1 (.int .i64 em)) (by omega)).only ((Only.refl w.heap.size _).setCell 2 (.slice eA ep.length ec)) (by omega))
      have hBW := (((hb1.trans ((ho2.trans HO.out).below w.heap.size (by omega) (by omega))).setCell (p := ⟨w.heap.size, 0, none⟩) (Nat.le_refl _) (.int .i64 ea)).setCell (p := ⟨w.heap.size, 1, none⟩) (Nat.le_refl _) (.int .i64 em)).setCell (p := ⟨w.heap.size, 2, none⟩) (Nat.le_refl _) (.slice eA ep.length ec)
      obtain ⟨_, _, e8, hp8, hm8, hBP⟩ := hPW.form
      cases e8
      have HOW := Lib.hid hOW
      have HPW := Lib.hid hBP
      have HBW := Lib.hid hBW
      clear hOW hPW hBW hBP
      go_wp2
      refine bodyPost_ret (v := .tuple #[v, .int .i64 q, .agg #[.int .i64 ea, .int .i64 em, .slice eA ep.length ec], .int .i64 n]) (by simp [results, Try.results19, go_sem, r0, r1, r2]) rfl ?_
      exact ⟨v, es, q, ea, em, eA, ep, ec, n, rfl, HOW.out, hes, hqI, hea, hem, ⟨hn0, hn1⟩, by omega, hp8, hm8, HPW.out, HBW.out⟩
    refine AllReadyH.cons (o := ?_) ?_ (fun K hK => ?_) AllReadyH.nil
    rotate_left 1
    · (simp only [List.getElem?_toArray, List.getElem?_cons_zero, List.getElem?_cons_succ]; try rfl)
    go_simp
    have hszY := HO.out.size
    refine (small_any g (N + 4) _ (by omega) (by exact HC.out)).mono ?_
    rintro e y5 ⟨ea, em, ev, ep, rfl, hea, hem, hown, hp5, hc, hO⟩
    have hO : Only g y2 y5 := ⟨hO.os, hO.tape, hO.output, hO.size, hO.block⟩
    have BR := Lib.hid (BR.out.only hO (by omega))
    have HL := Lib.hid (HL.out.only hO (by omega))
    have BA := Lib.hid (BA.out.only hO (by have := HAB.out; omega))
    have HO := Lib.hid (HO.out.trans hO)
    have HC := Lib.hid hc
    obtain ⟨eA, ec, rfl, _, _, _⟩ := hown.form
    have HP := Lib.hid (hown.mono (base' := w2.heap.size) hszY)
    clear hown
    clear hO hc hszY
    go_wp2_with fail
    refine hK.out _ _ (by exact trivial) (fun hHeld => ?_)
    clear hK K
    (try simp only [Act.put, List.setIfInBounds_toArray, List.set_cons_zero, List.set_cons_succ])
    refine wpAnyH_ready (rs := [10, 14]) (by kernel_rfl) (by simp) ?_
    refine AllReadyH.cons (o := ?_) ?_ (fun K hK => ?_) ?_
    rotate_left 1
    · (simp only [List.getElem?_toArray, List.getElem?_cons_zero, List.getElem?_cons_succ]; try rfl)
    · obtain ⟨q, hq, hqI⟩ : ∃ q : Int, (y5).cell? ⟨ab, k, none⟩ = some (.int .i64 q) ∧ isI q := by
        rw [BA.out.cell k]
        match k, (show k < 2 by omega) with
        | 0, _ => exact ⟨_, rfl, by omega, by omega⟩
        | 1, _ => exact ⟨_, rfl, hr0, hr1⟩
      go_simp
      refine hK.out _ _ (by exact trivial) (fun hHeld => ?_)
      clear hK K
      (try simp only [Act.put, List.setIfInBounds_toArray, List.set_cons_zero, List.set_cons_succ])
      clear hq
      refine wpAnyH_ready (rs := [14]) (by kernel_rfl) (by simp) ?_
      refine AllReadyH.cons (o := ?_) ?_ (fun K hK => ?_) AllReadyH.nil
      rotate_left 1
      · (simp only [List.getElem?_toArray, List.getElem?_cons_zero, List.getElem?_cons_succ]; try rfl)
      go_simp
      have hszY := HO.out.size
      refine (now_any g (N + 54) _ (by omega) (by exact HC.out)).mono ?_
      rintro e y6 ⟨n, rfl, hn0, hn1, hc, hO⟩
      have hO : Only g y5 y6 := ⟨hO.os, hO.tape, hO.output, hO.size, hO.block⟩
      have BR := Lib.hid (BR.out.only hO (by omega))
      have HL := Lib.hid (HL.out.only hO (by omega))
      have BA := Lib.hid (BA.out.only hO (by have := HAB.out; omega))
      have HP := Lib.hid (HP.out.only hO (by omega))
      have HO := Lib.hid (HO.out.trans hO)
      have HC := Lib.hid hc
      clear hO hc hszY
      go_wp2_with fail
      refine hK.out _ _ (by exact trivial) (fun hHeld => ?_)
      clear hK K
      (try simp only [Act.put, List.setIfInBounds_toArray, List.set_cons_zero, List.set_cons_succ])
      refine wpAnyH_take (i := 15) (oi := ?_) (v := ?_) ?_ ?_ ?_ ?_ ?_ ?_ (by exact hHeld) ?_
      rotate_left 2
      · (simp only [List.getElem?_toArray, List.getElem?_cons_zero, List.getElem?_cons_succ]; try rfl)
      · kernel_rfl
      · kernel_rfl
      · kernel_rfl
      · exact fun _ _ _ h => h
      · refine Or.inl ⟨by rfl, ?_⟩
        (intro V hSV; (try dsimp only at hSV); have q0 := hSV; go_simp; try with_reducible rfl)
      (try simp only [Act.put, List.setIfInBounds_toArray, List.set_cons_zero, List.set_cons_succ])
      refine wpAnyH_take (i := 16) (oi := ?_) (v := ?_) ?_ ?_ ?_ ?_ ?_ ?_ (by exact hHeld) ?_
      rotate_left 2
      · (simp only [List.getElem?_toArray, List.getElem?_cons_zero, List.getElem?_cons_succ]; try rfl)
      · kernel_rfl
      · kernel_rfl
      · kernel_rfl
      · exact fun _ _ _ h => h
      · refine Or.inl ⟨by rfl, ?_⟩
        (intro V hSV; (try dsimp only at hSV); have q0 := hSV; go_simp; try with_reducible rfl)
      (try simp only [Act.put, List.setIfInBounds_toArray, List.set_cons_zero, List.set_cons_succ])
      have r0 := BR.out.cell 0
      have r1 := BR.out.cell 1
      have r2 := BR.out.cell 2
      have g0 := BR.out.frozen 0
      have g1 := BR.out.frozen 1
      have g2 := BR.out.frozen 2
      have hlt := BR.out.lt
      refine wpAnyH_ready (rs := [17]) (by kernel_rfl) (by simp) ?_
      refine AllReadyH.cons (o := ?_) ?_ (fun K hK => ?_) AllReadyH.nil
      rotate_left 1
      · (simp only [List.getElem?_toArray, List.getElem?_cons_zero, List.getElem?_cons_succ]; try rfl)
      go_simp
      refine hK.out _ _ (by exact trivial) (fun hHeld => ?_)
      clear hK K
      (try simp only [Act.put, List.setIfInBounds_toArray, List.set_cons_zero, List.set_cons_succ])
      refine wpAnyH_take (i := 18) (oi := ?_) (v := ?_) ?_ ?_ ?_ ?_ ?_ ?_ (by exact hHeld) ?_
      rotate_left 2
      · (simp only [List.getElem?_toArray, List.getElem?_cons_zero, List.getElem?_cons_succ]; try rfl)
      · kernel_rfl
      · kernel_rfl
      · kernel_rfl
      · exact fun _ _ _ h => h
      · refine Or.inl ⟨by rfl, ?_⟩
        (intro V hSV; (try dsimp only at hSV); have q0 := hSV; go_simp; try with_reducible rfl)
      (try simp only [Act.put, List.setIfInBounds_toArray, List.set_cons_zero, List.set_cons_succ])
      refine wpAnyH_done (by kernel_rfl) ?_ _
      clear hHeld
      have hsO := HO.out.size
      have hOW := (((HL.out.only ((Only.refl w.heap.size y6).setCell 0 (.int .i64 ea)) (by omega)).only ((Only.refl w.heap.size _).setCell 1 (.int .i64 em)) (by omega)).only ((Only.refl w.heap.size _).setCell 2 (.slice eA ep.length ec)) (by omega)).mono (base' := w.heap.size) (by omega)
      have hPW := (((HP.out.only ((Only.refl w.heap.size y6).setCell 0 (.int .i64 ea)) (by omega)).only ((Only.refl w.heap.size _).setCell 1 (.int .i64 em)) (by omega)).only ((Only.refl w.heap.size _).setCell 2 (.slice eA ep.length ec)) (by omega))
      have hBW := (((hb1.trans ((ho2.trans HO.out).below w.heap.size (by omega) (by omega))).setCell (p := ⟨w.heap.size, 0, none⟩) (Nat.le_refl _) (.int .i64 ea)).setCell (p := ⟨w.heap.size, 1, none⟩) (Nat.le_refl _) (.int .i64 em)).setCell (p := ⟨w.heap.size, 2, none⟩) (Nat.le_refl _) (.slice eA ep.length ec)
      obtain ⟨_, _, e8, hp8, hm8, hBP⟩ := hPW.form
      cases e8
      have HOW := Lib.hid hOW
      have HPW := Lib.hid hBP
      have HBW := Lib.hid hBW
      clear hOW hPW hBW hBP
      go_wp2
      refine bodyPost_ret (v := .tuple #[v, .int .i64 q, .agg #[.int .i64 ea, .int .i64 em, .slice eA ep.length ec], .int .i64 n]) (by simp [results, Try.results19, go_sem, r0, r1, r2]) rfl ?_
      exact ⟨v, es, q, ea, em, eA, ep, ec, n, rfl, HOW.out, hes, hqI, hea, hem, ⟨hn0, hn1⟩, by omega, hp8, hm8, HPW.out, HBW.out⟩
    refine AllReadyH.cons (o := ?_) ?_ (fun K hK => ?_) AllReadyH.nil
    rotate_left 1
    · (simp only [List.getElem?_toArray, List.getElem?_cons_zero, List.getElem?_cons_succ]; try rfl)
    go_simp
    have hszY := HO.out.size
    refine (now_any g (N + 54) _ (by omega) (by exact HC.out)).mono ?_
    rintro e y7 ⟨n, rfl, hn0, hn1, hc, hO⟩
    have hO : Only g y5 y7 := ⟨hO.os, hO.tape, hO.output, hO.size, hO.block⟩
    have BR := Lib.hid (BR.out.only hO (by omega))
    have HL := Lib.hid (HL.out.only hO (by omega))
    have BA := Lib.hid (BA.out.only hO (by have := HAB.out; omega))
    have HP := Lib.hid (HP.out.only hO (by omega))
    have HO := Lib.hid (HO.out.trans hO)
    have HC := Lib.hid hc
    clear hO hc hszY
    go_wp2_with fail
    refine hK.out _ _ (by exact trivial) (fun hHeld => ?_)
    clear hK K
    (try simp only [Act.put, List.setIfInBounds_toArray, List.set_cons_zero, List.set_cons_succ])
    refine wpAnyH_take (i := 15) (oi := ?_) (v := ?_) ?_ ?_ ?_ ?_ ?_ ?_ (by exact hHeld) ?_
    rotate_left 2
    · (simp only [List.getElem?_toArray, List.getElem?_cons_zero, List.getElem?_cons_succ]; try rfl)
    · kernel_rfl
    · kernel_rfl
    · kernel_rfl
    · exact fun _ _ _ h => h
    · refine Or.inl ⟨by rfl, ?_⟩
      (intro V hSV; (try dsimp only at hSV); have q0 := hSV; go_simp; try with_reducible rfl)
    (try simp only [Act.put, List.setIfInBounds_toArray, List.set_cons_zero, List.set_cons_succ])
    refine wpAnyH_ready (rs := [10]) (by kernel_rfl) (by simp) ?_
    refine AllReadyH.cons (o := ?_) ?_ (fun K hK => ?_) AllReadyH.nil
    rotate_left 1
    · (simp only [List.getElem?_toArray, List.getElem?_cons_zero, List.getElem?_cons_succ]; try rfl)
    obtain ⟨q, hq, hqI⟩ : ∃ q : Int, (y7).cell? ⟨ab, k, none⟩ = some (.int .i64 q) ∧ isI q := by
      rw [BA.out.cell k]
      match k, (show k < 2 by omega) with
      | 0, _ => exact ⟨_, rfl, by omega, by omega⟩
      | 1, _ => exact ⟨_, rfl, hr0, hr1⟩
    go_simp
    refine hK.out _ _ (by exact trivial) (fun hHeld => ?_)
    clear hK K
    (try simp only [Act.put, List.setIfInBounds_toArray, List.set_cons_zero, List.set_cons_succ])
    clear hq
    refine wpAnyH_take (i := 16) (oi := ?_) (v := ?_) ?_ ?_ ?_ ?_ ?_ ?_ (by exact hHeld) ?_
    rotate_left 2
    · (simp only [List.getElem?_toArray, List.getElem?_cons_zero, List.getElem?_cons_succ]; try rfl)
    · kernel_rfl
    · kernel_rfl
    · kernel_rfl
    · exact fun _ _ _ h => h
    · refine Or.inl ⟨by rfl, ?_⟩
      (intro V hSV; (try dsimp only at hSV); have q0 := hSV; go_simp; try with_reducible rfl)
    (try simp only [Act.put, List.setIfInBounds_toArray, List.set_cons_zero, List.set_cons_succ])
    have r0 := BR.out.cell 0
    have r1 := BR.out.cell 1
    have r2 := BR.out.cell 2
    have g0 := BR.out.frozen 0
    have g1 := BR.out.frozen 1
    have g2 := BR.out.frozen 2
    have hlt := BR.out.lt
    refine wpAnyH_ready (rs := [17]) (by kernel_rfl) (by simp) ?_
    refine AllReadyH.cons (o := ?_) ?_ (fun K hK => ?_) AllReadyH.nil
    rotate_left 1
    · (simp only [List.getElem?_toArray, List.getElem?_cons_zero, List.getElem?_cons_succ]; try rfl)
    go_simp
    refine hK.out _ _ (by exact trivial) (fun hHeld => ?_)
    clear hK K
    (try simp only [Act.put, List.setIfInBounds_toArray, List.set_cons_zero, List.set_cons_succ])
    refine wpAnyH_take (i := 18) (oi := ?_) (v := ?_) ?_ ?_ ?_ ?_ ?_ ?_ (by exact hHeld) ?_
    rotate_left 2
    · (simp only [List.getElem?_toArray, List.getElem?_cons_zero, List.getElem?_cons_succ]; try rfl)
    · kernel_rfl
    · kernel_rfl
    · kernel_rfl
    · exact fun _ _ _ h => h
    · refine Or.inl ⟨by rfl, ?_⟩
      (intro V hSV; (try dsimp only at hSV); have q0 := hSV; go_simp; try with_reducible rfl)
    (try simp only [Act.put, List.setIfInBounds_toArray, List.set_cons_zero, List.set_cons_succ])
    refine wpAnyH_done (by kernel_rfl) ?_ _
    clear hHeld
    have hsO := HO.out.size
    have hOW := (((HL.out.only ((Only.refl w.heap.size y7).setCell 0 (.int .i64 ea)) (by omega)).only ((Only.refl w.heap.size _).setCell 1 (.int .i64 em)) (by omega)).only ((Only.refl w.heap.size _).setCell 2 (.slice eA ep.length ec)) (by omega)).mono (base' := w.heap.size) (by omega)
    have hPW := (((HP.out.only ((Only.refl w.heap.size y7).setCell 0 (.int .i64 ea)) (by omega)).only ((Only.refl w.heap.size _).setCell 1 (.int .i64 em)) (by omega)).only ((Only.refl w.heap.size _).setCell 2 (.slice eA ep.length ec)) (by omega))
    have hBW := (((hb1.trans ((ho2.trans HO.out).below w.heap.size (by omega) (by omega))).setCell (p := ⟨w.heap.size, 0, none⟩) (Nat.le_refl _) (.int .i64 ea)).setCell (p := ⟨w.heap.size, 1, none⟩) (Nat.le_refl _) (.int .i64 em)).setCell (p := ⟨w.heap.size, 2, none⟩) (Nat.le_refl _) (.slice eA ep.length ec)
    obtain ⟨_, _, e8, hp8, hm8, hBP⟩ := hPW.form
    cases e8
    have HOW := Lib.hid hOW
    have HPW := Lib.hid hBP
    have HBW := Lib.hid hBW
    clear hOW hPW hBW hBP
    go_wp2
    refine bodyPost_ret (v := .tuple #[v, .int .i64 q, .agg #[.int .i64 ea, .int .i64 em, .slice eA ep.length ec], .int .i64 n]) (by simp [results, Try.results19, go_sem, r0, r1, r2]) rfl ?_
    exact ⟨v, es, q, ea, em, eA, ep, ec, n, rfl, HOW.out, hes, hqI, hea, hem, ⟨hn0, hn1⟩, by omega, hp8, hm8, HPW.out, HBW.out⟩
  refine AllReadyH.cons (o := ?_) ?_ (fun K hK => ?_) AllReadyH.nil
  rotate_left 1
  · (simp only [List.getElem?_toArray, List.getElem?_cons_zero, List.getElem?_cons_succ]; try rfl)
  go_simp
  have hszY := HO.out.size
  refine (pick_draws g (N + 3) 2 _ (by omega) (by omega) (by omega) (by exact HC.out)).mono ?_
  rintro e y8 ⟨z, rfl, hz0, hz1, hc, hO⟩
  have hO : Only g w4 y8 := ⟨hO.os, hO.tape, hO.output, hO.size, hO.block⟩
  have BR := Lib.hid (BR.out.only hO (by omega))
  have HL := Lib.hid (HL.out.only hO (by omega))
  have HO := Lib.hid (HO.out.trans hO)
  have HC := Lib.hid hc
  obtain ⟨k, rfl⟩ := Int.eq_ofNat_of_zero_le hz0
  have hk2 : (k : Int) < 2 := by omega
  clear hO hc hszY
  go_wp2_with fail
  refine hK.out _ _ (by exact trivial) (fun hHeld => ?_)
  clear hK K
  (try simp only [Act.put, List.setIfInBounds_toArray, List.set_cons_zero, List.set_cons_succ])
  refine wpAnyH_ready (rs := [6, 12]) (by kernel_rfl) (by simp) ?_
  refine AllReadyH.cons (o := ?_) ?_ (fun K hK => ?_) ?_
  rotate_left 1
  · (simp only [List.getElem?_toArray, List.getElem?_cons_zero, List.getElem?_cons_succ]; try rfl)
  · have hal := (Below.refl (y8).heap.size (y8)).alloc (Nat.le_refl _) (.cells #[.int .i64 (1 + x), .int .i64 r] 3)
    have hO := Only.of_below (g := g) hal
    have HAB : Hid (g < (y8).heap.size ∧ w2.heap.size ≤ (y8).heap.size) := Lib.hid ⟨by have := HC.out.lt; exact this, HO.out.size⟩
    have BA := Lib.hid (Blk.new (y8) #[.int .i64 (1 + x), .int .i64 r] 3)
    have BR := Lib.hid (BR.out.only hO (by omega))
    have HL := Lib.hid (HL.out.only hO (by omega))
    have HO := Lib.hid (HO.out.trans hO)
    have HC := Lib.hid (HC.out.only_new hal)
    clear hal hO
    go_simp
    generalize (y8).heap.size = ab at HAB BA ⊢
    generalize (y8).alloc (.cells #[.int .i64 (1 + x), .int .i64 r] 3) = y9 at BA BR HL HO HC ⊢
    refine hK.out _ _ (by exact trivial) (fun hHeld => ?_)
    clear hK K
    (try simp only [Act.put, List.setIfInBounds_toArray, List.set_cons_zero, List.set_cons_succ])
    refine wpAnyH_take (i := 9) (oi := ?_) (v := ?_) ?_ ?_ ?_ ?_ ?_ ?_ (by exact hHeld) ?_
    rotate_left 2
    · (simp only [List.getElem?_toArray, List.getElem?_cons_zero, List.getElem?_cons_succ]; try rfl)
    · kernel_rfl
    · kernel_rfl
    · kernel_rfl
    · exact fun _ _ _ h => h
    · refine Or.inl ⟨by rfl, ?_⟩
      (intro V hSV; (try dsimp only at hSV); have q0 := hSV; go_simp; try with_reducible rfl)
    (try simp only [Act.put, List.setIfInBounds_toArray, List.set_cons_zero, List.set_cons_succ])
    refine wpAnyH_ready (rs := [10, 12]) (by kernel_rfl) (by simp) ?_
    refine AllReadyH.cons (o := ?_) ?_ (fun K hK => ?_) ?_
    rotate_left 1
    · (simp only [List.getElem?_toArray, List.getElem?_cons_zero, List.getElem?_cons_succ]; try rfl)
    · obtain ⟨q, hq, hqI⟩ : ∃ q : Int, (y9).cell? ⟨ab, k, none⟩ = some (.int .i64 q) ∧ isI q := by
        rw [BA.out.cell k]
        match k, (show k < 2 by omega) with
        | 0, _ => exact ⟨_, rfl, by omega, by omega⟩
        | 1, _ => exact ⟨_, rfl, hr0, hr1⟩
      go_simp
      refine hK.out _ _ (by exact trivial) (fun hHeld => ?_)
      clear hK K
      (try simp only [Act.put, List.setIfInBounds_toArray, List.set_cons_zero, List.set_cons_succ])
      clear hq
      refine wpAnyH_ready (rs := [12]) (by kernel_rfl) (by simp) ?_
      refine AllReadyH.cons (o := ?_) ?_ (fun K hK => ?_) AllReadyH.nil
      rotate_left 1
      · (simp only [List.getElem?_toArray, List.getElem?_cons_zero, List.getElem?_cons_succ]; try rfl)
      go_simp
      have hszY := HO.out.size
      refine (small_any g (N + 4) _ (by omega) (by exact HC.out)).mono ?_
      rintro e y10 ⟨ea, em, ev, ep, rfl, hea, hem, hown, hp5, hc, hO⟩
      have hO : Only g y9 y10 := ⟨hO.os, hO.tape, hO.output, hO.size, hO.block⟩
      have BR := Lib.hid (BR.out.only hO (by omega))
      have HL := Lib.hid (HL.out.only hO (by omega))
      have BA := Lib.hid (BA.out.only hO (by have := HAB.out; omega))
      have HO := Lib.hid (HO.out.trans hO)
      have HC := Lib.hid hc
      obtain ⟨eA, ec, rfl, _, _, _⟩ := hown.form
      have HP := Lib.hid (hown.mono (base' := w2.heap.size) hszY)
      clear hown
      clear hO hc hszY
      go_wp2_with fail
      refine hK.out _ _ (by exact trivial) (fun hHeld => ?_)
      clear hK K
      (try simp only [Act.put, List.setIfInBounds_toArray, List.set_cons_zero, List.set_cons_succ])
      refine wpAnyH_ready (rs := [14]) (by kernel_rfl) (by simp) ?_
      refine AllReadyH.cons (o := ?_) ?_ (fun K hK => ?_) AllReadyH.nil
      rotate_left 1
      · (simp only [List.getElem?_toArray, List.getElem?_cons_zero, List.getElem?_cons_succ]; try rfl)
      go_simp
      have hszY := HO.out.size
      refine (now_any g (N + 54) _ (by omega) (by exact HC.out)).mono ?_
      rintro e y11 ⟨n, rfl, hn0, hn1, hc, hO⟩
      have hO : Only g y10 y11 := ⟨hO.os, hO.tape, hO.output, hO.size, hO.block⟩
      have BR := Lib.hid (BR.out.only hO (by omega))
      have HL := Lib.hid (HL.out.only hO (by omega))
      have BA := Lib.hid (BA.out.only hO (by have := HAB.out; omega))
      have HP := Lib.hid (HP.out.only hO (by omega))
      have HO := Lib.hid (HO.out.trans hO)
      have HC := Lib.hid hc
      clear hO hc hszY
      go_wp2_with fail
      refine hK.out _ _ (by exact trivial) (fun hHeld => ?_)
      clear hK K
      (try simp only [Act.put, List.setIfInBounds_toArray, List.set_cons_zero, List.set_cons_succ])
      refine wpAnyH_take (i := 15) (oi := ?_) (v := ?_) ?_ ?_ ?_ ?_ ?_ ?_ (by exact hHeld) ?_
      rotate_left 2
      · (simp only [List.getElem?_toArray, List.getElem?_cons_zero, List.getElem?_cons_succ]; try rfl)
      · kernel_rfl
      · kernel_rfl
      · kernel_rfl
      · exact fun _ _ _ h => h
      · refine Or.inl ⟨by rfl, ?_⟩
        (intro V hSV; (try dsimp only at hSV); have q0 := hSV; go_simp; try with_reducible rfl)
      (try simp only [Act.put, List.setIfInBounds_toArray, List.set_cons_zero, List.set_cons_succ])
      refine wpAnyH_take (i := 16) (oi := ?_) (v := ?_) ?_ ?_ ?_ ?_ ?_ ?_ (by exact hHeld) ?_
      rotate_left 2
      · (simp only [List.getElem?_toArray, List.getElem?_cons_zero, List.getElem?_cons_succ]; try rfl)
      · kernel_rfl
      · kernel_rfl
      · kernel_rfl
      · exact fun _ _ _ h => h
      · refine Or.inl ⟨by rfl, ?_⟩
        (intro V hSV; (try dsimp only at hSV); have q0 := hSV; go_simp; try with_reducible rfl)
      (try simp only [Act.put, List.setIfInBounds_toArray, List.set_cons_zero, List.set_cons_succ])
      have r0 := BR.out.cell 0
      have r1 := BR.out.cell 1
      have r2 := BR.out.cell 2
      have g0 := BR.out.frozen 0
      have g1 := BR.out.frozen 1
      have g2 := BR.out.frozen 2
      have hlt := BR.out.lt
      refine wpAnyH_ready (rs := [17]) (by kernel_rfl) (by simp) ?_
      refine AllReadyH.cons (o := ?_) ?_ (fun K hK => ?_) AllReadyH.nil
      rotate_left 1
      · (simp only [List.getElem?_toArray, List.getElem?_cons_zero, List.getElem?_cons_succ]; try rfl)
      go_simp
      refine hK.out _ _ (by exact trivial) (fun hHeld => ?_)
      clear hK K
      (try simp only [Act.put, List.setIfInBounds_toArray, List.set_cons_zero, List.set_cons_succ])
      refine wpAnyH_take (i := 18) (oi := ?_) (v := ?_) ?_ ?_ ?_ ?_ ?_ ?_ (by exact hHeld) ?_
      rotate_left 2
      · (simp only [List.getElem?_toArray, List.getElem?_cons_zero, List.getElem?_cons_succ]; try rfl)
      · kernel_rfl
      · kernel_rfl
      · kernel_rfl
      · exact fun _ _ _ h => h
      · refine Or.inl ⟨by rfl, ?_⟩
        (intro V hSV; (try dsimp only at hSV); have q0 := hSV; go_simp; try with_reducible rfl)
      (try simp only [Act.put, List.setIfInBounds_toArray, List.set_cons_zero, List.set_cons_succ])
      refine wpAnyH_done (by kernel_rfl) ?_ _
      clear hHeld
      have hsO := HO.out.size
      have hOW := (((HL.out.only ((Only.refl w.heap.size y11).setCell 0 (.int .i64 ea)) (by omega)).only ((Only.refl w.heap.size _).setCell 1 (.int .i64 em)) (by omega)).only ((Only.refl w.heap.size _).setCell 2 (.slice eA ep.length ec)) (by omega)).mono (base' := w.heap.size) (by omega)
      have hPW := (((HP.out.only ((Only.refl w.heap.size y11).setCell 0 (.int .i64 ea)) (by omega)).only ((Only.refl w.heap.size _).setCell 1 (.int .i64 em)) (by omega)).only ((Only.refl w.heap.size _).setCell 2 (.slice eA ep.length ec)) (by omega))
      have hBW := (((hb1.trans ((ho2.trans HO.out).below w.heap.size (by omega) (by omega))).setCell (p := ⟨w.heap.size, 0, none⟩) (Nat.le_refl _) (.int .i64 ea)).setCell (p := ⟨w.heap.size, 1, none⟩) (Nat.le_refl _) (.int .i64 em)).setCell (p := ⟨w.heap.size, 2, none⟩) (Nat.le_refl _) (.slice eA ep.length ec)
      obtain ⟨_, _, e8, hp8, hm8, hBP⟩ := hPW.form
      cases e8
      have HOW := Lib.hid hOW
      have HPW := Lib.hid hBP
      have HBW := Lib.hid hBW
      clear hOW hPW hBW hBP
      go_wp2
      refine bodyPost_ret (v := .tuple #[v, .int .i64 q, .agg #[.int .i64 ea, .int .i64 em, .slice eA ep.length ec], .int .i64 n]) (by simp [results, Try.results19, go_sem, r0, r1, r2]) rfl ?_
      exact ⟨v, es, q, ea, em, eA, ep, ec, n, rfl, HOW.out, hes, hqI, hea, hem, ⟨hn0, hn1⟩, by omega, hp8, hm8, HPW.out, HBW.out⟩
    refine AllReadyH.cons (o := ?_) ?_ (fun K hK => ?_) AllReadyH.nil
    rotate_left 1
    · (simp only [List.getElem?_toArray, List.getElem?_cons_zero, List.getElem?_cons_succ]; try rfl)
    go_simp
    have hszY := HO.out.size
    refine (small_any g (N + 4) _ (by omega) (by exact HC.out)).mono ?_
    rintro e y12 ⟨ea, em, ev, ep, rfl, hea, hem, hown, hp5, hc, hO⟩
    have hO : Only g y9 y12 := ⟨hO.os, hO.tape, hO.output, hO.size, hO.block⟩
    have BR := Lib.hid (BR.out.only hO (by omega))
    have HL := Lib.hid (HL.out.only hO (by omega))
    have BA := Lib.hid (BA.out.only hO (by have := HAB.out; omega))
    have HO := Lib.hid (HO.out.trans hO)
    have HC := Lib.hid hc
    obtain ⟨eA, ec, rfl, _, _, _⟩ := hown.form
    have HP := Lib.hid (hown.mono (base' := w2.heap.size) hszY)
    clear hown
    clear hO hc hszY
    go_wp2_with fail
    refine hK.out _ _ (by exact trivial) (fun hHeld => ?_)
    clear hK K
    (try simp only [Act.put, List.setIfInBounds_toArray, List.set_cons_zero, List.set_cons_succ])
    refine wpAnyH_ready (rs := [10, 14]) (by kernel_rfl) (by simp) ?_
    refine AllReadyH.cons (o := ?_) ?_ (fun K hK => ?_) ?_
    rotate_left 1
    · (simp only [List.getElem?_toArray, List.getElem?_cons_zero, List.getElem?_cons_succ]; try rfl)
    · obtain ⟨q, hq, hqI⟩ : ∃ q : Int, (y12).cell? ⟨ab, k, none⟩ = some (.int .i64 q) ∧ isI q := by
        rw [BA.out.cell k]
        match k, (show k < 2 by omega) with
        | 0, _ => exact ⟨_, rfl, by omega, by omega⟩
        | 1, _ => exact ⟨_, rfl, hr0, hr1⟩
      go_simp
      refine hK.out _ _ (by exact trivial) (fun hHeld => ?_)
      clear hK K
      (try simp only [Act.put, List.setIfInBounds_toArray, List.set_cons_zero, List.set_cons_succ])
      clear hq
      refine wpAnyH_ready (rs := [14]) (by kernel_rfl) (by simp) ?_
      refine AllReadyH.cons (o := ?_) ?_ (fun K hK => ?_) AllReadyH.nil
      rotate_left 1
      · (simp only [List.getElem?_toArray, List.getElem?_cons_zero, List.getElem?_cons_succ]; try rfl)
      go_simp
      have hszY := HO.out.size
      refine (now_any g (N + 54) _ (by omega) (by exact HC.out)).mono ?_
      rintro e y13 ⟨n, rfl, hn0, hn1, hc, hO⟩
      have hO : Only g y12 y13 := ⟨hO.os, hO.tape, hO.output, hO.size, hO.block⟩
      have BR := Lib.hid (BR.out.only hO (by omega))
      have HL := Lib.hid (HL.out.only hO (by omega))
      have BA := Lib.hid (BA.out.only hO (by have := HAB.out; omega))
      have HP := Lib.hid (HP.out.only hO (by omega))
      have HO := Lib.hid (HO.out.trans hO)
      have HC := Lib.hid hc
      clear hO hc hszY
      go_wp2_with fail
      refine hK.out _ _ (by exact trivial) (fun hHeld => ?_)
      clear hK K
      (try simp only [Act.put, List.setIfInBounds_toArray, List.set_cons_zero, List.set_cons_succ])
      refine wpAnyH_take (i := 15) (oi := ?_) (v := ?_) ?_ ?_ ?_ ?_ ?_ ?_ (by exact hHeld) ?_
      rotate_left 2
      · (simp only [List.getElem?_toArray, List.getElem?_cons_zero, List.getElem?_cons_succ]; try rfl)
      · kernel_rfl
      · kernel_rfl
      · kernel_rfl
      · exact fun _ _ _ h => h
      · refine Or.inl ⟨by rfl, ?_⟩
        (intro V hSV; (try dsimp only at hSV); have q0 := hSV; go_simp; try with_reducible rfl)
      (try simp only [Act.put, List.setIfInBounds_toArray, List.set_cons_zero, List.set_cons_succ])
      refine wpAnyH_take (i := 16) (oi := ?_) (v := ?_) ?_ ?_ ?_ ?_ ?_ ?_ (by exact hHeld) ?_
      rotate_left 2
      · (simp only [List.getElem?_toArray, List.getElem?_cons_zero, List.getElem?_cons_succ]; try rfl)
      · kernel_rfl
      · kernel_rfl
      · kernel_rfl
      · exact fun _ _ _ h => h
      · refine Or.inl ⟨by rfl, ?_⟩
        (intro V hSV; (try dsimp only at hSV); have q0 := hSV; go_simp; try with_reducible rfl)
      (try simp only [Act.put, List.setIfInBounds_toArray, List.set_cons_zero, List.set_cons_succ])
      have r0 := BR.out.cell 0
      have r1 := BR.out.cell 1
      have r2 := BR.out.cell 2
      have g0 := BR.out.frozen 0
      have g1 := BR.out.frozen 1
      have g2 := BR.out.frozen 2
      have hlt := BR.out.lt
      refine wpAnyH_ready (rs := [17]) (by kernel_rfl) (by simp) ?_
      refine AllReadyH.cons (o := ?_) ?_ (fun K hK => ?_) AllReadyH.nil
      rotate_left 1
      · (simp only [List.getElem?_toArray, List.getElem?_cons_zero, List.getElem?_cons_succ]; try rfl)
      go_simp
      refine hK.out _ _ (by exact trivial) (fun hHeld => ?_)
      clear hK K
      (try simp only [Act.put, List.setIfInBounds_toArray, List.set_cons_zero, List.set_cons_succ])
      refine wpAnyH_take (i := 18) (oi := ?_) (v := ?_) ?_ ?_ ?_ ?_ ?_ ?_ (by exact hHeld) ?_
      rotate_left 2
      · (simp only [List.getElem?_toArray, List.getElem?_cons_zero, List.getElem?_cons_succ]; try rfl)
      · kernel_rfl
      · kernel_rfl
      · kernel_rfl
      · exact fun _ _ _ h => h
      · refine Or.inl ⟨by rfl, ?_⟩
        (intro V hSV; (try dsimp only at hSV); have q0 := hSV; go_simp; try with_reducible rfl)
      (try simp only [Act.put, List.setIfInBounds_toArray, List.set_cons_zero, List.set_cons_succ])
      refine wpAnyH_done (by kernel_rfl) ?_ _
      clear hHeld
      have hsO := HO.out.size
      have hOW := (((HL.out.only ((Only.refl w.heap.size y13).setCell 0 (.int .i64 ea)) (by omega)).only ((Only.refl w.heap.size _).setCell 1 (.int .i64 em)) (by omega)).only ((Only.refl w.heap.size _).setCell 2 (.slice eA ep.length ec)) (by omega)).mono (base' := w.heap.size) (by omega)
      have hPW := (((HP.out.only ((Only.refl w.heap.size y13).setCell 0 (.int .i64 ea)) (by omega)).only ((Only.refl w.heap.size _).setCell 1 (.int .i64 em)) (by omega)).only ((Only.refl w.heap.size _).setCell 2 (.slice eA ep.length ec)) (by omega))
      have hBW := (((hb1.trans ((ho2.trans HO.out).below w.heap.size (by omega) (by omega))).setCell (p := ⟨w.heap.size, 0, none⟩) (Nat.le_refl _) (.int .i64 ea)).setCell (p := ⟨w.heap.size, 1, none⟩) (Nat.le_refl _) (.int .i64 em)).setCell (p := ⟨w.heap.size, 2, none⟩) (Nat.le_refl _) (.slice eA ep.length ec)
      obtain ⟨_, _, e8, hp8, hm8, hBP⟩ := hPW.form
      cases e8
      have HOW := Lib.hid hOW
      have HPW := Lib.hid hBP
      have HBW := Lib.hid hBW
      clear hOW hPW hBW hBP
      go_wp2
      refine bodyPost_ret (v := .tuple #[v, .int .i64 q, .agg #[.int .i64 ea, .int .i64 em, .slice eA ep.length ec], .int .i64 n]) (by simp [results, Try.results19, go_sem, r0, r1, r2]) rfl ?_
      exact ⟨v, es, q, ea, em, eA, ep, ec, n, rfl, HOW.out, hes, hqI, hea, hem, ⟨hn0, hn1⟩, by omega, hp8, hm8, HPW.out, HBW.out⟩
    refine AllReadyH.cons (o := ?_) ?_ (fun K hK => ?_) AllReadyH.nil
    rotate_left 1
    · (simp only [List.getElem?_toArray, List.getElem?_cons_zero, List.getElem?_cons_succ]; try rfl)
    go_simp
    have hszY := HO.out.size
    refine (now_any g (N + 54) _ (by omega) (by exact HC.out)).mono ?_
    rintro e y14 ⟨n, rfl, hn0, hn1, hc, hO⟩
    have hO : Only g y12 y14 := ⟨hO.os, hO.tape, hO.output, hO.size, hO.block⟩
    have BR := Lib.hid (BR.out.only hO (by omega))
    have HL := Lib.hid (HL.out.only hO (by omega))
    have BA := Lib.hid (BA.out.only hO (by have := HAB.out; omega))
    have HP := Lib.hid (HP.out.only hO (by omega))
    have HO := Lib.hid (HO.out.trans hO)
    have HC := Lib.hid hc
    clear hO hc hszY
    go_wp2_with fail
    refine hK.out _ _ (by exact trivial) (fun hHeld => ?_)
    clear hK K
    (try simp only [Act.put, List.setIfInBounds_toArray, List.set_cons_zero, List.set_cons_succ])
    refine wpAnyH_take (i := 15) (oi := ?_) (v := ?_) ?_ ?_ ?_ ?_ ?_ ?_ (by exact hHeld) ?_
    rotate_left 2
    · (simp only [List.getElem?_toArray, List.getElem?_cons_zero, List.getElem?_cons_succ]; try rfl)
    · kernel_rfl
    · kernel_rfl
    · kernel_rfl
    · exact fun _ _ _ h => h
    · refine Or.inl ⟨by rfl, ?_⟩
      (intro V hSV; (try dsimp only at hSV); have q0 := hSV; go_simp; try with_reducible rfl)
    (try simp only [Act.put, List.setIfInBounds_toArray, List.set_cons_zero, List.set_cons_succ])
    refine wpAnyH_ready (rs := [10]) (by kernel_rfl) (by simp) ?_
    refine AllReadyH.cons (o := ?_) ?_ (fun K hK => ?_) AllReadyH.nil
    rotate_left 1
    · (simp only [List.getElem?_toArray, List.getElem?_cons_zero, List.getElem?_cons_succ]; try rfl)
    obtain ⟨q, hq, hqI⟩ : ∃ q : Int, (y14).cell? ⟨ab, k, none⟩ = some (.int .i64 q) ∧ isI q := by
      rw [BA.out.cell k]
      match k, (show k < 2 by omega) with
      | 0, _ => exact ⟨_, rfl, by omega, by omega⟩
      | 1, _ => exact ⟨_, rfl, hr0, hr1⟩
    go_simp
    refine hK.out _ _ (by exact trivial) (fun hHeld => ?_)
    clear hK K
    (try simp only [Act.put, List.setIfInBounds_toArray, List.set_cons_zero, List.set_cons_succ])
    clear hq
    refine wpAnyH_take (i := 16) (oi := ?_) (v := ?_) ?_ ?_ ?_ ?_ ?_ ?_ (by exact hHeld) ?_
    rotate_left 2
    · (simp only [List.getElem?_toArray, List.getElem?_cons_zero, List.getElem?_cons_succ]; try rfl)
    · kernel_rfl
    · kernel_rfl
    · kernel_rfl
    · exact fun _ _ _ h => h
    · refine Or.inl ⟨by rfl, ?_⟩
      (intro V hSV; (try dsimp only at hSV); have q0 := hSV; go_simp; try with_reducible rfl)
    (try simp only [Act.put, List.setIfInBounds_toArray, List.set_cons_zero, List.set_cons_succ])
    have r0 := BR.out.cell 0
    have r1 := BR.out.cell 1
    have r2 := BR.out.cell 2
    have g0 := BR.out.frozen 0
    have g1 := BR.out.frozen 1
    have g2 := BR.out.frozen 2
    have hlt := BR.out.lt
    refine wpAnyH_ready (rs := [17]) (by kernel_rfl) (by simp) ?_
    refine AllReadyH.cons (o := ?_) ?_ (fun K hK => ?_) AllReadyH.nil
    rotate_left 1
    · (simp only [List.getElem?_toArray, List.getElem?_cons_zero, List.getElem?_cons_succ]; try rfl)
    go_simp
    refine hK.out _ _ (by exact trivial) (fun hHeld => ?_)
    clear hK K
    (try simp only [Act.put, List.setIfInBounds_toArray, List.set_cons_zero, List.set_cons_succ])
    refine wpAnyH_take (i := 18) (oi := ?_) (v := ?_) ?_ ?_ ?_ ?_ ?_ ?_ (by exact hHeld) ?_
    rotate_left 2
    · (simp only [List.getElem?_toArray, List.getElem?_cons_zero, List.getElem?_cons_succ]; try rfl)
    · kernel_rfl
    · kernel_rfl
    · kernel_rfl
    · exact fun _ _ _ h => h
    · refine Or.inl ⟨by rfl, ?_⟩
      (intro V hSV; (try dsimp only at hSV); have q0 := hSV; go_simp; try with_reducible rfl)
    (try simp only [Act.put, List.setIfInBounds_toArray, List.set_cons_zero, List.set_cons_succ])
    refine wpAnyH_done (by kernel_rfl) ?_ _
    clear hHeld
    have hsO := HO.out.size
    have hOW := (((HL.out.only ((Only.refl w.heap.size y14).setCell 0 (.int .i64 ea)) (by omega)).only ((Only.refl w.heap.size _).setCell 1 (.int .i64 em)) (by omega)).only ((Only.refl w.heap.size _).setCell 2 (.slice eA ep.length ec)) (by omega)).mono (base' := w.heap.size) (by omega)
    have hPW := (((HP.out.only ((Only.refl w.heap.size y14).setCell 0 (.int .i64 ea)) (by omega)).only ((Only.refl w.heap.size _).setCell 1 (.int .i64 em)) (by omega)).only ((Only.refl w.heap.size _).setCell 2 (.slice eA ep.length ec)) (by omega))
    have hBW := (((hb1.trans ((ho2.trans HO.out).below w.heap.size (by omega) (by omega))).setCell (p := ⟨w.heap.size, 0, none⟩) (Nat.le_refl _) (.int .i64 ea)).setCell (p := ⟨w.heap.size, 1, none⟩) (Nat.le_refl _) (.int .i64 em)).setCell (p := ⟨w.heap.size, 2, none⟩) (Nat.le_refl _) (.slice eA ep.length ec)
    obtain ⟨_, _, e8, hp8, hm8, hBP⟩ := hPW.form
    cases e8
    have HOW := Lib.hid hOW
    have HPW := Lib.hid hBP
    have HBW := Lib.hid hBW
    clear hOW hPW hBW hBP
    go_wp2
    refine bodyPost_ret (v := .tuple #[v, .int .i64 q, .agg #[.int .i64 ea, .int .i64 em, .slice eA ep.length ec], .int .i64 n]) (by simp [results, Try.results19, go_sem, r0, r1, r2]) rfl ?_
    exact ⟨v, es, q, ea, em, eA, ep, ec, n, rfl, HOW.out, hes, hqI, hea, hem, ⟨hn0, hn1⟩, by omega, hp8, hm8, HPW.out, HBW.out⟩
  refine AllReadyH.cons (o := ?_) ?_ (fun K hK => ?_) AllReadyH.nil
  rotate_left 1
  · (simp only [List.getElem?_toArray, List.getElem?_cons_zero, List.getElem?_cons_succ]; try rfl)
  go_simp
  have hszY := HO.out.size
  refine (small_any g (N + 4) _ (by omega) (by exact HC.out)).mono ?_
  rintro e y15 ⟨ea, em, ev, ep, rfl, hea, hem, hown, hp5, hc, hO⟩
  have hO : Only g y8 y15 := ⟨hO.os, hO.tape, hO.output, hO.size, hO.block⟩
  have BR := Lib.hid (BR.out.only hO (by omega))
  have HL := Lib.hid (HL.out.only hO (by omega))
  have HO := Lib.hid (HO.out.trans hO)
  have HC := Lib.hid hc
  obtain ⟨eA, ec, rfl, _, _, _⟩ := hown.form
  have HP := Lib.hid (hown.mono (base' := w2.heap.size) hszY)
  clear hown
  clear hO hc hszY
  go_wp2_with fail
  refine hK.out _ _ (by exact trivial) (fun hHeld => ?_)
  clear hK K
  (try simp only [Act.put, List.setIfInBounds_toArray, List.set_cons_zero, List.set_cons_succ])
  refine wpAnyH_ready (rs := [6, 14]) (by kernel_rfl) (by simp) ?_
  refine AllReadyH.cons (o := ?_) ?_ (fun K hK => ?_) ?_
  rotate_left 1
  · (simp only [List.getElem?_toArray, List.getElem?_cons_zero, List.getElem?_cons_succ]; try rfl)
  · have hal := (Below.refl (y15).heap.size (y15)).alloc (Nat.le_refl _) (.cells #[.int .i64 (1 + x), .int .i64 r] 3)
    have hO := Only.of_below (g := g) hal
    have HAB : Hid (g < (y15).heap.size ∧ w2.heap.size ≤ (y15).heap.size) := Lib.hid ⟨by have := HC.out.lt; exact this, HO.out.size⟩
    have BA := Lib.hid (Blk.new (y15) #[.int .i64 (1 + x), .int .i64 r] 3)
    have BR := Lib.hid (BR.out.only hO (by omega))
    have HL := Lib.hid (HL.out.only hO (by omega))
    have HP := Lib.hid (HP.out.only hO (by omega))
    have HO := Lib.hid (HO.out.trans hO)
    have HC := Lib.hid (HC.out.only_new hal)
    clear hal hO
    go_simp
    generalize (y15).heap.size = ab at HAB BA ⊢
    generalize (y15).alloc (.cells #[.int .i64 (1 + x), .int .i64 r] 3) = y16 at BA BR HL HO HC HP ⊢
    refine hK.out _ _ (by exact trivial) (fun hHeld => ?_)
    clear hK K
    (try simp only [Act.put, List.setIfInBounds_toArray, List.set_cons_zero, List.set_cons_succ])
    refine wpAnyH_take (i := 9) (oi := ?_) (v := ?_) ?_ ?_ ?_ ?_ ?_ ?_ (by exact hHeld) ?_
    rotate_left 2
    · (simp only [List.getElem?_toArray, List.getElem?_cons_zero, List.getElem?_cons_succ]; try rfl)
    · kernel_rfl
    · kernel_rfl
    · kernel_rfl
    · exact fun _ _ _ h => h
    · refine Or.inl ⟨by rfl, ?_⟩
      (intro V hSV; (try dsimp only at hSV); have q0 := hSV; go_simp; try with_reducible rfl)
    (try simp only [Act.put, List.setIfInBounds_toArray, List.set_cons_zero, List.set_cons_succ])
    refine wpAnyH_ready (rs := [10, 14]) (by kernel_rfl) (by simp) ?_
    refine AllReadyH.cons (o := ?_) ?_ (fun K hK => ?_) ?_
    rotate_left 1
    · (simp only [List.getElem?_toArray, List.getElem?_cons_zero, List.getElem?_cons_succ]; try rfl)
    · obtain ⟨q, hq, hqI⟩ : ∃ q : Int, (y16).cell? ⟨ab, k, none⟩ = some (.int .i64 q) ∧ isI q := by
        rw [BA.out.cell k]
        match k, (show k < 2 by omega) with
        | 0, _ => exact ⟨_, rfl, by omega, by omega⟩
        | 1, _ => exact ⟨_, rfl, hr0, hr1⟩
      go_simp
      refine hK.out _ _ (by exact trivial) (fun hHeld => ?_)
      clear hK K
      (try simp only [Act.put, List.setIfInBounds_toArray, List.set_cons_zero, List.set_cons_succ])
      clear hq
      refine wpAnyH_ready (rs := [14]) (by kernel_rfl) (by simp) ?_
      refine AllReadyH.cons (o := ?_) ?_ (fun K hK => ?_) AllReadyH.nil
      rotate_left 1
      · (simp only [List.getElem?_toArray, List.getElem?_cons_zero, List.getElem?_cons_succ]; try rfl)
      go_simp
      have hszY := HO.out.size
      refine (now_any g (N + 54) _ (by omega) (by exact HC.out)).mono ?_
      rintro e y17 ⟨n, rfl, hn0, hn1, hc, hO⟩
      have hO : Only g y16 y17 := ⟨hO.os, hO.tape, hO.output, hO.size, hO.block⟩
      have BR := Lib.hid (BR.out.only hO (by omega))
      have HL := Lib.hid (HL.out.only hO (by omega))
      have BA := Lib.hid (BA.out.only hO (by have := HAB.out; omega))
      have HP := Lib.hid (HP.out.only hO (by omega))
      have HO := Lib.hid (HO.out.trans hO)
      have HC := Lib.hid hc
      clear hO hc hszY
      go_wp2_with fail
      refine hK.out _ _ (by exact trivial) (fun hHeld => ?_)
      clear hK K
      (try simp only [Act.put, List.setIfInBounds_toArray, List.set_cons_zero, List.set_cons_succ])
      refine wpAnyH_take (i := 15) (oi := ?_) (v := ?_) ?_ ?_ ?_ ?_ ?_ ?_ (by exact hHeld) ?_
      rotate_left 2
      · (simp only [List.getElem?_toArray, List.getElem?_cons_zero, List.getElem?_cons_succ]; try rfl)
      · kernel_rfl
      · kernel_rfl
      · kernel_rfl
      · exact fun _ _ _ h => h
      · refine Or.inl ⟨by rfl, ?_⟩
        (intro V hSV; (try dsimp only at hSV); have q0 := hSV; go_simp; try with_reducible rfl)
      (try simp only [Act.put, List.setIfInBounds_toArray, List.set_cons_zero, List.set_cons_succ])
      refine wpAnyH_take (i := 16) (oi := ?_) (v := ?_) ?_ ?_ ?_ ?_ ?_ ?_ (by exact hHeld) ?_
      rotate_left 2
      · (simp only [List.getElem?_toArray, List.getElem?_cons_zero, List.getElem?_cons_succ]; try rfl)
      · kernel_rfl
      · kernel_rfl
      · kernel_rfl
      · exact fun _ _ _ h => h
      · refine Or.inl ⟨by rfl, ?_⟩
        (intro V hSV; (try dsimp only at hSV); have q0 := hSV; go_simp; try with_reducible rfl)
      (try simp only [Act.put, List.setIfInBounds_toArray, List.set_cons_zero, List.set_cons_succ])
      have r0 := BR.out.cell 0
      have r1 := BR.out.cell 1
      have r2 := BR.out.cell 2
      have g0 := BR.out.frozen 0
      have g1 := BR.out.frozen 1
      have g2 := BR.out.frozen 2
      have hlt := BR.out.lt
      refine wpAnyH_ready (rs := [17]) (by kernel_rfl) (by simp) ?_
      refine AllReadyH.cons (o := ?_) ?_ (fun K hK => ?_) AllReadyH.nil
      rotate_left 1
      · (simp only [List.getElem?_toArray, List.getElem?_cons_zero, List.getElem?_cons_succ]; try rfl)
      go_simp
      refine hK.out _ _ (by exact trivial) (fun hHeld => ?_)
      clear hK K
      (try simp only [Act.put, List.setIfInBounds_toArray, List.set_cons_zero, List.set_cons_succ])
      refine wpAnyH_take (i := 18) (oi := ?_) (v := ?_) ?_ ?_ ?_ ?_ ?_ ?_ (by exact hHeld) ?_
      rotate_left 2
      · (simp only [List.getElem?_toArray, List.getElem?_cons_zero, List.getElem?_cons_succ]; try rfl)
      · kernel_rfl
      · kernel_rfl
      · kernel_rfl
      · exact fun _ _ _ h => h
      · refine Or.inl ⟨by rfl, ?_⟩
        (intro V hSV; (try dsimp only at hSV); have q0 := hSV; go_simp; try with_reducible rfl)
      (try simp only [Act.put, List.setIfInBounds_toArray, List.set_cons_zero, List.set_cons_succ])
      refine wpAnyH_done (by kernel_rfl) ?_ _
      clear hHeld
      have hsO := HO.out.size
      have hOW := (((HL.out.only ((Only.refl w.heap.size y17).setCell 0 (.int .i64 ea)) (by omega)).only ((Only.refl w.heap.size _).setCell 1 (.int .i64 em)) (by omega)).only ((Only.refl w.heap.size _).setCell 2 (.slice eA ep.length ec)) (by omega)).mono (base' := w.heap.size) (by omega)
      have hPW := (((HP.out.only ((Only.refl w.heap.size y17).setCell 0 (.int .i64 ea)) (by omega)).only ((Only.refl w.heap.size _).setCell 1 (.int .i64 em)) (by omega)).only ((Only.refl w.heap.size _).setCell 2 (.slice eA ep.length ec)) (by omega))
      have hBW := (((hb1.trans ((ho2.trans HO.out).below w.heap.size (by omega) (by omega))).setCell (p := ⟨w.heap.size, 0, none⟩) (Nat.le_refl _) (.int .i64 ea)).setCell (p := ⟨w.heap.size, 1, none⟩) (Nat.le_refl _) (.int .i64 em)).setCell (p := ⟨w.heap.size, 2, none⟩) (Nat.le_refl _) (.slice eA ep.length ec)
      obtain ⟨_, _, e8, hp8, hm8, hBP⟩ := hPW.form
      cases e8
      have HOW := Lib.hid hOW
      have HPW := Lib.hid hBP
      have HBW := Lib.hid hBW
      clear hOW hPW hBW hBP
      go_wp2
      refine bodyPost_ret (v := .tuple #[v, .int .i64 q, .agg #[.int .i64 ea, .int .i64 em, .slice eA ep.length ec], .int .i64 n]) (by simp [results, Try.results19, go_sem, r0, r1, r2]) rfl ?_
      exact ⟨v, es, q, ea, em, eA, ep, ec, n, rfl, HOW.out, hes, hqI, hea, hem, ⟨hn0, hn1⟩, by omega, hp8, hm8, HPW.out, HBW.out⟩
    refine AllReadyH.cons (o := ?_) ?_ (fun K hK => ?_) AllReadyH.nil
    rotate_left 1
    · (simp only [List.getElem?_toArray, List.getElem?_cons_zero, List.getElem?_cons_succ]; try rfl)
    go_simp
    have hszY := HO.out.size
    refine (now_any g (N + 54) _ (by omega) (by exact HC.out)).mono ?_
    rintro e y18 ⟨n, rfl, hn0, hn1, hc, hO⟩
    have hO : Only g y16 y18 := ⟨hO.os, hO.tape, hO.output, hO.size, hO.block⟩
    have BR := Lib.hid (BR.out.only hO (by omega))
    have HL := Lib.hid (HL.out.only hO (by omega))
    have BA := Lib.hid (BA.out.only hO (by have := HAB.out; omega))
    have HP := Lib.hid (HP.out.only hO (by omega))
    have HO := Lib.hid (HO.out.trans hO)
    have HC := Lib.hid hc
    clear hO hc hszY
    go_wp2_with fail
    refine hK.out _ _ (by exact trivial) (fun hHeld => ?_)
    clear hK K
    (try simp only [Act.put, List.setIfInBounds_toArray, List.set_cons_zero, List.set_cons_succ])
    refine wpAnyH_take (i := 15) (oi := ?_) (v := ?_) ?_ ?_ ?_ ?_ ?_ ?_ (by exact hHeld) ?_
    rotate_left 2
    · (simp only [List.getElem?_toArray, List.getElem?_cons_zero, List.getElem?_cons_succ]; try rfl)
    · kernel_rfl
    · kernel_rfl
    · kernel_rfl
    · exact fun _ _ _ h => h
    · refine Or.inl ⟨by rfl, ?_⟩
      (intro V hSV; (try dsimp only at hSV); have q0 := hSV; go_simp; try with_reducible rfl)
    (try simp only [Act.put, List.setIfInBounds_toArray, List.set_cons_zero, List.set_cons_succ])
    refine wpAnyH_ready (rs := [10]) (by kernel_rfl) (by simp) ?_
    refine AllReadyH.cons (o := ?_) ?_ (fun K hK => ?_) AllReadyH.nil
    rotate_left 1
    · (simp only [List.getElem?_toArray, List.getElem?_cons_zero, List.getElem?_cons_succ]; try rfl)
    obtain ⟨q, hq, hqI⟩ : ∃ q : Int, (y18).cell? ⟨ab, k, none⟩ = some (.int .i64 q) ∧ isI q := by
      rw [BA.out.cell k]
      match k, (show k < 2 by omega) with
      | 0, _ => exact ⟨_, rfl, by omega, by omega⟩
      | 1, _ => exact ⟨_, rfl, hr0, hr1⟩
    go_simp
    refine hK.out _ _ (by exact trivial) (fun hHeld => ?_)
    clear hK K
    (try simp only [Act.put, List.setIfInBounds_toArray, List.set_cons_zero, List.set_cons_succ])
    clear hq
    refine wpAnyH_take (i := 16) (oi := ?_) (v := ?_) ?_ ?_ ?_ ?_ ?_ ?_ (by exact hHeld) ?_
    rotate_left 2
    · (simp only [List.getElem?_toArray, List.getElem?_cons_zero, List.getElem?_cons_succ]; try rfl)
    · kernel_rfl
    · kernel_rfl
    · kernel_rfl
    · exact fun _ _ _ h => h
    · refine Or.inl ⟨by rfl, ?_⟩
      (intro V hSV; (try dsimp only at hSV); have q0 := hSV; go_simp; try with_reducible rfl)
    (try simp only [Act.put, List.setIfInBounds_toArray, List.set_cons_zero, List.set_cons_succ])
    have r0 := BR.out.cell 0
    have r1 := BR.out.cell 1
    have r2 := BR.out.cell 2
    have g0 := BR.out.frozen 0
    have g1 := BR.out.frozen 1
    have g2 := BR.out.frozen 2
    have hlt := BR.out.lt
    refine wpAnyH_ready (rs := [17]) (by kernel_rfl) (by simp) ?_
    refine AllReadyH.cons (o := ?_) ?_ (fun K hK => ?_) AllReadyH.nil
    rotate_left 1
    · (simp only [List.getElem?_toArray, List.getElem?_cons_zero, List.getElem?_cons_succ]; try rfl)
    go_simp
    refine hK.out _ _ (by exact trivial) (fun hHeld => ?_)
    clear hK K
    (try simp only [Act.put, List.setIfInBounds_toArray, List.set_cons_zero, List.set_cons_succ])
    refine wpAnyH_take (i := 18) (oi := ?_) (v := ?_) ?_ ?_ ?_ ?_ ?_ ?_ (by exact hHeld) ?_
    rotate_left 2
    · (simp only [List.getElem?_toArray, List.getElem?_cons_zero, List.getElem?_cons_succ]; try rfl)
    · kernel_rfl
    · kernel_rfl
    · kernel_rfl
    · exact fun _ _ _ h => h
    · refine Or.inl ⟨by rfl, ?_⟩
      (intro V hSV; (try dsimp only at hSV); have q0 := hSV; go_simp; try with_reducible rfl)
    (try simp only [Act.put, List.setIfInBounds_toArray, List.set_cons_zero, List.set_cons_succ])
    refine wpAnyH_done (by kernel_rfl) ?_ _
    clear hHeld
    have hsO := HO.out.size
    have hOW := (((HL.out.only ((Only.refl w.heap.size y18).setCell 0 (.int .i64 ea)) (by omega)).only ((Only.refl w.heap.size _).setCell 1 (.int .i64 em)) (by omega)).only ((Only.refl w.heap.size _).setCell 2 (.slice eA ep.length ec)) (by omega)).mono (base' := w.heap.size) (by omega)
    have hPW := (((HP.out.only ((Only.refl w.heap.size y18).setCell 0 (.int .i64 ea)) (by omega)).only ((Only.refl w.heap.size _).setCell 1 (.int .i64 em)) (by omega)).only ((Only.refl w.heap.size _).setCell 2 (.slice eA ep.length ec)) (by omega))
    have hBW := (((hb1.trans ((ho2.trans HO.out).below w.heap.size (by omega) (by omega))).setCell (p := ⟨w.heap.size, 0, none⟩) (Nat.le_refl _) (.int .i64 ea)).setCell (p := ⟨w.heap.size, 1, none⟩) (Nat.le_refl _) (.int .i64 em)).setCell (p := ⟨w.heap.size, 2, none⟩) (Nat.le_refl _) (.slice eA ep.length ec)
    obtain ⟨_, _, e8, hp8, hm8, hBP⟩ := hPW.form
    cases e8
    have HOW := Lib.hid hOW
    have HPW := Lib.hid hBP
    have HBW := Lib.hid hBW
    clear hOW hPW hBW hBP
    go_wp2
    refine bodyPost_ret (v := .tuple #[v, .int .i64 q, .agg #[.int .i64 ea, .int .i64 em, .slice eA ep.length ec], .int .i64 n]) (by simp [results, Try.results19, go_sem, r0, r1, r2]) rfl ?_
    exact ⟨v, es, q, ea, em, eA, ep, ec, n, rfl, HOW.out, hes, hqI, hea, hem, ⟨hn0, hn1⟩, by omega, hp8, hm8, HPW.out, HBW.out⟩
  refine AllReadyH.cons (o := ?_) ?_ (fun K hK => ?_) AllReadyH.nil
  rotate_left 1
  · (simp only [List.getElem?_toArray, List.getElem?_cons_zero, List.getElem?_cons_succ]; try rfl)
  go_simp
  have hszY := HO.out.size
  refine (now_any g (N + 54) _ (by omega) (by exact HC.out)).mono ?_
  rintro e y19 ⟨n, rfl, hn0, hn1, hc, hO⟩
  have hO : Only g y15 y19 := ⟨hO.os, hO.tape, hO.output, hO.size, hO.block⟩
  have BR := Lib.hid (BR.out.only hO (by omega))
  have HL := Lib.hid (HL.out.only hO (by omega))
  have HP := Lib.hid (HP.out.only hO (by omega))
  have HO := Lib.hid (HO.out.trans hO)
  have HC := Lib.hid hc
  clear hO hc hszY
  go_wp2_with fail
  refine hK.out _ _ (by exact trivial) (fun hHeld => ?_)
  clear hK K
  (try simp only [Act.put, List.setIfInBounds_toArray, List.set_cons_zero, List.set_cons_succ])
  refine wpAnyH_take (i := 15) (oi := ?_) (v := ?_) ?_ ?_ ?_ ?_ ?_ ?_ (by exact hHeld) ?_
  rotate_left 2
  · (simp only [List.getElem?_toArray, List.getElem?_cons_zero, List.getElem?_cons_succ]; try rfl)
  · kernel_rfl
  · kernel_rfl
  · kernel_rfl
  · exact fun _ _ _ h => h
  · refine Or.inl ⟨by rfl, ?_⟩
    (intro V hSV; (try dsimp only at hSV); have q0 := hSV; go_simp; try with_reducible rfl)
  (try simp only [Act.put, List.setIfInBounds_toArray, List.set_cons_zero, List.set_cons_succ])
  refine wpAnyH_ready (rs := [6]) (by kernel_rfl) (by simp) ?_
  refine AllReadyH.cons (o := ?_) ?_ (fun K hK => ?_) AllReadyH.nil
  rotate_left 1
  · (simp only [List.getElem?_toArray, List.getElem?_cons_zero, List.getElem?_cons_succ]; try rfl)
  have hal := (Below.refl (y19).heap.size (y19)).alloc (Nat.le_refl _) (.cells #[.int .i64 (1 + x), .int .i64 r] 3)
  have hO := Only.of_below (g := g) hal
  have HAB : Hid (g < (y19).heap.size ∧ w2.heap.size ≤ (y19).heap.size) := Lib.hid ⟨by have := HC.out.lt; exact this, HO.out.size⟩
  have BA := Lib.hid (Blk.new (y19) #[.int .i64 (1 + x), .int .i64 r] 3)
  have BR := Lib.hid (BR.out.only hO (by omega))
  have HL := Lib.hid (HL.out.only hO (by omega))
  have HP := Lib.hid (HP.out.only hO (by omega))
  have HO := Lib.hid (HO.out.trans hO)
  have HC := Lib.hid (HC.out.only_new hal)
  clear hal hO
  go_simp
  generalize (y19).heap.size = ab at HAB BA ⊢
  generalize (y19).alloc (.cells #[.int .i64 (1 + x), .int .i64 r] 3) = y20 at BA BR HL HO HC HP ⊢
  refine hK.out _ _ (by exact trivial) (fun hHeld => ?_)
  clear hK K
  (try simp only [Act.put, List.setIfInBounds_toArray, List.set_cons_zero, List.set_cons_succ])
  refine wpAnyH_take (i := 9) (oi := ?_) (v := ?_) ?_ ?_ ?_ ?_ ?_ ?_ (by exact hHeld) ?_
  rotate_left 2
  · (simp only [List.getElem?_toArray, List.getElem?_cons_zero, List.getElem?_cons_succ]; try rfl)
  · kernel_rfl
  · kernel_rfl
  · kernel_rfl
  · exact fun _ _ _ h => h
  · refine Or.inl ⟨by rfl, ?_⟩
    (intro V hSV; (try dsimp only at hSV); have q0 := hSV; go_simp; try with_reducible rfl)
  (try simp only [Act.put, List.setIfInBounds_toArray, List.set_cons_zero, List.set_cons_succ])
  refine wpAnyH_ready (rs := [10]) (by kernel_rfl) (by simp) ?_
  refine AllReadyH.cons (o := ?_) ?_ (fun K hK => ?_) AllReadyH.nil
  rotate_left 1
  · (simp only [List.getElem?_toArray, List.getElem?_cons_zero, List.getElem?_cons_succ]; try rfl)
  obtain ⟨q, hq, hqI⟩ : ∃ q : Int, (y20).cell? ⟨ab, k, none⟩ = some (.int .i64 q) ∧ isI q := by
    rw [BA.out.cell k]
    match k, (show k < 2 by omega) with
    | 0, _ => exact ⟨_, rfl, by omega, by omega⟩
    | 1, _ => exact ⟨_, rfl, hr0, hr1⟩
  go_simp
  refine hK.out _ _ (by exact trivial) (fun hHeld => ?_)
  clear hK K
  (try simp only [Act.put, List.setIfInBounds_toArray, List.set_cons_zero, List.set_cons_succ])
  clear hq
  refine wpAnyH_take (i := 16) (oi := ?_) (v := ?_) ?_ ?_ ?_ ?_ ?_ ?_ (by exact hHeld) ?_
  rotate_left 2
  · (simp only [List.getElem?_toArray, List.getElem?_cons_zero, List.getElem?_cons_succ]; try rfl)
  · kernel_rfl
  · kernel_rfl
  · kernel_rfl
  · exact fun _ _ _ h => h
  · refine Or.inl ⟨by rfl, ?_⟩
    (intro V hSV; (try dsimp only at hSV); have q0 := hSV; go_simp; try with_reducible rfl)
  (try simp only [Act.put, List.setIfInBounds_toArray, List.set_cons_zero, List.set_cons_succ])
  have r0 := BR.out.cell 0
  have r1 := BR.out.cell 1
  have r2 := BR.out.cell 2
  have g0 := BR.out.frozen 0
  have g1 := BR.out.frozen 1
  have g2 := BR.out.frozen 2
  have hlt := BR.out.lt
  refine wpAnyH_ready (rs := [17]) (by kernel_rfl) (by simp) ?_
  refine AllReadyH.cons (o := ?_) ?_ (fun K hK => ?_) AllReadyH.nil
  rotate_left 1
  · (simp only [List.getElem?_toArray, List.getElem?_cons_zero, List.getElem?_cons_succ]; try rfl)
  go_simp
  refine hK.out _ _ (by exact trivial) (fun hHeld => ?_)
  clear hK K
  (try simp only [Act.put, List.setIfInBounds_toArray, List.set_cons_zero, List.set_cons_succ])
  refine wpAnyH_take (i := 18) (oi := ?_) (v := ?_) ?_ ?_ ?_ ?_ ?_ ?_ (by exact hHeld) ?_
  rotate_left 2
  · (simp only [List.getElem?_toArray, List.getElem?_cons_zero, List.getElem?_cons_succ]; try rfl)
  · kernel_rfl
  · kernel_rfl
  · kernel_rfl
  · exact fun _ _ _ h => h
  · refine Or.inl ⟨by rfl, ?_⟩
    (intro V hSV; (try dsimp only at hSV); have q0 := hSV; go_simp; try with_reducible rfl)
  (try simp only [Act.put, List.setIfInBounds_toArray, List.set_cons_zero, List.set_cons_succ])
  refine wpAnyH_done (by kernel_rfl) ?_ _
  clear hHeld
  have hsO := HO.out.size
  have hOW := (((HL.out.only ((Only.refl w.heap.size y20).setCell 0 (.int .i64 ea)) (by omega)).only ((Only.refl w.heap.size _).setCell 1 (.int .i64 em)) (by omega)).only ((Only.refl w.heap.size _).setCell 2 (.slice eA ep.length ec)) (by omega)).mono (base' := w.heap.size) (by omega)
  have hPW := (((HP.out.only ((Only.refl w.heap.size y20).setCell 0 (.int .i64 ea)) (by omega)).only ((Only.refl w.heap.size _).setCell 1 (.int .i64 em)) (by omega)).only ((Only.refl w.heap.size _).setCell 2 (.slice eA ep.length ec)) (by omega))
  have hBW := (((hb1.trans ((ho2.trans HO.out).below w.heap.size (by omega) (by omega))).setCell (p := ⟨w.heap.size, 0, none⟩) (Nat.le_refl _) (.int .i64 ea)).setCell (p := ⟨w.heap.size, 1, none⟩) (Nat.le_refl _) (.int .i64 em)).setCell (p := ⟨w.heap.size, 2, none⟩) (Nat.le_refl _) (.slice eA ep.length ec)
  obtain ⟨_, _, e8, hp8, hm8, hBP⟩ := hPW.form
  cases e8
  have HOW := Lib.hid hOW
  have HPW := Lib.hid hBP
  have HBW := Lib.hid hBW
  clear hOW hPW hBW hBP
  go_wp2
  refine bodyPost_ret (v := .tuple #[v, .int .i64 q, .agg #[.int .i64 ea, .int .i64 em, .slice eA ep.length ec], .int .i64 n]) (by simp [results, Try.results19, go_sem, r0, r1, r2]) rfl ?_
  exact ⟨v, es, q, ea, em, eA, ep, ec, n, rfl, HOW.out, hes, hqI, hea, hem, ⟨hn0, hn1⟩, by omega, hp8, hm8, HPW.out, HBW.out⟩
end Go.Proofs.Ytgpjjolgpppeeaa

/-
  Chapter 7, the laws' comparison of two lists of leases: contract. Own work.
-/
namespace Go.Proofs.Ytgpjjolgpppeeaa
open Go.RowKit P
set_option linter.unusedVariables false
set_option linter.unusedSimpArgs false
set_option maxRecDepth 100000

set_option maxHeartbeats 4000000 in
theorem sameLeases_any (A B : Option Addr) (es fs : List Le) (c d : Nat) (w : World) (hl : es.length ≤ 1048576) (hA : Ll w A es) (hB : Ll w B fs) :
    Calls Try.prog 32 #[.slice A es.length c, .slice B fs.length d] w fun e w' => e = .returned (.bool (decide (es = fs))) ∧ Below w.heap.size w w' := by
  by_cases hlen : es.length = fs.length
  case neg =>
    have hne : decide (es = fs) = false := decide_eq_false (fun e => hlen (by rw [e]))
    rw [hne]
    have hn1 : ((es.length : Int) == (fs.length : Int)) = false := by simp; omega
    clear hne hlen hA hB
    go_enter Try.func32, Try.ntmps32
    go_wp2
    go_ret
    exact ⟨rfl, Below.refl _ _⟩
  have hn1 : ((es.length : Int) == (fs.length : Int)) = true := by simp; omega
  obtain ⟨n, hn⟩ : ∃ n, es.length = n := ⟨_, rfl⟩
  have HN := Lib.hid hn
  have HF : Hid (fs.length = n) := Lib.hid (by omega)
  obtain ⟨z, hz⟩ : ∃ z, decide (es = fs) = z := ⟨_, rfl⟩
  have HZ := Lib.hid hz
  rw [HZ.out, HN.out, HF.out]
  have hnn : ((n : Int) == (n : Int)) = true := by simp
  have hn9 : n ≤ 1048576 := by omega
  clear hn hz hlen hn1 hl
  go_enter Try.func32, Try.ntmps32
  go_wp2
  go_loopw [5] (fun ii wr => ∃ i : Nat, ii = .int .i64 i ∧ i ≤ n ∧ es.take i = fs.take i ∧ Below w.heap.size w wr) (fun ii _ => n - (intOf ii).toNat)
  case atStart => exact ⟨0, rfl, by omega, by simp, Below.refl _ _⟩
  case round =>
    obtain ⟨i, rfl, hi, hpre, hbw⟩ := hrel
    have HP := Lib.hid hpre
    by_cases hlt : i < n
    · have hie : i < es.length := by rw [HN.out]; exact hlt
      have hif : i < fs.length := by rw [HF.out]; exact hlt
      obtain ⟨b, off, x, y, s, t, rfl, hbl, hek, k0, k1, k2, k3, _⟩ := (hA.below hbw).at_ i hie
      obtain ⟨b', off', x', y', s', t', rfl, hbl', hek', m0, m1, m2, m3, _⟩ := (hB.below hbw).at_ i hif
      have hi0 : (0 : Int) ≤ (i : Int) := by omega
      have hi1 : (i : Int) < (n : Int) := by omega
      by_cases he : (x, y, s, t) = (x', y', s', t')
      · cases he
        have hnext : es.take (i + 1) = fs.take (i + 1) := by
          rw [List.take_succ_eq_append_getElem hie, List.take_succ_eq_append_getElem hif, HP.out, hek, hek']
        have HX := Lib.hid hnext
        have hx1 : (x == x) = true := by simp
        have hx2 : (y == y) = true := by simp
        have hx3 : (s == s) = true := by simp
        have hx4 : (t == t) = true := by simp
        clear hnext hek hek' hpre hA hB
        go_upto_region 6 with fail
        refine wp_region_held_drew (S := (fun V => V.cell? ⟨b, off + i * 4, none⟩ = some (.int .i64 x) ∧ V.cell? ⟨b, off + i * 4 + 1, none⟩ = some (.int .i64 y) ∧ V.cell? ⟨b, off + i * 4 + 2, none⟩ = some (.int .i64 s) ∧ V.cell? ⟨b, off + i * 4 + 3, none⟩ = some (.int .i64 t) ∧ V.cell? ⟨b', off' + i * 4, none⟩ = some (.int .i64 x) ∧ V.cell? ⟨b', off' + i * 4 + 1, none⟩ = some (.int .i64 y) ∧ V.cell? ⟨b', off' + i * 4 + 2, none⟩ = some (.int .i64 s) ∧ V.cell? ⟨b', off' + i * 4 + 3, none⟩ = some (.int .i64 t))) (by kernel_rfl) (by exact ⟨k0, k1, k2, k3, m0, m1, m2, m3⟩) (fun hHeld => ?_)
        refine wpAnyH_take (i := 0) (oi := ?_) (v := ?_) ?_ ?_ ?_ ?_ ?_ ?_ (by exact hHeld) ?_
        rotate_left 2
        · (simp only [List.getElem?_toArray, List.getElem?_cons_zero]; try rfl)
        · kernel_rfl
        · kernel_rfl
        · kernel_rfl
        · exact fun _ _ _ h => h
        · refine Or.inl ⟨by rfl, ?_⟩
          (intro V hSV; (try dsimp only at hSV); obtain ⟨q0, q1, q2, q3, q4, q5, q6, q7⟩ := hSV; go_simp; try with_reducible rfl)
        (try simp only [Act.put, List.setIfInBounds_toArray, List.set_cons_zero, List.set_cons_succ])
        refine wpAnyH_take (i := 1) (oi := ?_) (v := ?_) ?_ ?_ ?_ ?_ ?_ ?_ (by exact hHeld) ?_
        rotate_left 2
        · (simp only [List.getElem?_toArray, List.getElem?_cons_zero, List.getElem?_cons_succ]; try rfl)
        · kernel_rfl
        · kernel_rfl
        · kernel_rfl
        · exact fun _ _ _ h => h
        · refine Or.inl ⟨by rfl, ?_⟩
          (intro V hSV; (try dsimp only at hSV); obtain ⟨q0, q1, q2, q3, q4, q5, q6, q7⟩ := hSV; go_simp; try with_reducible rfl)
        (try simp only [Act.put, List.setIfInBounds_toArray, List.set_cons_zero, List.set_cons_succ])
        refine wpAnyH_take (i := 2) (oi := ?_) (v := ?_) ?_ ?_ ?_ ?_ ?_ ?_ (by exact hHeld) ?_
        rotate_left 2
        · (simp only [List.getElem?_toArray, List.getElem?_cons_zero, List.getElem?_cons_succ]; try rfl)
        · kernel_rfl
        · kernel_rfl
        · kernel_rfl
        · exact fun _ _ _ h => h
        · refine Or.inl ⟨by rfl, ?_⟩
          (intro V hSV; (try dsimp only at hSV); obtain ⟨q0, q1, q2, q3, q4, q5, q6, q7⟩ := hSV; go_simp; try with_reducible rfl)
        (try simp only [Act.put, List.setIfInBounds_toArray, List.set_cons_zero, List.set_cons_succ])
        refine wpAnyH_take (i := 3) (oi := ?_) (v := ?_) ?_ ?_ ?_ ?_ ?_ ?_ (by exact hHeld) ?_
        rotate_left 2
        · (simp only [List.getElem?_toArray, List.getElem?_cons_zero, List.getElem?_cons_succ]; try rfl)
        · kernel_rfl
        · kernel_rfl
        · kernel_rfl
        · exact fun _ _ _ h => h
        · refine Or.inl ⟨by rfl, ?_⟩
          (intro V hSV; (try dsimp only at hSV); obtain ⟨q0, q1, q2, q3, q4, q5, q6, q7⟩ := hSV; go_simp; try with_reducible rfl)
        (try simp only [Act.put, List.setIfInBounds_toArray, List.set_cons_zero, List.set_cons_succ])
        refine wpAnyH_take (i := 4) (oi := ?_) (v := ?_) ?_ ?_ ?_ ?_ ?_ ?_ (by exact hHeld) ?_
        rotate_left 2
        · (simp only [List.getElem?_toArray, List.getElem?_cons_zero, List.getElem?_cons_succ]; try rfl)
        · kernel_rfl
        · kernel_rfl
        · kernel_rfl
        · exact fun _ _ _ h => h
        · refine Or.inl ⟨by rfl, ?_⟩
          (intro V hSV; (try dsimp only at hSV); obtain ⟨q0, q1, q2, q3, q4, q5, q6, q7⟩ := hSV; go_simp; try with_reducible rfl)
        (try simp only [Act.put, List.setIfInBounds_toArray, List.set_cons_zero, List.set_cons_succ])
        refine wpAnyH_take (i := 5) (oi := ?_) (v := ?_) ?_ ?_ ?_ ?_ ?_ ?_ (by exact hHeld) ?_
        rotate_left 2
        · (simp only [List.getElem?_toArray, List.getElem?_cons_zero, List.getElem?_cons_succ]; try rfl)
        · kernel_rfl
        · kernel_rfl
        · kernel_rfl
        · exact fun _ _ _ h => h
        · refine Or.inl ⟨by rfl, ?_⟩
          (intro V hSV; (try dsimp only at hSV); obtain ⟨q0, q1, q2, q3, q4, q5, q6, q7⟩ := hSV; go_simp; try with_reducible rfl)
        (try simp only [Act.put, List.setIfInBounds_toArray, List.set_cons_zero, List.set_cons_succ])
        refine wpAnyH_take (i := 6) (oi := ?_) (v := ?_) ?_ ?_ ?_ ?_ ?_ ?_ (by exact hHeld) ?_
        rotate_left 2
        · (simp only [List.getElem?_toArray, List.getElem?_cons_zero, List.getElem?_cons_succ]; try rfl)
        · kernel_rfl
        · kernel_rfl
        · kernel_rfl
        · exact fun _ _ _ h => h
        · refine Or.inl ⟨by rfl, ?_⟩
          (intro V hSV; (try dsimp only at hSV); obtain ⟨q0, q1, q2, q3, q4, q5, q6, q7⟩ := hSV; go_simp; try with_reducible rfl)
        (try simp only [Act.put, List.setIfInBounds_toArray, List.set_cons_zero, List.set_cons_succ])
        refine wpAnyH_take (i := 7) (oi := ?_) (v := ?_) ?_ ?_ ?_ ?_ ?_ ?_ (by exact hHeld) ?_
        rotate_left 2
        · (simp only [List.getElem?_toArray, List.getElem?_cons_zero, List.getElem?_cons_succ]; try rfl)
        · kernel_rfl
        · kernel_rfl
        · kernel_rfl
        · exact fun _ _ _ h => h
        · refine Or.inl ⟨by rfl, ?_⟩
          (intro V hSV; (try dsimp only at hSV); obtain ⟨q0, q1, q2, q3, q4, q5, q6, q7⟩ := hSV; go_simp; try with_reducible rfl)
        (try simp only [Act.put, List.setIfInBounds_toArray, List.set_cons_zero, List.set_cons_succ])
        refine wpAnyH_take (i := 8) (oi := ?_) (v := ?_) ?_ ?_ ?_ ?_ ?_ ?_ (by exact hHeld) ?_
        rotate_left 2
        · (simp only [List.getElem?_toArray, List.getElem?_cons_zero, List.getElem?_cons_succ]; try rfl)
        · kernel_rfl
        · kernel_rfl
        · kernel_rfl
        · exact fun _ _ _ h => h
        · refine Or.inl ⟨by rfl, ?_⟩
          (intro V hSV; (try dsimp only at hSV); obtain ⟨q0, q1, q2, q3, q4, q5, q6, q7⟩ := hSV; go_simp; try with_reducible rfl)
        (try simp only [Act.put, List.setIfInBounds_toArray, List.set_cons_zero, List.set_cons_succ])
        refine wpAnyH_done (by kernel_rfl) ?_ _
        clear hHeld
        go_wp2
        go_roundw
        case rel => exact ⟨i + 1, by go_num, by omega, HX.out, hbw.drew⟩
        case measure => simp [intOf]; omega
      · have hzf : z = false := by
          rw [← HZ.out]
          refine decide_eq_false (fun e => he ?_)
          subst e
          rw [← hek, ← hek']
        subst hzf
        have HHE := Lib.hid he
        clear hek hek' hpre hA hB he
        by_cases h1 : x = x'
        · subst h1
          by_cases h2 : y = y'
          · subst h2
            by_cases h3 : s = s'
            · subst h3
              have h4 : (t == t') = false := beq_eq_false_iff_ne.2 (fun e => HHE.out (by rw [e]))
              have hx1 : (x == x) = true := by simp
              have hx2 : (y == y) = true := by simp
              have hx3 : (s == s) = true := by simp
              go_upto_region 6 with fail
              refine wp_region_held_drew (S := (fun V => V.cell? ⟨b, off + i * 4, none⟩ = some (.int .i64 x) ∧ V.cell? ⟨b, off + i * 4 + 1, none⟩ = some (.int .i64 y) ∧ V.cell? ⟨b, off + i * 4 + 2, none⟩ = some (.int .i64 s) ∧ V.cell? ⟨b, off + i * 4 + 3, none⟩ = some (.int .i64 t) ∧ V.cell? ⟨b', off' + i * 4, none⟩ = some (.int .i64 x) ∧ V.cell? ⟨b', off' + i * 4 + 1, none⟩ = some (.int .i64 y) ∧ V.cell? ⟨b', off' + i * 4 + 2, none⟩ = some (.int .i64 s) ∧ V.cell? ⟨b', off' + i * 4 + 3, none⟩ = some (.int .i64 t'))) (by kernel_rfl) (by exact ⟨k0, k1, k2, k3, m0, m1, m2, m3⟩) (fun hHeld => ?_)
              refine wpAnyH_take (i := 0) (oi := ?_) (v := ?_) ?_ ?_ ?_ ?_ ?_ ?_ (by exact hHeld) ?_
              rotate_left 2
              · (simp only [List.getElem?_toArray, List.getElem?_cons_zero]; try rfl)
              · kernel_rfl
              · kernel_rfl
              · kernel_rfl
              · exact fun _ _ _ h => h
              · refine Or.inl ⟨by rfl, ?_⟩
                (intro V hSV; (try dsimp only at hSV); obtain ⟨q0, q1, q2, q3, q4, q5, q6, q7⟩ := hSV; go_simp; try with_reducible rfl)
              (try simp only [Act.put, List.setIfInBounds_toArray, List.set_cons_zero, List.set_cons_succ])
              refine wpAnyH_take (i := 1) (oi := ?_) (v := ?_) ?_ ?_ ?_ ?_ ?_ ?_ (by exact hHeld) ?_
              rotate_left 2
              · (simp only [List.getElem?_toArray, List.getElem?_cons_zero, List.getElem?_cons_succ]; try rfl)
              · kernel_rfl
              · kernel_rfl
              · kernel_rfl
              · exact fun _ _ _ h => h
              · refine Or.inl ⟨by rfl, ?_⟩
                (intro V hSV; (try dsimp only at hSV); obtain ⟨q0, q1, q2, q3, q4, q5, q6, q7⟩ := hSV; go_simp; try with_reducible rfl)
              (try simp only [Act.put, List.setIfInBounds_toArray, List.set_cons_zero, List.set_cons_succ])
              refine wpAnyH_take (i := 2) (oi := ?_) (v := ?_) ?_ ?_ ?_ ?_ ?_ ?_ (by exact hHeld) ?_
              rotate_left 2
              · (simp only [List.getElem?_toArray, List.getElem?_cons_zero, List.getElem?_cons_succ]; try rfl)
              · kernel_rfl
              · kernel_rfl
              · kernel_rfl
              · exact fun _ _ _ h => h
              · refine Or.inl ⟨by rfl, ?_⟩
                (intro V hSV; (try dsimp only at hSV); obtain ⟨q0, q1, q2, q3, q4, q5, q6, q7⟩ := hSV; go_simp; try with_reducible rfl)
              (try simp only [Act.put, List.setIfInBounds_toArray, List.set_cons_zero, List.set_cons_succ])
              refine wpAnyH_take (i := 3) (oi := ?_) (v := ?_) ?_ ?_ ?_ ?_ ?_ ?_ (by exact hHeld) ?_
              rotate_left 2
              · (simp only [List.getElem?_toArray, List.getElem?_cons_zero, List.getElem?_cons_succ]; try rfl)
              · kernel_rfl
              · kernel_rfl
              · kernel_rfl
              · exact fun _ _ _ h => h
              · refine Or.inl ⟨by rfl, ?_⟩
                (intro V hSV; (try dsimp only at hSV); obtain ⟨q0, q1, q2, q3, q4, q5, q6, q7⟩ := hSV; go_simp; try with_reducible rfl)
              (try simp only [Act.put, List.setIfInBounds_toArray, List.set_cons_zero, List.set_cons_succ])
              refine wpAnyH_take (i := 4) (oi := ?_) (v := ?_) ?_ ?_ ?_ ?_ ?_ ?_ (by exact hHeld) ?_
              rotate_left 2
              · (simp only [List.getElem?_toArray, List.getElem?_cons_zero, List.getElem?_cons_succ]; try rfl)
              · kernel_rfl
              · kernel_rfl
              · kernel_rfl
              · exact fun _ _ _ h => h
              · refine Or.inl ⟨by rfl, ?_⟩
                (intro V hSV; (try dsimp only at hSV); obtain ⟨q0, q1, q2, q3, q4, q5, q6, q7⟩ := hSV; go_simp; try with_reducible rfl)
              (try simp only [Act.put, List.setIfInBounds_toArray, List.set_cons_zero, List.set_cons_succ])
              refine wpAnyH_take (i := 5) (oi := ?_) (v := ?_) ?_ ?_ ?_ ?_ ?_ ?_ (by exact hHeld) ?_
              rotate_left 2
              · (simp only [List.getElem?_toArray, List.getElem?_cons_zero, List.getElem?_cons_succ]; try rfl)
              · kernel_rfl
              · kernel_rfl
              · kernel_rfl
              · exact fun _ _ _ h => h
              · refine Or.inl ⟨by rfl, ?_⟩
                (intro V hSV; (try dsimp only at hSV); obtain ⟨q0, q1, q2, q3, q4, q5, q6, q7⟩ := hSV; go_simp; try with_reducible rfl)
              (try simp only [Act.put, List.setIfInBounds_toArray, List.set_cons_zero, List.set_cons_succ])
              refine wpAnyH_take (i := 6) (oi := ?_) (v := ?_) ?_ ?_ ?_ ?_ ?_ ?_ (by exact hHeld) ?_
              rotate_left 2
              · (simp only [List.getElem?_toArray, List.getElem?_cons_zero, List.getElem?_cons_succ]; try rfl)
              · kernel_rfl
              · kernel_rfl
              · kernel_rfl
              · exact fun _ _ _ h => h
              · refine Or.inl ⟨by rfl, ?_⟩
                (intro V hSV; (try dsimp only at hSV); obtain ⟨q0, q1, q2, q3, q4, q5, q6, q7⟩ := hSV; go_simp; try with_reducible rfl)
              (try simp only [Act.put, List.setIfInBounds_toArray, List.set_cons_zero, List.set_cons_succ])
              refine wpAnyH_take (i := 7) (oi := ?_) (v := ?_) ?_ ?_ ?_ ?_ ?_ ?_ (by exact hHeld) ?_
              rotate_left 2
              · (simp only [List.getElem?_toArray, List.getElem?_cons_zero, List.getElem?_cons_succ]; try rfl)
              · kernel_rfl
              · kernel_rfl
              · kernel_rfl
              · exact fun _ _ _ h => h
              · refine Or.inl ⟨by rfl, ?_⟩
                (intro V hSV; (try dsimp only at hSV); obtain ⟨q0, q1, q2, q3, q4, q5, q6, q7⟩ := hSV; go_simp; try with_reducible rfl)
              (try simp only [Act.put, List.setIfInBounds_toArray, List.set_cons_zero, List.set_cons_succ])
              refine wpAnyH_take (i := 8) (oi := ?_) (v := ?_) ?_ ?_ ?_ ?_ ?_ ?_ (by exact hHeld) ?_
              rotate_left 2
              · (simp only [List.getElem?_toArray, List.getElem?_cons_zero, List.getElem?_cons_succ]; try rfl)
              · kernel_rfl
              · kernel_rfl
              · kernel_rfl
              · exact fun _ _ _ h => h
              · refine Or.inl ⟨by rfl, ?_⟩
                (intro V hSV; (try dsimp only at hSV); obtain ⟨q0, q1, q2, q3, q4, q5, q6, q7⟩ := hSV; go_simp; try with_reducible rfl)
              (try simp only [Act.put, List.setIfInBounds_toArray, List.set_cons_zero, List.set_cons_succ])
              refine wpAnyH_done (by kernel_rfl) ?_ _
              clear hHeld
              go_wp2
              go_ret
              exact ⟨rfl, hbw.drew⟩
            · have h4 : (s == s') = false := beq_eq_false_iff_ne.2 h3
              clear h3
              have hx1 : (x == x) = true := by simp
              have hx2 : (y == y) = true := by simp
              go_upto_region 6 with fail
              refine wp_region_held_drew (S := (fun V => V.cell? ⟨b, off + i * 4, none⟩ = some (.int .i64 x) ∧ V.cell? ⟨b, off + i * 4 + 1, none⟩ = some (.int .i64 y) ∧ V.cell? ⟨b, off + i * 4 + 2, none⟩ = some (.int .i64 s) ∧ V.cell? ⟨b, off + i * 4 + 3, none⟩ = some (.int .i64 t) ∧ V.cell? ⟨b', off' + i * 4, none⟩ = some (.int .i64 x) ∧ V.cell? ⟨b', off' + i * 4 + 1, none⟩ = some (.int .i64 y) ∧ V.cell? ⟨b', off' + i * 4 + 2, none⟩ = some (.int .i64 s') ∧ V.cell? ⟨b', off' + i * 4 + 3, none⟩ = some (.int .i64 t'))) (by kernel_rfl) (by exact ⟨k0, k1, k2, k3, m0, m1, m2, m3⟩) (fun hHeld => ?_)
              refine wpAnyH_take (i := 0) (oi := ?_) (v := ?_) ?_ ?_ ?_ ?_ ?_ ?_ (by exact hHeld) ?_
              rotate_left 2
              · (simp only [List.getElem?_toArray, List.getElem?_cons_zero]; try rfl)
              · kernel_rfl
              · kernel_rfl
              · kernel_rfl
              · exact fun _ _ _ h => h
              · refine Or.inl ⟨by rfl, ?_⟩
                (intro V hSV; (try dsimp only at hSV); obtain ⟨q0, q1, q2, q3, q4, q5, q6, q7⟩ := hSV; go_simp; try with_reducible rfl)
              (try simp only [Act.put, List.setIfInBounds_toArray, List.set_cons_zero, List.set_cons_succ])
              refine wpAnyH_take (i := 1) (oi := ?_) (v := ?_) ?_ ?_ ?_ ?_ ?_ ?_ (by exact hHeld) ?_
              rotate_left 2
              · (simp only [List.getElem?_toArray, List.getElem?_cons_zero, List.getElem?_cons_succ]; try rfl)
              · kernel_rfl
              · kernel_rfl
              · kernel_rfl
              · exact fun _ _ _ h => h
              · refine Or.inl ⟨by rfl, ?_⟩
                (intro V hSV; (try dsimp only at hSV); obtain ⟨q0, q1, q2, q3, q4, q5, q6, q7⟩ := hSV; go_simp; try with_reducible rfl)
              (try simp only [Act.put, List.setIfInBounds_toArray, List.set_cons_zero, List.set_cons_succ])
              refine wpAnyH_take (i := 2) (oi := ?_) (v := ?_) ?_ ?_ ?_ ?_ ?_ ?_ (by exact hHeld) ?_
              rotate_left 2
              · (simp only [List.getElem?_toArray, List.getElem?_cons_zero, List.getElem?_cons_succ]; try rfl)
              · kernel_rfl
              · kernel_rfl
              · kernel_rfl
              · exact fun _ _ _ h => h
              · refine Or.inl ⟨by rfl, ?_⟩
                (intro V hSV; (try dsimp only at hSV); obtain ⟨q0, q1, q2, q3, q4, q5, q6, q7⟩ := hSV; go_simp; try with_reducible rfl)
              (try simp only [Act.put, List.setIfInBounds_toArray, List.set_cons_zero, List.set_cons_succ])
              refine wpAnyH_take (i := 3) (oi := ?_) (v := ?_) ?_ ?_ ?_ ?_ ?_ ?_ (by exact hHeld) ?_
              rotate_left 2
              · (simp only [List.getElem?_toArray, List.getElem?_cons_zero, List.getElem?_cons_succ]; try rfl)
              · kernel_rfl
              · kernel_rfl
              · kernel_rfl
              · exact fun _ _ _ h => h
              · refine Or.inl ⟨by rfl, ?_⟩
                (intro V hSV; (try dsimp only at hSV); obtain ⟨q0, q1, q2, q3, q4, q5, q6, q7⟩ := hSV; go_simp; try with_reducible rfl)
              (try simp only [Act.put, List.setIfInBounds_toArray, List.set_cons_zero, List.set_cons_succ])
              refine wpAnyH_take (i := 4) (oi := ?_) (v := ?_) ?_ ?_ ?_ ?_ ?_ ?_ (by exact hHeld) ?_
              rotate_left 2
              · (simp only [List.getElem?_toArray, List.getElem?_cons_zero, List.getElem?_cons_succ]; try rfl)
              · kernel_rfl
              · kernel_rfl
              · kernel_rfl
              · exact fun _ _ _ h => h
              · refine Or.inl ⟨by rfl, ?_⟩
                (intro V hSV; (try dsimp only at hSV); obtain ⟨q0, q1, q2, q3, q4, q5, q6, q7⟩ := hSV; go_simp; try with_reducible rfl)
              (try simp only [Act.put, List.setIfInBounds_toArray, List.set_cons_zero, List.set_cons_succ])
              refine wpAnyH_take (i := 5) (oi := ?_) (v := ?_) ?_ ?_ ?_ ?_ ?_ ?_ (by exact hHeld) ?_
              rotate_left 2
              · (simp only [List.getElem?_toArray, List.getElem?_cons_zero, List.getElem?_cons_succ]; try rfl)
              · kernel_rfl
              · kernel_rfl
              · kernel_rfl
              · exact fun _ _ _ h => h
              · refine Or.inl ⟨by rfl, ?_⟩
                (intro V hSV; (try dsimp only at hSV); obtain ⟨q0, q1, q2, q3, q4, q5, q6, q7⟩ := hSV; go_simp; try with_reducible rfl)
              (try simp only [Act.put, List.setIfInBounds_toArray, List.set_cons_zero, List.set_cons_succ])
              refine wpAnyH_take (i := 6) (oi := ?_) (v := ?_) ?_ ?_ ?_ ?_ ?_ ?_ (by exact hHeld) ?_
              rotate_left 2
              · (simp only [List.getElem?_toArray, List.getElem?_cons_zero, List.getElem?_cons_succ]; try rfl)
              · kernel_rfl
              · kernel_rfl
              · kernel_rfl
              · exact fun _ _ _ h => h
              · refine Or.inl ⟨by rfl, ?_⟩
                (intro V hSV; (try dsimp only at hSV); obtain ⟨q0, q1, q2, q3, q4, q5, q6, q7⟩ := hSV; go_simp; try with_reducible rfl)
              (try simp only [Act.put, List.setIfInBounds_toArray, List.set_cons_zero, List.set_cons_succ])
              refine wpAnyH_take (i := 7) (oi := ?_) (v := ?_) ?_ ?_ ?_ ?_ ?_ ?_ (by exact hHeld) ?_
              rotate_left 2
              · (simp only [List.getElem?_toArray, List.getElem?_cons_zero, List.getElem?_cons_succ]; try rfl)
              · kernel_rfl
              · kernel_rfl
              · kernel_rfl
              · exact fun _ _ _ h => h
              · refine Or.inl ⟨by rfl, ?_⟩
                (intro V hSV; (try dsimp only at hSV); obtain ⟨q0, q1, q2, q3, q4, q5, q6, q7⟩ := hSV; go_simp; try with_reducible rfl)
              (try simp only [Act.put, List.setIfInBounds_toArray, List.set_cons_zero, List.set_cons_succ])
              refine wpAnyH_take (i := 8) (oi := ?_) (v := ?_) ?_ ?_ ?_ ?_ ?_ ?_ (by exact hHeld) ?_
              rotate_left 2
              · (simp only [List.getElem?_toArray, List.getElem?_cons_zero, List.getElem?_cons_succ]; try rfl)
              · kernel_rfl
              · kernel_rfl
              · kernel_rfl
              · exact fun _ _ _ h => h
              · refine Or.inl ⟨by rfl, ?_⟩
                (intro V hSV; (try dsimp only at hSV); obtain ⟨q0, q1, q2, q3, q4, q5, q6, q7⟩ := hSV; go_simp; try with_reducible rfl)
              (try simp only [Act.put, List.setIfInBounds_toArray, List.set_cons_zero, List.set_cons_succ])
              refine wpAnyH_done (by kernel_rfl) ?_ _
              clear hHeld
              go_wp2
              go_ret
              exact ⟨rfl, hbw.drew⟩
          · have h4 : (y == y') = false := beq_eq_false_iff_ne.2 h2
            clear h2
            have hx1 : (x == x) = true := by simp
            go_upto_region 6 with fail
            refine wp_region_held_drew (S := (fun V => V.cell? ⟨b, off + i * 4, none⟩ = some (.int .i64 x) ∧ V.cell? ⟨b, off + i * 4 + 1, none⟩ = some (.int .i64 y) ∧ V.cell? ⟨b, off + i * 4 + 2, none⟩ = some (.int .i64 s) ∧ V.cell? ⟨b, off + i * 4 + 3, none⟩ = some (.int .i64 t) ∧ V.cell? ⟨b', off' + i * 4, none⟩ = some (.int .i64 x) ∧ V.cell? ⟨b', off' + i * 4 + 1, none⟩ = some (.int .i64 y') ∧ V.cell? ⟨b', off' + i * 4 + 2, none⟩ = some (.int .i64 s') ∧ V.cell? ⟨b', off' + i * 4 + 3, none⟩ = some (.int .i64 t'))) (by kernel_rfl) (by exact ⟨k0, k1, k2, k3, m0, m1, m2, m3⟩) (fun hHeld => ?_)
            refine wpAnyH_take (i := 0) (oi := ?_) (v := ?_) ?_ ?_ ?_ ?_ ?_ ?_ (by exact hHeld) ?_
            rotate_left 2
            · (simp only [List.getElem?_toArray, List.getElem?_cons_zero]; try rfl)
            · kernel_rfl
            · kernel_rfl
            · kernel_rfl
            · exact fun _ _ _ h => h
            · refine Or.inl ⟨by rfl, ?_⟩
              (intro V hSV; (try dsimp only at hSV); obtain ⟨q0, q1, q2, q3, q4, q5, q6, q7⟩ := hSV; go_simp; try with_reducible rfl)
            (try simp only [Act.put, List.setIfInBounds_toArray, List.set_cons_zero, List.set_cons_succ])
            refine wpAnyH_take (i := 1) (oi := ?_) (v := ?_) ?_ ?_ ?_ ?_ ?_ ?_ (by exact hHeld) ?_
            rotate_left 2
            · (simp only [List.getElem?_toArray, List.getElem?_cons_zero, List.getElem?_cons_succ]; try rfl)
            · kernel_rfl
            · kernel_rfl
            · kernel_rfl
            · exact fun _ _ _ h => h
            · refine Or.inl ⟨by rfl, ?_⟩
              (intro V hSV; (try dsimp only at hSV); obtain ⟨q0, q1, q2, q3, q4, q5, q6, q7⟩ := hSV; go_simp; try with_reducible rfl)
            (try simp only [Act.put, List.setIfInBounds_toArray, List.set_cons_zero, List.set_cons_succ])
            refine wpAnyH_take (i := 2) (oi := ?_) (v := ?_) ?_ ?_ ?_ ?_ ?_ ?_ (by exact hHeld) ?_
            rotate_left 2
            · (simp only [List.getElem?_toArray, List.getElem?_cons_zero, List.getElem?_cons_succ]; try rfl)
            · kernel_rfl
            · kernel_rfl
            · kernel_rfl
            · exact fun _ _ _ h => h
            · refine Or.inl ⟨by rfl, ?_⟩
              (intro V hSV; (try dsimp only at hSV); obtain ⟨q0, q1, q2, q3, q4, q5, q6, q7⟩ := hSV; go_simp; try with_reducible rfl)
            (try simp only [Act.put, List.setIfInBounds_toArray, List.set_cons_zero, List.set_cons_succ])
            refine wpAnyH_take (i := 3) (oi := ?_) (v := ?_) ?_ ?_ ?_ ?_ ?_ ?_ (by exact hHeld) ?_
            rotate_left 2
            · (simp only [List.getElem?_toArray, List.getElem?_cons_zero, List.getElem?_cons_succ]; try rfl)
            · kernel_rfl
            · kernel_rfl
            · kernel_rfl
            · exact fun _ _ _ h => h
            · refine Or.inl ⟨by rfl, ?_⟩
              (intro V hSV; (try dsimp only at hSV); obtain ⟨q0, q1, q2, q3, q4, q5, q6, q7⟩ := hSV; go_simp; try with_reducible rfl)
            (try simp only [Act.put, List.setIfInBounds_toArray, List.set_cons_zero, List.set_cons_succ])
            refine wpAnyH_take (i := 4) (oi := ?_) (v := ?_) ?_ ?_ ?_ ?_ ?_ ?_ (by exact hHeld) ?_
            rotate_left 2
            · (simp only [List.getElem?_toArray, List.getElem?_cons_zero, List.getElem?_cons_succ]; try rfl)
            · kernel_rfl
            · kernel_rfl
            · kernel_rfl
            · exact fun _ _ _ h => h
            · refine Or.inl ⟨by rfl, ?_⟩
              (intro V hSV; (try dsimp only at hSV); obtain ⟨q0, q1, q2, q3, q4, q5, q6, q7⟩ := hSV; go_simp; try with_reducible rfl)
            (try simp only [Act.put, List.setIfInBounds_toArray, List.set_cons_zero, List.set_cons_succ])
            refine wpAnyH_take (i := 5) (oi := ?_) (v := ?_) ?_ ?_ ?_ ?_ ?_ ?_ (by exact hHeld) ?_
            rotate_left 2
            · (simp only [List.getElem?_toArray, List.getElem?_cons_zero, List.getElem?_cons_succ]; try rfl)
            · kernel_rfl
            · kernel_rfl
            · kernel_rfl
            · exact fun _ _ _ h => h
            · refine Or.inl ⟨by rfl, ?_⟩
              (intro V hSV; (try dsimp only at hSV); obtain ⟨q0, q1, q2, q3, q4, q5, q6, q7⟩ := hSV; go_simp; try with_reducible rfl)
            (try simp only [Act.put, List.setIfInBounds_toArray, List.set_cons_zero, List.set_cons_succ])
            refine wpAnyH_take (i := 6) (oi := ?_) (v := ?_) ?_ ?_ ?_ ?_ ?_ ?_ (by exact hHeld) ?_
            rotate_left 2
            · (simp only [List.getElem?_toArray, List.getElem?_cons_zero, List.getElem?_cons_succ]; try rfl)
            · kernel_rfl
            · kernel_rfl
            · kernel_rfl
            · exact fun _ _ _ h => h
            · refine Or.inl ⟨by rfl, ?_⟩
              (intro V hSV; (try dsimp only at hSV); obtain ⟨q0, q1, q2, q3, q4, q5, q6, q7⟩ := hSV; go_simp; try with_reducible rfl)
            (try simp only [Act.put, List.setIfInBounds_toArray, List.set_cons_zero, List.set_cons_succ])
            refine wpAnyH_take (i := 7) (oi := ?_) (v := ?_) ?_ ?_ ?_ ?_ ?_ ?_ (by exact hHeld) ?_
            rotate_left 2
            · (simp only [List.getElem?_toArray, List.getElem?_cons_zero, List.getElem?_cons_succ]; try rfl)
            · kernel_rfl
            · kernel_rfl
            · kernel_rfl
            · exact fun _ _ _ h => h
            · refine Or.inl ⟨by rfl, ?_⟩
              (intro V hSV; (try dsimp only at hSV); obtain ⟨q0, q1, q2, q3, q4, q5, q6, q7⟩ := hSV; go_simp; try with_reducible rfl)
            (try simp only [Act.put, List.setIfInBounds_toArray, List.set_cons_zero, List.set_cons_succ])
            refine wpAnyH_take (i := 8) (oi := ?_) (v := ?_) ?_ ?_ ?_ ?_ ?_ ?_ (by exact hHeld) ?_
            rotate_left 2
            · (simp only [List.getElem?_toArray, List.getElem?_cons_zero, List.getElem?_cons_succ]; try rfl)
            · kernel_rfl
            · kernel_rfl
            · kernel_rfl
            · exact fun _ _ _ h => h
            · refine Or.inl ⟨by rfl, ?_⟩
              (intro V hSV; (try dsimp only at hSV); obtain ⟨q0, q1, q2, q3, q4, q5, q6, q7⟩ := hSV; go_simp; try with_reducible rfl)
            (try simp only [Act.put, List.setIfInBounds_toArray, List.set_cons_zero, List.set_cons_succ])
            refine wpAnyH_done (by kernel_rfl) ?_ _
            clear hHeld
            go_wp2
            go_ret
            exact ⟨rfl, hbw.drew⟩
        · have h4 : (x == x') = false := beq_eq_false_iff_ne.2 h1
          clear h1
          go_upto_region 6 with fail
          refine wp_region_held_drew (S := (fun V => V.cell? ⟨b, off + i * 4, none⟩ = some (.int .i64 x) ∧ V.cell? ⟨b, off + i * 4 + 1, none⟩ = some (.int .i64 y) ∧ V.cell? ⟨b, off + i * 4 + 2, none⟩ = some (.int .i64 s) ∧ V.cell? ⟨b, off + i * 4 + 3, none⟩ = some (.int .i64 t) ∧ V.cell? ⟨b', off' + i * 4, none⟩ = some (.int .i64 x') ∧ V.cell? ⟨b', off' + i * 4 + 1, none⟩ = some (.int .i64 y') ∧ V.cell? ⟨b', off' + i * 4 + 2, none⟩ = some (.int .i64 s') ∧ V.cell? ⟨b', off' + i * 4 + 3, none⟩ = some (.int .i64 t'))) (by kernel_rfl) (by exact ⟨k0, k1, k2, k3, m0, m1, m2, m3⟩) (fun hHeld => ?_)
          refine wpAnyH_take (i := 0) (oi := ?_) (v := ?_) ?_ ?_ ?_ ?_ ?_ ?_ (by exact hHeld) ?_
          rotate_left 2
          · (simp only [List.getElem?_toArray, List.getElem?_cons_zero]; try rfl)
          · kernel_rfl
          · kernel_rfl
          · kernel_rfl
          · exact fun _ _ _ h => h
          · refine Or.inl ⟨by rfl, ?_⟩
            (intro V hSV; (try dsimp only at hSV); obtain ⟨q0, q1, q2, q3, q4, q5, q6, q7⟩ := hSV; go_simp; try with_reducible rfl)
          (try simp only [Act.put, List.setIfInBounds_toArray, List.set_cons_zero, List.set_cons_succ])
          refine wpAnyH_take (i := 1) (oi := ?_) (v := ?_) ?_ ?_ ?_ ?_ ?_ ?_ (by exact hHeld) ?_
          rotate_left 2
          · (simp only [List.getElem?_toArray, List.getElem?_cons_zero, List.getElem?_cons_succ]; try rfl)
          · kernel_rfl
          · kernel_rfl
          · kernel_rfl
          · exact fun _ _ _ h => h
          · refine Or.inl ⟨by rfl, ?_⟩
            (intro V hSV; (try dsimp only at hSV); obtain ⟨q0, q1, q2, q3, q4, q5, q6, q7⟩ := hSV; go_simp; try with_reducible rfl)
          (try simp only [Act.put, List.setIfInBounds_toArray, List.set_cons_zero, List.set_cons_succ])
          refine wpAnyH_take (i := 2) (oi := ?_) (v := ?_) ?_ ?_ ?_ ?_ ?_ ?_ (by exact hHeld) ?_
          rotate_left 2
          · (simp only [List.getElem?_toArray, List.getElem?_cons_zero, List.getElem?_cons_succ]; try rfl)
          · kernel_rfl
          · kernel_rfl
          · kernel_rfl
          · exact fun _ _ _ h => h
          · refine Or.inl ⟨by rfl, ?_⟩
            (intro V hSV; (try dsimp only at hSV); obtain ⟨q0, q1, q2, q3, q4, q5, q6, q7⟩ := hSV; go_simp; try with_reducible rfl)
          (try simp only [Act.put, List.setIfInBounds_toArray, List.set_cons_zero, List.set_cons_succ])
          refine wpAnyH_take (i := 3) (oi := ?_) (v := ?_) ?_ ?_ ?_ ?_ ?_ ?_ (by exact hHeld) ?_
          rotate_left 2
          · (simp only [List.getElem?_toArray, List.getElem?_cons_zero, List.getElem?_cons_succ]; try rfl)
          · kernel_rfl
          · kernel_rfl
          · kernel_rfl
          · exact fun _ _ _ h => h
          · refine Or.inl ⟨by rfl, ?_⟩
            (intro V hSV; (try dsimp only at hSV); obtain ⟨q0, q1, q2, q3, q4, q5, q6, q7⟩ := hSV; go_simp; try with_reducible rfl)
          (try simp only [Act.put, List.setIfInBounds_toArray, List.set_cons_zero, List.set_cons_succ])
          refine wpAnyH_take (i := 4) (oi := ?_) (v := ?_) ?_ ?_ ?_ ?_ ?_ ?_ (by exact hHeld) ?_
          rotate_left 2
          · (simp only [List.getElem?_toArray, List.getElem?_cons_zero, List.getElem?_cons_succ]; try rfl)
          · kernel_rfl
          · kernel_rfl
          · kernel_rfl
          · exact fun _ _ _ h => h
          · refine Or.inl ⟨by rfl, ?_⟩
            (intro V hSV; (try dsimp only at hSV); obtain ⟨q0, q1, q2, q3, q4, q5, q6, q7⟩ := hSV; go_simp; try with_reducible rfl)
          (try simp only [Act.put, List.setIfInBounds_toArray, List.set_cons_zero, List.set_cons_succ])
          refine wpAnyH_take (i := 5) (oi := ?_) (v := ?_) ?_ ?_ ?_ ?_ ?_ ?_ (by exact hHeld) ?_
          rotate_left 2
          · (simp only [List.getElem?_toArray, List.getElem?_cons_zero, List.getElem?_cons_succ]; try rfl)
          · kernel_rfl
          · kernel_rfl
          · kernel_rfl
          · exact fun _ _ _ h => h
          · refine Or.inl ⟨by rfl, ?_⟩
            (intro V hSV; (try dsimp only at hSV); obtain ⟨q0, q1, q2, q3, q4, q5, q6, q7⟩ := hSV; go_simp; try with_reducible rfl)
          (try simp only [Act.put, List.setIfInBounds_toArray, List.set_cons_zero, List.set_cons_succ])
          refine wpAnyH_take (i := 6) (oi := ?_) (v := ?_) ?_ ?_ ?_ ?_ ?_ ?_ (by exact hHeld) ?_
          rotate_left 2
          · (simp only [List.getElem?_toArray, List.getElem?_cons_zero, List.getElem?_cons_succ]; try rfl)
          · kernel_rfl
          · kernel_rfl
          · kernel_rfl
          · exact fun _ _ _ h => h
          · refine Or.inl ⟨by rfl, ?_⟩
            (intro V hSV; (try dsimp only at hSV); obtain ⟨q0, q1, q2, q3, q4, q5, q6, q7⟩ := hSV; go_simp; try with_reducible rfl)
          (try simp only [Act.put, List.setIfInBounds_toArray, List.set_cons_zero, List.set_cons_succ])
          refine wpAnyH_take (i := 7) (oi := ?_) (v := ?_) ?_ ?_ ?_ ?_ ?_ ?_ (by exact hHeld) ?_
          rotate_left 2
          · (simp only [List.getElem?_toArray, List.getElem?_cons_zero, List.getElem?_cons_succ]; try rfl)
          · kernel_rfl
          · kernel_rfl
          · kernel_rfl
          · exact fun _ _ _ h => h
          · refine Or.inl ⟨by rfl, ?_⟩
            (intro V hSV; (try dsimp only at hSV); obtain ⟨q0, q1, q2, q3, q4, q5, q6, q7⟩ := hSV; go_simp; try with_reducible rfl)
          (try simp only [Act.put, List.setIfInBounds_toArray, List.set_cons_zero, List.set_cons_succ])
          refine wpAnyH_take (i := 8) (oi := ?_) (v := ?_) ?_ ?_ ?_ ?_ ?_ ?_ (by exact hHeld) ?_
          rotate_left 2
          · (simp only [List.getElem?_toArray, List.getElem?_cons_zero, List.getElem?_cons_succ]; try rfl)
          · kernel_rfl
          · kernel_rfl
          · kernel_rfl
          · exact fun _ _ _ h => h
          · refine Or.inl ⟨by rfl, ?_⟩
            (intro V hSV; (try dsimp only at hSV); obtain ⟨q0, q1, q2, q3, q4, q5, q6, q7⟩ := hSV; go_simp; try with_reducible rfl)
          (try simp only [Act.put, List.setIfInBounds_toArray, List.set_cons_zero, List.set_cons_succ])
          refine wpAnyH_done (by kernel_rfl) ?_ _
          clear hHeld
          go_wp2
          go_ret
          exact ⟨rfl, hbw.drew⟩
    · obtain rfl : i = n := by omega
      have hzt : z = true := by
        rw [← HZ.out]
        refine decide_eq_true ?_
        have h1 := HP.out
        rw [List.take_of_length_le (by rw [HN.out]; omega), List.take_of_length_le (by rw [HF.out]; omega)] at h1
        exact h1
      subst hzt
      go_wp2
      go_ret
      exact ⟨rfl, hbw⟩
end Go.Proofs.Ytgpjjolgpppeeaa
