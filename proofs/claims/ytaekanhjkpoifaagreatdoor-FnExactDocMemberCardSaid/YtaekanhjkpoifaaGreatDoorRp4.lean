/-
  Texts of one claim in one: OpenS, I02, S02, I02b, I02c, I02d, I02f, Cur6, S02b, R04, Cur9, Cur10, Es, C09b, Law, C10, J10, D01, D04. Own work.
-/
import Derived.Test.YtaekanhjkpoifaaGreatDoorRp0
import Derived.ProofKit
import Derived.OpenShut
import Derived.OpenVars
import Derived.ChangeOld
import Derived.Deep.DeepHandedRow
import Derived.Test.YtaekanhjkpoifaaGreatDoorRC05
import Derived.Test.YtaekanhjkpoifaaGreatDoorRp3
import Derived.Shelf.Bytes.SlCountOne
import Derived.Test.YtaekanhjkpoifaaGreatDoorRI01
import Derived.Test.YtaekanhjkpoifaaGreatDoorRS01
import Derived.Handy
import Derived.Test.YtaekanhjkpoifaaGreatDoorRI01f
import Derived.Lib.SlBytesConst
import Derived.Test.YtaekanhjkpoifaaGreatDoorRp1
import Derived.BigQuiet
import Derived.Deep.QuietTactic
import Derived.Deep.RegionHeld3
import Derived.Deep.DeepCutAuto
import Derived.Test.YtaekanhjkpoifaaGreatDoorRC09
import Derived.Test.YtaekanhjkpoifaaGreatDoorCards
import Derived.Test.YtaekanhjkpoifaaGreatDoorTie
import Derived.Lib.LaidTab
import Derived.Lib.SliceRun

/-
 Edits opened as arguments. Own work.
 Lists of edits, and selections, opened as arguments. Own work.
 Stacks, opened as arguments. Own work.
-/
namespace Go.Proofs.YtaekanhjkpoifaaGreatDoor
open Go.ChangeShapes Go.WideShapes Go.ChangeAt Go.RowKit Go.Deep P
set_option linter.unusedVariables false
set_option maxRecDepth 100000

section
variable {H : Type} {enc : TypeId × Value → H} {w : World} {base : Nat} {spare : Nat → Bool} {held : Bool}

/-- A struct of three fields of one cell each. -/
theorem reads_struct3 {α β γ : Type} {t : TypeId} {f0 f1 f2 : Field} {K : Lay α} {L : Lay β} {M : Lay γ} (ht : Tryz.prog.underlying t = some (.struct #[f0, f1, f2])) (h0 : f0.offset = 0) (h1 : f1.offset = 1) (h2 : f2.offset = 2)
  (c0 : Tryz.prog.cellsOf f0.type = 1) (c1 : Tryz.prog.cellsOf f1.type = 1) (c2 : Tryz.prog.cellsOf f2.type = 1) (hC : Tryz.prog.cellsOf t = 3)
  (r0 : Reads enc w base spare held f0.type K) (r1 : Reads enc w base spare held f1.type L) (r2 : Reads enc w base spare held f2.type M) : Reads enc w base spare held t (Lay.pair K (Lay.pair L M)) := by
 intro fuel cs x hf
 obtain ⟨xs, n, _, hx, hlen, hxl, hg⟩ := DataW.trod_struct ht hf
 rw [hC] at hlen
 have hxl' : xs.length = 3 := by rw [hxl]; rfl
 match cs, hlen with
 | [u0, u1, u2], _ =>
  have g0 := hg 0 f0 rfl
  have g1 := hg 1 f1 rfl
  have g2 := hg 2 f2 rfl
  rw [h0, c0] at g0
  rw [h1, c1] at g1
  rw [h2, c2] at g2
  obtain ⟨y0, hy0⟩ : ∃ y, xs[0]? = some y := ⟨xs[0]'(by omega), List.getElem?_eq_getElem (by omega)⟩
  obtain ⟨y1, hy1⟩ : ∃ y, xs[1]? = some y := ⟨xs[1]'(by omega), List.getElem?_eq_getElem (by omega)⟩
  obtain ⟨y2, hy2⟩ : ∃ y, xs[2]? = some y := ⟨xs[2]'(by omega), List.getElem?_eq_getElem (by omega)⟩
  rw [hy0] at g0
  rw [hy1] at g1
  rw [hy2] at g2
  obtain ⟨d0, e0⟩ := r0 n [u0] y0 g0
  obtain ⟨d1, e1⟩ := r1 n [u1] y1 g1
  obtain ⟨d2, e2⟩ := r2 n [u2] y2 g2
  exact ⟨(d0, d1, d2), [u0], [u1, u2], rfl, e0, [u1], [u2], rfl, e1, e2⟩

theorem reads_edit (hsp : ∀ b, spare b = true) : Reads enc w base spare held 90 Lay.edit :=
 reads_struct3 Tryz.underlying90 rfl rfl rfl (by kernel_rfl) (by kernel_rfl) (by kernel_rfl) (by kernel_rfl) reads_int reads_int (reads_bytes hsp)
end

end Go.Proofs.YtaekanhjkpoifaaGreatDoor

namespace Go.Proofs.YtaekanhjkpoifaaGreatDoor
open Go.ChangeShapes Go.WideShapes Go.ChangeAt Go.RowKit Go.Deep P
set_option linter.unusedVariables false
set_option maxRecDepth 100000

section
variable {H : Type} {enc : TypeId × Value → H} {w : World} {base : Nat} {spare : Nat → Bool} {held : Bool}

/-- A struct of two fields of one cell each. -/
theorem reads_struct2 {α β : Type} {t : TypeId} {f0 f1 : Field} {K : Lay α} {L : Lay β} (ht : Tryz.prog.underlying t = some (.struct #[f0, f1])) (h0 : f0.offset = 0) (h1 : f1.offset = 1)
  (c0 : Tryz.prog.cellsOf f0.type = 1) (c1 : Tryz.prog.cellsOf f1.type = 1) (hC : Tryz.prog.cellsOf t = 2)
  (r0 : Reads enc w base spare held f0.type K) (r1 : Reads enc w base spare held f1.type L) : Reads enc w base spare held t (Lay.pair K L) := by
 intro fuel cs x hf
 obtain ⟨xs, n, _, hx, hlen, hxl, hg⟩ := DataW.trod_struct ht hf
 rw [hC] at hlen
 have hxl' : xs.length = 2 := by rw [hxl]; rfl
 match cs, hlen with
 | [u0, u1], _ =>
  have g0 := hg 0 f0 rfl
  have g1 := hg 1 f1 rfl
  rw [h0, c0] at g0
  rw [h1, c1] at g1
  obtain ⟨y0, hy0⟩ : ∃ y, xs[0]? = some y := ⟨xs[0]'(by omega), List.getElem?_eq_getElem (by omega)⟩
  obtain ⟨y1, hy1⟩ : ∃ y, xs[1]? = some y := ⟨xs[1]'(by omega), List.getElem?_eq_getElem (by omega)⟩
  rw [hy0] at g0
  rw [hy1] at g1
  obtain ⟨d0, e0⟩ := r0 n [u0] y0 g0
  obtain ⟨d1, e1⟩ := r1 n [u1] y1 g1
  exact ⟨(d0, d1), [u0], [u1], rfl, e0, e1⟩

theorem reads_sel : Reads enc w base spare held 94 (Lay.pair Lay.int Lay.int) :=
 reads_struct2 Tryz.underlying94 rfl rfl (by kernel_rfl) (by kernel_rfl) (by kernel_rfl) reads_int reads_int
theorem reads_edits (hsp : ∀ b, spare b = true) : Reads enc w base spare held 95 (Lay.slice 90 Lay.edit) :=
 reads_slice Tryz.underlying95 (by kernel_rfl) (by decide) (reads_edit hsp)
end
end Go.Proofs.YtaekanhjkpoifaaGreatDoor

namespace Go.Proofs.YtaekanhjkpoifaaGreatDoor
open Go.ChangeShapes Go.WideShapes Go.ChangeAt Go.RowKit Go.Deep P
set_option linter.unusedVariables false
set_option maxRecDepth 100000

section
variable {H : Type} {enc : TypeId × Value → H} {w : World} {base : Nat} {spare : Nat → Bool} {held : Bool}
theorem reads_stack (hsp : ∀ b, spare b = true) : Reads enc w base spare held 97 (Lay.pair (Lay.slice 90 Lay.edit) (Lay.slice 90 Lay.edit)) :=
 reads_struct2 Tryz.underlying97 rfl rfl (by kernel_rfl) (by kernel_rfl) (by kernel_rfl) (reads_edits hsp) (reads_edits hsp)
end
end Go.Proofs.YtaekanhjkpoifaaGreatDoor

/-
 Chapter 2, the program's MeasOf, and the model's: contracts. Own work.
-/
namespace Go.Proofs.YtaekanhjkpoifaaGreatDoor
open Go.RowKit P
set_option linter.unusedVariables false
set_option maxRecDepth 100000

/-- What a call that returns a measure ends in. -/
def meas (b r n : Int) : Value := .agg #[.int .i64 b, .int .i64 r, .int .i64 n]

end Go.Proofs.YtaekanhjkpoifaaGreatDoor

/-
 Chapter 2, the model's MeasOf: contract. Own work.
-/
namespace Go.Proofs.YtaekanhjkpoifaaGreatDoor
open Go.RowKit P
set_option linter.unusedVariables false
set_option maxRecDepth 100000

end Go.Proofs.YtaekanhjkpoifaaGreatDoor

/-
 Chapter 2, ChunkOk of the program and of the model: contracts. Own work.
-/
namespace Go.Proofs.YtaekanhjkpoifaaGreatDoor
open Go.RowKit P
set_option linter.unusedVariables false
set_option maxRecDepth 100000

end Go.Proofs.YtaekanhjkpoifaaGreatDoor

/-
 Chapter 2, measSum, measFits, MeasAdd of the program: contracts. Own work.
-/
namespace Go.Proofs.YtaekanhjkpoifaaGreatDoor
open Go.RowKit P
set_option linter.unusedVariables false
set_option maxRecDepth 100000

def mFits (a b r : Int) : Bool := decide (0 ≤ a ∧ a ≤ 400) && decide (0 ≤ b ∧ b ≤ 400) && decide (0 ≤ r ∧ r ≤ 400)

end Go.Proofs.YtaekanhjkpoifaaGreatDoor

/-
 Chapter 2, ChunksOk of the program and of the model: contracts. Own work.
-/
namespace Go.Proofs.YtaekanhjkpoifaaGreatDoor
open Go.RowKit P
set_option linter.unusedVariables false
set_option maxRecDepth 100000

end Go.Proofs.YtaekanhjkpoifaaGreatDoor

/-
 Chapter 2, ChunksText of the program and of the model: contracts. Own work.
-/
namespace Go.Proofs.YtaekanhjkpoifaaGreatDoor
open Go.RowKit P
set_option linter.unusedVariables false
set_option maxRecDepth 100000

end Go.Proofs.YtaekanhjkpoifaaGreatDoor

/-
 The draws' cursor: lists of chunks, with faults, and the draw of FnChunkFor, of FnChunks: contracts. Own work.
 The draws' cursor: lists of chunks with faults, the draws of FnChunkFor and FnChunks: contracts. Own work.
 The draws of FnChunkFor and FnChunks: contracts. Own work.
-/
namespace Go.Proofs.YtaekanhjkpoifaaGreatDoor
open Go.RowKit P
set_option linter.unusedVariables false

/-- A slice of bytes that reads as l, and the block that it lies in. -/
def seenOw (w : World) (cs : List Value) (l : List UInt8) (fp : List Nat) : Prop := ∃ v, cs = [v] ∧ bRd w [v] l ∧ fp = v.ownBlock.toList ∧ ∀ k ∈ fp, k < w.heap.size

def Lay.seen : Lay (List UInt8) where
 sz := 1
 rd := bRd
 ow := seenOw
 len := by rintro w cs x ⟨A, c, rfl, _⟩; rfl
 one := by rintro w cs x ⟨A, c, rfl, _⟩ u hu; simp at hu; subst hu; rfl
 below := by rintro w w' cs x ⟨A, c, rfl, h1, h2, hB⟩ hb; exact ⟨A, c, rfl, h1, h2, hB.below hb⟩
 read := by rintro w cs x fp ⟨v, rfl, h, _⟩; exact h
 lt := by rintro w cs x fp ⟨v, rfl, _, _, h⟩; exact h
 kept := by
  rintro w w' cs x fp ⟨v, rfl, ⟨A, c, e, h1, h2, hB⟩, rfl, h4⟩ hk hs
  cases e
  refine ⟨_, rfl, ⟨A, c, rfl, h1, h2, hB.of_heap hs (fun b off hA _ => hk b (by rw [hA]; simp [Value.ownBlock]))⟩, rfl, fun k hkm => Nat.lt_of_lt_of_le (h4 k hkm) hs⟩

theorem Own.seen {w : World} {base : Nat} {v : Value} {l : List UInt8} (h : Own w base v l) : Lay.seen.ow w [v] l v.ownBlock.toList := by
 refine ⟨v, rfl, ?_, rfl, fun k hk => (h.range k hk).2⟩
 obtain ⟨A, c, rfl, h1, h2, h3⟩ := h.form
 exact ⟨A, c, rfl, h1, h2, h3⟩

theorem Lay.only {α : Type} (L : Lay α) {w w' : World} {g : Nat} {cs : List Value} {x : α} {fp : List Nat} (h : L.ow w cs x fp) (ho : Only g w w') (hg : ∀ k ∈ fp, g < k) : L.ow w' cs x fp :=
 L.kept h (fun k hk => ho.block k (L.lt h k hk) (fun e => by have := hg k hk; injection e with e; omega)) ho.size

end Go.Proofs.YtaekanhjkpoifaaGreatDoor

namespace Go.Proofs.YtaekanhjkpoifaaGreatDoor
open Go.RowKit P
set_option linter.unusedVariables false

end Go.Proofs.YtaekanhjkpoifaaGreatDoor

namespace Go.Proofs.YtaekanhjkpoifaaGreatDoor
open Go.RowKit P
set_option linter.unusedVariables false

/-- What a draw of chunks and an offset ends in. -/
def DrawsL (w : World) (e : Ending) (w' : World) : Prop :=
 ∃ A c L a, e = .returned (.tuple #[.slice A L.length c, .int .i64 a]) ∧ L.length ≤ c ∧ c ≤ maxLen ∧ Cs w' A L ∧ L.length ≤ 40 ∧ (∀ x ∈ L, x.length ≤ 401) ∧ -9223372036854775808 ≤ a ∧ a ≤ 9223372036854775807 ∧ Below w.heap.size w w'


end Go.Proofs.YtaekanhjkpoifaaGreatDoor

/-
 Chapter 2, ChunksOf of the model: contract. Own work.
-/
namespace Go.Proofs.YtaekanhjkpoifaaGreatDoor
open Go.RowKit P
set_option linter.unusedVariables false

end Go.Proofs.YtaekanhjkpoifaaGreatDoor

/-
 Chapter 4, the program's RopeOk, RopeText, RopeMeas, RopeOf: contracts. Own work.
 Chapter 4, the model's RopeOk, RopeText, RopeMeas: contracts. Own work.
 Chapter 4, the model's l04Cut, RopeLine: contracts. Own work.
 Chapter 4, the model's RopeLine: contract. Own work.
 Chapter 4, the program's cutsOk, RopeLine: contracts. Own work.
 Chapter 4, the program's RopeLine: contract. Own work.
 Chapter 4, the model's l04Stands: contract. Own work.
-/
namespace Go.Proofs.YtaekanhjkpoifaaGreatDoor
open Go.RowKit P
set_option linter.unusedVariables false
set_option maxRecDepth 100000


end Go.Proofs.YtaekanhjkpoifaaGreatDoor

namespace Go.Proofs.YtaekanhjkpoifaaGreatDoor
open Go.RowKit P
set_option linter.unusedVariables false
set_option maxRecDepth 100000

end Go.Proofs.YtaekanhjkpoifaaGreatDoor

namespace Go.Proofs.YtaekanhjkpoifaaGreatDoor
open Go.RowKit P
set_option linter.unusedVariables false
set_option maxRecDepth 100000

end Go.Proofs.YtaekanhjkpoifaaGreatDoor

namespace Go.Proofs.YtaekanhjkpoifaaGreatDoor
open Go.RowKit P
set_option linter.unusedVariables false
set_option maxRecDepth 100000

end Go.Proofs.YtaekanhjkpoifaaGreatDoor

namespace Go.Proofs.YtaekanhjkpoifaaGreatDoor
open Go.RowKit P
set_option linter.unusedVariables false
set_option maxRecDepth 100000

end Go.Proofs.YtaekanhjkpoifaaGreatDoor

namespace Go.Proofs.YtaekanhjkpoifaaGreatDoor
open Go.RowKit P
set_option linter.unusedVariables false
set_option maxRecDepth 100000

theorem Bs.head {w : World} {A : Option Addr} {l : List UInt8} (h : Bs w A l) (k : Nat) (hk : k ≤ l.length) : Bs w A (l.take k) := by
 intro j hj
 rw [List.length_take] at hj
 obtain ⟨b, off, hA, hlt, hc⟩ := h j (by omega)
 refine ⟨b, off, hA, hlt, ?_⟩
 rw [hc, List.getElem_take]

end Go.Proofs.YtaekanhjkpoifaaGreatDoor

namespace Go.Proofs.YtaekanhjkpoifaaGreatDoor
open Go.RowKit P
set_option linter.unusedVariables false
set_option maxRecDepth 100000

end Go.Proofs.YtaekanhjkpoifaaGreatDoor

/-
 The draws' cursor: ropes, places of a rope: contracts. Own work.
-/
namespace Go.Proofs.YtaekanhjkpoifaaGreatDoor
open Go.RowKit P
set_option linter.unusedVariables false

/-- Chunks that can be read, whatever becomes of what lies below base. -/
def Far (base : Nat) (w : World) (A : Option Addr) (L : List (List UInt8)) (c : Nat) : Prop :=
 L.length ≤ c ∧ c ≤ maxLen ∧ ∀ w' : World, (∀ k, base ≤ k → k < w.heap.size → w'.heap[k]? = w.heap[k]?) → w.heap.size ≤ w'.heap.size → Cs w' A L
theorem Far.keep {base : Nat} {w w' : World} {A : Option Addr} {L : List (List UInt8)} {c : Nat} (h : Far base w A L c) (hk : ∀ k, base ≤ k → k < w.heap.size → w'.heap[k]? = w.heap[k]?) (hs : w.heap.size ≤ w'.heap.size) : Far base w' A L c :=
 ⟨h.1, h.2.1, fun x hx hz => h.2.2 x (fun k h1 h2 => (hx k h1 (by omega)).trans (hk k h1 h2)) (by omega)⟩
theorem Far.only {base g : Nat} {w w' : World} {A : Option Addr} {L : List (List UInt8)} {c : Nat} (h : Far base w A L c) (hg : g < base) (ho : Only g w w') : Far base w' A L c := h.keep (fun k h1 h2 => ho.block k h2 (fun e => by injection e; omega)) ho.size
theorem Far.cs {base : Nat} {w : World} {A : Option Addr} {L : List (List UInt8)} {c : Nat} (h : Far base w A L c) : Cs w A L := h.2.2 w (fun _ _ _ => rfl) (Nat.le_refl _)
theorem Far.below {base : Nat} {w w' : World} {A : Option Addr} {L : List (List UInt8)} {c : Nat} (h : Far base w A L c) (hb : Below w.heap.size w w') : Far base w' A L c := h.keep (fun k _ h2 => hb.block k h2) hb.size
theorem Far.mono {base base' : Nat} {w : World} {A : Option Addr} {L : List (List UInt8)} {c : Nat} (h : Far base w A L c) (hb : base' ≤ base) : Far base' w A L c := ⟨h.1, h.2.1, fun x hx hz => h.2.2 x (fun k h1 h2 => hx k (by omega) h2) hz⟩
theorem Blk.only {g b : Nat} {w w' : World} {cs : Array Value} {t : TypeId} (h : Blk w b cs t) (ho : Only g w w') (hb : b ≠ g) : Blk w' b cs t := h.of_block (ho.block b h.lt (fun e => hb (by injection e)))

theorem Lay.set {α : Type} (L : Lay α) {w : World} {cs : List Value} {x : α} {fp : List Nat} (h : L.ow w cs x fp) {b : Nat} (hb : b ∉ fp) (i : Nat) (u : Value) : L.ow (w.setCell ⟨b, i, none⟩ u) cs x fp :=
 L.kept h (fun k hk => Below.heap_setCell _ _ _ _ (fun e => hb (by simp at e; exact e ▸ hk))) (by simp [World.setCell])
theorem OwnN.only {w w' : World} {g base : Nat} {v : Value} {l : List Nat} (h : OwnN w base v l) (ho : Only g w w') (hb : g < base) : OwnN w' base v l := by
 refine World.ownsRow.kept (w' := w') (row := some g) h ho ?_
 cases hv : v.ownBlock with
 | none => exact .inl rfl
 | some k => exact .inr (fun e => by injection e with e; have := (World.ownsRow.lt h k hv).1; omega)

end Go.Proofs.YtaekanhjkpoifaaGreatDoor

/-
 Chapter 5's draws: an edit of a text. Own work.
 Chapter 5's draws: an edit of a text, mostly one that fits. Own work.
 The draw of EditBack; sameEdit, bytesOf: contracts. Own work.
-/
namespace Go.Proofs.YtaekanhjkpoifaaGreatDoor
open Go.RowKit P
set_option linter.unusedVariables false
set_option linter.unusedSimpArgs false
set_option maxRecDepth 100000

/-- A block's cells are what they are, the cursor's block apart. -/
theorem EBox.only {g b : Nat} {w w' : World} {a m : Int} {A : Option Addr} {n c : Nat} (h : EBox w b a m A n c) (ho : Only g w w') (hb : b ≠ g) : EBox w' b a m A n c := ⟨h.blk.only ho hb⟩
theorem EBox.f (i : Nat) {w : World} {b : Nat} {a m : Int} {A : Option Addr} {n c : Nat} (h : EBox w b a m A n c) : w.frozen? ⟨b, i, none⟩ = false := h.blk.frozen i
end Go.Proofs.YtaekanhjkpoifaaGreatDoor

namespace Go.Proofs.YtaekanhjkpoifaaGreatDoor
open Go.RowKit P
set_option linter.unusedVariables false
set_option linter.unusedSimpArgs false
set_option maxRecDepth 100000

end Go.Proofs.YtaekanhjkpoifaaGreatDoor

namespace Go.Proofs.YtaekanhjkpoifaaGreatDoor
open Go.RowKit P
set_option linter.unusedVariables false
set_option linter.unusedSimpArgs false
set_option maxRecDepth 100000

/-- What a draw of a text and an edit ends in. -/
def DrawsTE (w : World) (e : Ending) (w' : World) : Prop :=
 ∃ A l c a m B p d, e = .returned (.tuple #[.slice A l.length c, .agg #[.int .i64 a, .int .i64 m, .slice B p.length d]]) ∧ l.length ≤ 401 ∧ l.length ≤ c ∧ c ≤ 9223372036854775807 ∧ Pl A c ∧ Bs w' A l ∧
  (-9223372036854775808 ≤ a ∧ a ≤ 9223372036854775807) ∧ (-9223372036854775808 ≤ m ∧ m ≤ 9223372036854775807) ∧ p.length ≤ 500 ∧ p.length ≤ d ∧ d ≤ 9223372036854775807 ∧ Pl B d ∧ Bs w' B p ∧ Below w.heap.size w w'

end Go.Proofs.YtaekanhjkpoifaaGreatDoor

/-
 Lists of edits in memory: reading, owning, drawn. Own work.
-/
namespace Go.Proofs.YtaekanhjkpoifaaGreatDoor
open Go.RowKit P
set_option linter.unusedVariables false
set_option linter.unusedSimpArgs false
set_option maxRecDepth 100000

/-- The slice of edits that starts at A. -/
def Es (w : World) (A : Option Addr) (es : List Ed) : Prop := Sl 3 Lay.edit.rd w A es
theorem Es.below {w w' : World} {A : Option Addr} {es : List Ed} (h : Es w A es) (hb : Below w.heap.size w w') : Es w' A es := Sl.below (E := Lay.edit) h hb
theorem Es.at_ {w : World} {A : Option Addr} {es : List Ed} (h : Es w A es) (k : Nat) (hk : k < es.length) :
  ∃ b off a m B p d, A = some ⟨b, off, none⟩ ∧ b < w.heap.size ∧ es[k] = (a, m, p) ∧ w.cell? ⟨b, off + k * 3, none⟩ = some (.int .i64 a) ∧ w.cell? ⟨b, off + k * 3 + 1, none⟩ = some (.int .i64 m) ∧ w.cell? ⟨b, off + k * 3 + 2, none⟩ = some (.slice B p.length d) ∧
   (-9223372036854775808 ≤ a ∧ a ≤ 9223372036854775807) ∧ (-9223372036854775808 ≤ m ∧ m ≤ 9223372036854775807) ∧ p.length ≤ d ∧ d ≤ maxLen ∧ Bs w B p := by
 obtain ⟨b, off, us, hA, hlt, hus, hc, hr⟩ := h k hk
 obtain ⟨⟨a, m, p⟩, he⟩ : ∃ e, es[k] = e := ⟨_, rfl⟩
 rw [he] at hr
 obtain ⟨c1, c2, rfl, ⟨rfl, ha⟩, c3, c4, rfl, ⟨rfl, hm⟩, B, d, rfl, h1, h2, hB⟩ := hr
 refine ⟨b, off, a, m, B, p, d, hA, hlt, he, ?_, ?_, ?_, ha, hm, h1, h2, hB⟩
 ·have := hc 0 (by simp); simpa using this
 ·have := hc 1 (by simp); simpa [Nat.add_assoc] using this
 ·have := hc 2 (by simp); simpa [Nat.add_assoc] using this

theorem Tryz.infoEd : (Tryz.prog.info? 71).map (fun i => (i.zero, i.size, i.bytes)) = some (some (.agg #[.int .i64 0, .int .i64 0, .slice none 0 0]), 3, 40) := by kernel_rfl

def Lay.edits : Lay (List Ed) := Lay.slice 71 Lay.edit

/-- An edit of the call's own. -/
theorem own_edit {w : World} {base : Nat} {v : Value} {p : List UInt8} {a m : Int} (ha : -9223372036854775808 ≤ a ∧ a ≤ 9223372036854775807) (hm : -9223372036854775808 ≤ m ∧ m ≤ 9223372036854775807) (h : Own w base v p) :
  Lay.edit.ow w [.int .i64 a, .int .i64 m, v] (a, m, p) v.ownBlock.toList :=
 ⟨[.int .i64 a], [.int .i64 m, v], [], v.ownBlock.toList, rfl, ⟨rfl, ha, rfl⟩, ⟨[.int .i64 m], [v], [], v.ownBlock.toList, rfl, ⟨rfl, hm, rfl⟩, h.ow, rfl⟩, rfl⟩

theorem cell_new3 {w : World} {t : TypeId} {x y z : Value} : ∀ j u, ([x, y, z] : List Value)[j]? = some u → (w.alloc (.cells #[x, y, z] t)).cell? ((⟨w.heap.size, 0, none⟩ : Addr).add j) = some u := by
 intro j u hu
 rw [add_plain, Nat.zero_add]
 have h := (Blk.new w #[x, y, z] t).cell j
 rw [h]
 match j, hu with
 | 0, hu => simpa using hu
 | 1, hu => simpa using hu
 | 2, hu => simpa using hu
end Go.Proofs.YtaekanhjkpoifaaGreatDoor

/-
 Chapter 7, the laws' marks on leases: contracts. Own work.
-/
namespace Go.Proofs.YtaekanhjkpoifaaGreatDoor
open Go.RowKit P
set_option linter.unusedVariables false
set_option linter.unusedSimpArgs false
set_option maxRecDepth 100000

theorem szLeaseS_b (A : Option Addr) (es : List Le) (c : Nat) (left : Int) (w : World) (hn : es.length ≤ 9223372036854775807) (h0 : 0 ≤ left) (h1 : left ≤ 1048576) (hE : Ll w A es) :
  Calls Tryz.prog 26 #[.slice A es.length c, .int .i64 left] w fun e w' => (∃ r : Int, e = .returned (.int .i64 r) ∧ (r < 0 ∨ (0 ≤ r ∧ r + es.length = left))) ∧ Below w.heap.size w w' :=
 (szLeaseS_any A es.length c left w hn h0 h1).mono fun e w' ⟨h, e2⟩ => ⟨h, by rw [e2]; exact Below.refl _ _⟩

/-- The leases es in the cells of block g. -/
def RowL (w : World) (g : Nat) (es : List Le) : Prop := ∃ cur, Blk w g cur 106 ∧ es.length * 4 ≤ cur.size ∧ ∀ i (h : i < es.length),
 cur[i * 4]? = some (.int .i64 es[i].1) ∧ cur[i * 4 + 1]? = some (.int .i64 es[i].2.1) ∧ cur[i * 4 + 2]? = some (.int .i64 es[i].2.2.1) ∧ cur[i * 4 + 3]? = some (.int .i64 es[i].2.2.2)

theorem RowL.below {w w' : World} {g : Nat} {es : List Le} (h : RowL w g es) (hb : Below w.heap.size w w') : RowL w' g es := by
 obtain ⟨cur, hc, r⟩ := h
 exact ⟨cur, hc.below hb, r⟩
theorem RowL.cells {w : World} {g : Nat} {es : List Le} (h : RowL w g es) (i : Nat) (hi : i < es.length) :
  w.cell? ⟨g, i * 4, none⟩ = some (.int .i64 es[i].1) ∧ w.cell? ⟨g, i * 4 + 1, none⟩ = some (.int .i64 es[i].2.1) ∧ w.cell? ⟨g, i * 4 + 2, none⟩ = some (.int .i64 es[i].2.2.1) ∧ w.cell? ⟨g, i * 4 + 3, none⟩ = some (.int .i64 es[i].2.2.2) := by
 obtain ⟨cur, hc, hs, hv⟩ := h
 obtain ⟨h0, h1, h2, h3⟩ := hv i hi
 exact ⟨(hc.cell _).trans h0, (hc.cell _).trans h1, (hc.cell _).trans h2, (hc.cell _).trans h3⟩
theorem RowL.lt {w : World} {g : Nat} {es : List Le} (h : RowL w g es) : g < w.heap.size := by
 obtain ⟨cur, hc, _⟩ := h
 exact hc.lt
theorem RowL.frozen {w : World} {g : Nat} {es : List Le} (h : RowL w g es) (i : Nat) : w.frozen? ⟨g, i, none⟩ = false := by
 obtain ⟨cur, hc, _⟩ := h
 exact hc.frozen i
theorem RowL.ll {w : World} {g : Nat} {es : List Le} (h : RowL w g es) (hin : ∀ l ∈ es, leIn l) : Ll w (some ⟨g, 0, none⟩) es := by
 intro k hk
 obtain ⟨h0, h1, h2, h3⟩ := h.cells k hk
 have hm := hin _ (List.getElem_mem hk)
 refine ⟨g, 0, (leC es[k]).toList, rfl, h.lt, rfl, fun j hj => ?_, ?_⟩
 ·have hj4 : j < 4 := hj
  rw [Nat.zero_add]
  match j, hj4 with
  | 0, _ => exact h0
  | 1, _ => exact h1
  | 2, _ => exact h2
  | 3, _ => exact h3
 ·exact Lay.lease.read (own_lease w hm)
theorem RowL.set4 {w : World} {g : Nat} {es : List Le} (h : RowL w g es) (i : Nat) (hi : i < es.length) (a b c d : Int) :
  RowL ((((w.setCell ⟨g, i * 4, none⟩ (.int .i64 a)).setCell ⟨g, i * 4 + 1, none⟩ (.int .i64 b)).setCell ⟨g, i * 4 + 2, none⟩ (.int .i64 c)).setCell ⟨g, i * 4 + 3, none⟩ (.int .i64 d)) g (es.set i (a, b, c, d)) := by
 obtain ⟨cur, hc, hs, hv⟩ := h
 refine ⟨_, (((hc.set (i * 4) (.int .i64 a)).set (i * 4 + 1) (.int .i64 b)).set (i * 4 + 2) (.int .i64 c)).set (i * 4 + 3) (.int .i64 d), by simpa using hs, fun j hj => ?_⟩
 rw [List.length_set] at hj
 simp only [Array.getElem?_setIfInBounds, Array.size_setIfInBounds]
 by_cases e : j = i
 ·subst e
  have hl : j * 4 + 3 < cur.size := by omega
  simp [show ¬ j * 4 + 3 = j * 4 by omega, hl, show j * 4 < cur.size by omega, show j * 4 + 1 < cur.size by omega, show j * 4 + 2 < cur.size by omega]
 ·rw [List.getElem_set_ne (fun h => e h.symm)]
  have h9 := hv j hj
  refine ⟨?_, ?_, ?_, ?_⟩
  ·rw [if_neg (by omega), if_neg (by omega), if_neg (by omega), if_neg (by omega)]; exact h9.1
  ·rw [if_neg (by omega), if_neg (by omega), if_neg (by omega), if_neg (by omega)]; exact h9.2.1
  ·rw [if_neg (by omega), if_neg (by omega), if_neg (by omega), if_neg (by omega)]; exact h9.2.2.1
  ·rw [if_neg (by omega), if_neg (by omega), if_neg (by omega), if_neg (by omega)]; exact h9.2.2.2

/-- A list of leases of the call's own lies in one block. -/
theorem rowL_of {w : World} {base : Nat} {A : Option Addr} {es : List Le} {c : Nat} {fp : List Nat} (h : OwL w base A es c fp) : es = [] ∨ ∃ g, A = some ⟨g, 0, none⟩ ∧ fp = [g] ∧ RowL w g es ∧ ∀ l ∈ es, leIn l := by
 obtain ⟨els, hl, hrow, hes, hfp⟩ := ow_one h.ow
 rcases hrow.2 with ⟨hv, h0⟩ | ⟨g, cap, cur, hv, _, hh, hnc, hcm, hcs, htk⟩
 ·left
  rw [hl, List.eq_nil_of_length_eq_zero h0]; rfl
 right
 simp only [Value.slice.injEq] at hv
 obtain ⟨rfl, hn, rfl⟩ := hv
 have hlen : ∀ e ∈ els, (e.1 : List Value).length = 4 := fun e he => by rw [(ow_lease (hes e he)).1]; rfl
 have hf0 : els.flatMap (·.2.2) = [] := by
  rw [List.flatMap_eq_nil_iff]
  exact fun e he => (ow_lease (hes e he)).2.2
 have hsz : Lay.lease.sz = 4 := rfl
 rw [hsz] at hcs htk
 refine ⟨g, rfl, by rw [hfp, hf0]; simp [Value.ownBlock], ⟨cur, hh, by rw [hn]; omega, fun i hi => ?_⟩, fun l hm => ?_⟩
 ·have hi2 : i < els.length := by rw [← hn]; exact hi
  have hei : es[i] = els[i].2.1 := by simp [hl]
  have hc1 := (ow_lease (hes _ (List.getElem_mem hi2))).1
  have hgt : ∀ j (hj : j < 4), cur[i * 4 + j]? = some ((leC es[i])[j]'hj) := by
   intro j hj
   have h9 := flat_get 4 els (·.1) hlen i hi2 j (by simp only [hc1]; exact hj)
   rw [← htk, List.getElem?_take] at h9
   split at h9
   ·simp only [Array.getElem?_toList] at h9
    rw [h9]
    congr 1
    simp only [hc1, hei]
    rfl
   ·omega
  exact ⟨hgt 0 (by decide), hgt 1 (by decide), hgt 2 (by decide), hgt 3 (by decide)⟩
 ·rw [hl] at hm
  obtain ⟨e, he, rfl⟩ := List.mem_map.1 hm
  exact (ow_lease (hes e he)).2.1

/-- What a mark leaves. -/
def mk4 (k i : Nat) : Le := (((k + 4 * i : Nat) : Int), ((k + 4 * i + 1 : Nat) : Int), ((k + 4 * i + 2 : Nat) : Int), ((k + 4 * i + 3 : Nat) : Int))
def marksL (k n : Nat) : List Le := (List.range n).map (mk4 k)
theorem marksL_length (k n : Nat) : (marksL k n).length = n := by unfold marksL; simp
theorem marksL_get (k n i : Nat) (h : i < n) : (marksL k n)[i]'(by rw [marksL_length]; exact h) = mk4 k i := by unfold marksL; simp
theorem marksL_step (k : Nat) (es : List Le) (j : Nat) (hj : j < es.length) : (marksL k j ++ es.drop j).set j (mk4 k j) = marksL k (j + 1) ++ es.drop (j + 1) := by
 rw [List.drop_eq_getElem_cons hj, List.set_append_right _ _ (by rw [marksL_length]; omega), marksL_length, Nat.sub_self, List.set_cons_zero]
 unfold marksL
 rw [List.range_succ, List.map_append]
 simp

set_option maxHeartbeats 4000000 in
theorem heldLeaseS_any (A : Option Addr) (n c k : Nat) (w : World) (hk : k ≤ 2200000) (hn : n ≤ 1100000) (h : Ll w A (marksL k n)) :
  Calls Tryz.prog 56 #[.slice A n c, .int .i64 (k : Int)] w fun e w' => e = .returned (.int .i64 ((k + 4 * n : Nat) : Int)) ∧ w' = w := by
 go_enter Tryz.func56, Tryz.ntmps56
 go_wp2
 go_loopw [1, 5] (fun kk i wr => ∃ j : Nat, j ≤ n ∧ i = .int .i64 j ∧ kk = .int .i64 ((k + 4 * j : Nat) : Int) ∧ wr = w) (fun _ i _ => n - (intOf i).toNat)
 case atStart => exact ⟨0, Nat.zero_le _, rfl, rfl, rfl⟩
 case round =>
  obtain ⟨j, hj, rfl, rfl, rfl⟩ := hrel
  by_cases hlt : j < n
  ·obtain ⟨b, off, x, y, s, t, rfl, hbl, hek, k0, k1, k2, k3, hin⟩ := h.at_ j (by rw [marksL_length]; exact hlt)
   rw [marksL_get k n j hlt] at hek
   unfold mk4 at hek
   simp only [Prod.mk.injEq] at hek
   obtain ⟨rfl, rfl, rfl, rfl⟩ := hek
   clear hin
   go_wp2
   go_roundw
   case rel => exact ⟨j + 1, by omega, by go_num, by go_num, trivial⟩
   case measure => simp [intOf]; omega
  ·have e : j = n := by omega
   subst e
   go_wp2
   go_ret
   exact ⟨rfl, rfl⟩
end Go.Proofs.YtaekanhjkpoifaaGreatDoor

/-
 What all laws of this seat share: the arguments opened, the table, a world for the witness. Own work.
-/
namespace Go.Proofs.YtaekanhjkpoifaaGreatDoor
open Go.ChangeShapes Go.WideShapes Go.ChangeAt Go.RowKit P
set_option linter.unusedVariables false

theorem gTab : Tryz.prog.globalNamed "loop.example/g00677/impl.leadMarks" = some 0 := by kernel_rfl
theorem gTabType : (Tryz.prog.globals[0]?).map (·.type) = some 188 := by kernel_rfl
theorem cellsArr : Tryz.prog.cellsOf 188 = 5 := by kernel_rfl
theorem cellsU8 : Tryz.prog.cellsOf 5 = 1 := by kernel_rfl

theorem tab_of {W : World} (h : laidMetH Tryz.prog [("loop.example/g00677/impl.leadMarks", Rows.laid_loop_example_g00677_impl_leadMarks)] W) : Tab W := by
 have t : Lib.TabIs Tryz.prog W "loop.example/g00677/impl.leadMarks" .u8 [0, 0, 192, 224, 240] := Lib.tabIs_of_head (rest := []) gTab gTabType Tryz.underlying188 Tryz.underlying5 cellsU8 cellsArr h
 have c0 := t.cell gTab 0 (by decide)
 exact ⟨World.block_lt_of_cell? W _ c0, c0, t.cell gTab 1 (by decide), t.cell gTab 2 (by decide), t.cell gTab 3 (by decide), t.cell gTab 4 (by decide)⟩

/-- A world for the witness: the settled one, the table holding what its initialiser lays. -/
noncomputable def laidWorld (os : Os) : World :=
 { World.holding Tryz.prog os ⟨#[], #[], []⟩ with heap := (World.holding Tryz.prog os ⟨#[], #[], []⟩).heap.modify 0 fun
   | .cells _ t frozen => .cells #[.int .u8 0, .int .u8 0, .int .u8 192, .int .u8 224, .int .u8 240] t frozen
   | o => o }

end Go.Proofs.YtaekanhjkpoifaaGreatDoor

/-
 Chapter 7: lists of leases of the call's own: append, clone, cut, clear. Own work.
-/
namespace Go.Proofs.YtaekanhjkpoifaaGreatDoor
open Go.RowKit P
set_option linter.unusedVariables false
set_option linter.unusedSimpArgs false
set_option maxRecDepth 100000

def leCl (l : Le) : List Value := (leC l).toList
theorem leCl_length (l : Le) : (leCl l).length = 4 := rfl
theorem leCl_flat (es : List Le) : (es.flatMap leCl).length = es.length * 4 := flat_len 4 es leCl (fun e _ => rfl)
theorem leCl_get (es : List Le) (k : Nat) (hk : k < es.length) (j : Nat) (hj : j < 4) : (es.flatMap leCl)[k * 4 + j]? = (leCl es[k])[j]? := by
 have h := flat_get 4 es leCl (fun e _ => rfl) k hk j (by rw [leCl_length]; exact hj)
 rw [h, List.getElem?_eq_getElem]
theorem leCl_one (es : List Le) : ∀ u ∈ es.flatMap leCl, u.oneCell' = true := by
 intro u hu
 obtain ⟨l, _, hu⟩ := List.mem_flatMap.1 hu
 unfold leCl leC at hu
 simp at hu
 rcases hu with rfl | rfl | rfl | rfl <;> rfl

/-- A slice of the call's own (from block base on, or nil) that holds the leases es. -/
structure OwR (w : World) (base : Nat) (v : Value) (es : List Le) : Prop where
 row : w.ownsRow base 106 4 v es.length (es.flatMap leCl)
 in_ : ∀ l ∈ es, leIn l
theorem OwR.below {w w' : World} {base : Nat} {v : Value} {es : List Le} (h : OwR w base v es) (hb : Below w.heap.size w w') : OwR w' base v es :=
 ⟨World.ownsRow.kept (w' := w') (row := none) h.row ⟨hb.os, hb.tape, hb.output, hb.size, fun k hk _ => hb.block k hk⟩ (by cases hv : v.ownBlock <;> simp), h.in_⟩
theorem OwR.mono {w : World} {base base' : Nat} {v : Value} {es : List Le} (h : OwR w base v es) (hb : base' ≤ base) : OwR w base' v es := by
 refine ⟨⟨h.row.1, ?_⟩, h.in_⟩
 rcases h.row.2 with h2 | ⟨g, cap, cur, hv, hg, r⟩
 ·exact .inl h2
 ·exact .inr ⟨g, cap, cur, hv, by omega, r⟩
theorem OwR.nil (w : World) (base : Nat) : OwR w base (.slice none 0 0) [] := ⟨World.ownsRow_nil w base _ _, by simp⟩
theorem OwR.empty (w : World) : OwR (w.alloc (.cells #[] 106)) w.heap.size (.slice (some ⟨w.heap.size, 0, none⟩) 0 0) [] :=
 ⟨World.ownsRow_made w #[] 0 (Nat.le_refl _) (by unfold maxLen; omega) rfl, by simp⟩
theorem OwR.owL {w : World} {base : Nat} {v : Value} {es : List Le} (h : OwR w base v es) : ∃ A c, v = .slice A es.length c ∧ OwL w base A es c v.ownBlock.toList := by
 have h0 := h.mono (Nat.zero_le base)
 have how : Lay.leases.ow w [v] es v.ownBlock.toList := by
  refine ⟨v, es.map (fun l => (leCl l, l, [])), rfl, by rw [List.map_map]; exact (List.map_id es).symm, ?_, ?_, ?_⟩
  ·rw [List.length_map, List.flatMap_map]; exact h0.row
  ·intro e he
   obtain ⟨l, hl, rfl⟩ := List.mem_map.1 he
   exact own_lease w (h.in_ l hl)
  ·rw [List.flatMap_map]
   have : es.flatMap (fun _ => ([] : List Nat)) = [] := by simp
   rw [this, List.append_nil]
 obtain ⟨A, c, e, _, _, _⟩ := Lay.leases.read how
 simp only [List.cons.injEq, and_true] at e
 subst e
 exact ⟨A, c, rfl, how, by cases (Value.slice A es.length c).ownBlock <;> simp, fun k hk => (World.ownsRow.lt h.row k (by simpa using hk)).1⟩
theorem OwR.gives {w w' : World} {v : Value} {es : List Le} (h : OwR w' w.heap.size v es) (hb : Below w.heap.size w w') : Gives Lay.leases wSlice es w (.returned v) w' := by
 obtain ⟨A, c, rfl, hw⟩ := h.owL
 exact ⟨[.slice A es.length c], _, rfl, hw.ow, hw.nd, hw.lo, hb⟩
theorem OwR.ll {w : World} {base : Nat} {v : Value} {es : List Le} (h : OwR w base v es) : ∃ A c, v = .slice A es.length c ∧ es.length ≤ c ∧ c ≤ maxLen ∧ Ll w A es := by
 obtain ⟨A, c, rfl, hw⟩ := h.owL
 exact ⟨A, c, rfl, hw.cap.1, hw.cap.2, hw.ll⟩

theorem Ll.in_ {w : World} {A : Option Addr} {es : List Le} (h : Ll w A es) : ∀ l ∈ es, leIn l := by
 intro l hl
 obtain ⟨k, hk, rfl⟩ := List.getElem_of_mem hl
 obtain ⟨b, off, i, j, s, t, _, _, he, _, _, _, _, hin⟩ := h.at_ k hk
 rw [he]
 exact hin
theorem Ll.cells {w : World} {b off : Nat} {es : List Le} (h : Ll w (some ⟨b, off, none⟩) es) : ∀ j u, (es.flatMap leCl)[j]? = some u → w.cell? ((⟨b, off, none⟩ : Addr).add j) = some u := by
 intro j u hu
 have hj : j < es.length * 4 := by
  have := (List.getElem?_eq_some_iff.1 hu).1
  rw [leCl_flat] at this
  exact this
 obtain ⟨b', off', x, y, s, t, e, _, he, k0, k1, k2, k3, _⟩ := h.at_ (j / 4) (by omega)
 cases e
 have hg := leCl_get es (j / 4) (by omega) (j % 4) (by omega)
 rw [show j / 4 * 4 + j % 4 = j by omega, hu, he] at hg
 rw [add_plain]
 have h4 : j % 4 = 0 ∨ j % 4 = 1 ∨ j % 4 = 2 ∨ j % 4 = 3 := by omega
 rcases h4 with h4 | h4 | h4 | h4
 ·rw [h4] at hg; rw [show off + j = off + j / 4 * 4 by omega, k0]; exact hg.symm
 ·rw [h4] at hg; rw [show off + j = off + j / 4 * 4 + 1 by omega, k1]; exact hg.symm
 ·rw [h4] at hg; rw [show off + j = off + j / 4 * 4 + 2 by omega, k2]; exact hg.symm
 ·rw [h4] at hg; rw [show off + j = off + j / 4 * 4 + 3 by omega, k3]; exact hg.symm

theorem run_app_le {w : World} {base : Nat} {v : Value} {es r : List Le} {A : Option Addr} (c n : Nat) (ty : TypeId) (hn : n = r.length) (hown : OwR w base v es) (hr : Ll w A r)
  (hlen : es.length + r.length ≤ 1000000) (hbase : base ≤ w.heap.size) :
  ∃ v' w', (Builtin.append_ #[34, 34] ty #[v, .slice A n c]).run Tryz.prog w = .ok v' w' ∧ OwR w' base v' (es ++ r) ∧ w.grownBy w' v.ownBlock ∧
   (v'.ownBlock = v.ownBlock ∨ v'.ownBlock = some w.heap.size) := by
 subst hn
 obtain ⟨i, hi, hz, hs, hb⟩ := info_parts Tryz.infoLe
 have hin : ∀ l ∈ es ++ r, leIn l := fun l hl => (List.mem_append.1 hl).elim (hown.in_ l) (hr.in_ l)
 cases A with
 | none =>
  have h0 : r = [] := by
   cases r with
   | nil => rfl
   | cons x t => obtain ⟨b, off, _, e, _⟩ := hr 0 (by simp); cases e
  subst h0
  refine ⟨v, w, ?_, by simpa using hown, World.grownBy.refl w _, .inl rfl⟩
  rcases hown.row.2 with ⟨rfl, h1⟩ | ⟨g, cap, cur, rfl, _, _, hnc, _⟩
  ·simp [Builtin.append_, run_underlying Tryz.underlying34, sizeOf, typeInfo, hi, Builtin.lenOf, Builtin.firstCells]
  ·simp [Builtin.append_, run_underlying Tryz.underlying34, sizeOf, typeInfo, hi, Builtin.lenOf, Builtin.firstCells, hnc, storeCells]
 | some a =>
  have hcells : ∀ j u, (r.flatMap leCl)[j]? = some u → w.cell? (a.add j) = some u := by
   intro j u hu
   have hr0 : 0 < r.length := by
    rcases Nat.eq_zero_or_pos r.length with h | h
    ·rw [List.eq_nil_of_length_eq_zero h] at hu; cases hu
    ·exact h
   obtain ⟨b, off, _, _, _, _, e, _⟩ := hr.at_ 0 hr0
   cases e
   exact hr.cells j u hu
  obtain ⟨v', w', hrun, h2, h3, _, h5⟩ := run_append_own_at (P := Tryz.prog) w base 34 ty 106 i _ 4 32 Tryz.underlying34 hi hz hs hb rfl (by omega) v es.length (es.flatMap leCl) hown.row a r.length c (r.flatMap leCl)
   (leCl_flat r) hcells (leCl_one r) (by unfold maxLen; omega) (by omega) hbase
  refine ⟨v', w', hrun, ⟨?_, hin⟩, h3, h5⟩
  rw [List.length_append, List.flatMap_append]
  exact h2

theorem wpList_app_le {ops : Array Oper} {rest : List Oper} {o : Oper} {a : Act} {w : World} {Q : Exit → Act → World → Prop} (hgd : Region.wanted o (yielded ops a.tmps) = true) (s x : Operand)
  (ho : o.op = .call { callee := .builtin .append, args := #[s, x], argTypes := #[34, 34] })
  (base : Nat) (v : Value) (es r : List Le) (A : Option Addr) (n c : Nat) (hs : a.eval s = v) (hx : a.eval x = .slice A n c) (hn : n = r.length) (hown : OwR w base v es) (hr : Ll w A r)
  (hlen : es.length + r.length ≤ 1000000) (hbase : base ≤ w.heap.size)
  (h : ∀ v' w', OwR w' base v' (es ++ r) → w.grownBy w' v.ownBlock → (v'.ownBlock = v.ownBlock ∨ v'.ownBlock = some w.heap.size) → wpList Tryz.prog ops Q rest (a.put o.dst v') w') : wpList Tryz.prog ops Q (o :: rest) a w := by
 refine BigFrame.wpList_want hgd fun K hK => ?_
 obtain ⟨v', w', hrun, h2, h3, h4⟩ := run_app_le c n o.type hn hown hr hlen hbase
 unfold Oper.wp execOp
 simp only [ho, resolve, invoke, builtin, Sem.run_bind, Sem.run_pure, Result.andThen_ok, List.map_toArray, List.map_cons, List.map_nil, hs, hx, hrun]
 exact hK _ _ (h v' w' h2 h3 h4)

theorem step_app_le {w : World} {ops : Array Oper} {o : Oper} {a : Act} {K : Act → World → Prop} {Q : Exit → Act → World → Prop} {X : Prop} (hgd : o.guard = none) (s x : Operand)
  (ho : o.op = .call { callee := .builtin .append, args := #[s, x], argTypes := #[34, 34] })
  (base : Nat) (v : Value) (es r : List Le) (A : Option Addr) (n c : Nat) (hs : a.eval s = v) (hx : a.eval x = .slice A n c) (hn : n = r.length) (hown : OwR w base v es) (hr : Ll w A r)
  (hlen : es.length + r.length ≤ 1000000) (hbase : base ≤ w.heap.size)
  (h : ∀ v' w', OwR w' base v' (es ++ r) → w.grownBy w' v.ownBlock → (v'.ownBlock = v.ownBlock ∨ v'.ownBlock = some w.heap.size) → K (a.put o.dst v') w') :
  if Region.wanted o (yielded ops a.tmps) = true then Oper.wp Tryz.prog o a w K Q else X := by
 obtain ⟨v', w', hrun, h2, h3, h4⟩ := run_app_le c n o.type hn hown hr hlen hbase
 have hw : Region.wanted o (yielded ops a.tmps) = true := by simp [Region.wanted, hgd]
 rw [if_pos hw]
 unfold Oper.wp execOp
 simp only [ho, resolve, invoke, builtin, Sem.run_bind, Sem.run_pure, Result.andThen_ok, List.map_toArray, List.map_cons, List.map_nil, hs, hx, hrun]
 exact h v' w' h2 h3 h4

end Go.Proofs.YtaekanhjkpoifaaGreatDoor

/-
 Chapter 6, selections that are valid: contracts of the model and of the program. Own work.
-/
namespace Go.Proofs.YtaekanhjkpoifaaGreatDoor
namespace P
def selOk (t : List UInt8) (f g : Int) : Bool := cutOk t f && cutOk t g
end P
open Go.RowKit P
set_option linter.unusedVariables false
set_option linter.unusedSimpArgs false
set_option maxRecDepth 100000

set_option maxHeartbeats 2000000 in
theorem specSelOk_any (A : Option Addr) (l : List UInt8) (c : Nat) (f g : Int) (w : World) (hl : l.length ≤ c) (hc9 : c ≤ 9223372036854775807) (hA : Bs w A l) :
  Calls Tryz.prog 82 #[.slice A l.length c, .agg #[.int .i64 f, .int .i64 g]] w fun e w' => e = .returned (.bool (selOk l f g)) ∧ Below w.heap.size w w' := by
 have hal := (Below.refl w.heap.size w).alloc (Nat.le_refl _) (.cells #[.int .i64 f, .int .i64 g] 46)
 have bS := Blk.new w #[.int .i64 f, .int .i64 g] 46
 obtain ⟨q1, h1⟩ : ∃ q, cutOk l f = q := ⟨_, rfl⟩
 obtain ⟨q2, h2⟩ : ∃ q, cutOk l g = q := ⟨_, rfl⟩
 rw [show selOk l f g = (q1 && q2) by rw [← h1, ← h2]; rfl]
 have H1 := Lib.hid h1
 have H2 := Lib.hid h2
 clear h1 h2
 go_enter Tryz.func82, Tryz.ntmps82
 go_wp2_with fail
 generalize w.alloc (.cells #[.int .i64 f, .int .i64 g] 46) = W1 at *
 refine (specCutOk_any A l c f _ hl hc9 (by exact hA.below hal)).mono ?_
 rintro e w2 ⟨rfl, hb⟩
 rw [H1.out]
 have bS := bS.below hb
 have hal := below_then hal hb
 clear hb
 cases q1
 ·go_wp2
  go_ret
  exact ⟨rfl, hal⟩
 have s0 := bS.cell 0
 have s1 := bS.cell 1
 go_wp2_with fail
 refine (specCutOk_any A l c g _ hl hc9 (by exact hA.below hal)).mono ?_
 rintro e w3 ⟨rfl, hb⟩
 rw [H2.out]
 have hal := below_then hal hb
 go_wp2
 go_ret
 exact ⟨rfl, hal⟩

set_option maxHeartbeats 2000000 in
theorem implSelOk_any (A : Option Addr) (l : List UInt8) (c : Nat) (f g : Int) (w : World) (hl : l.length ≤ c) (hc9 : c ≤ 9223372036854775807) (hT : Tab w) (hA : Bs w A l) :
  Calls Tryz.prog 103 #[.slice A l.length c, .agg #[.int .i64 f, .int .i64 g]] w fun e w' => e = .returned (.bool (selOk l f g)) ∧ Below w.heap.size w w' := by
 have hal := (Below.refl w.heap.size w).alloc (Nat.le_refl _) (.cells #[.int .i64 f, .int .i64 g] 46)
 have bS := Blk.new w #[.int .i64 f, .int .i64 g] 46
 obtain ⟨q1, h1⟩ : ∃ q, cutOk l f = q := ⟨_, rfl⟩
 obtain ⟨q2, h2⟩ : ∃ q, cutOk l g = q := ⟨_, rfl⟩
 rw [show selOk l f g = (q1 && q2) by rw [← h1, ← h2]; rfl]
 have H1 := Lib.hid h1
 have H2 := Lib.hid h2
 clear h1 h2
 go_enter Tryz.func103, Tryz.ntmps103
 go_wp2_with fail
 generalize w.alloc (.cells #[.int .i64 f, .int .i64 g] 46) = W1 at *
 refine (cutOk_any A l c f _ hl hc9 (by exact hT.below hal) (by exact hA.below hal)).mono ?_
 rintro e w2 ⟨rfl, n, rfl⟩
 rw [H1.out]
 have hb := below_drewN (Below.refl W1.heap.size W1) n
 have bS := bS.below hb
 have hal := below_then hal hb
 generalize W1.drewN n = w2 at *
 clear hb
 cases q1
 ·go_wp2
  go_ret
  exact ⟨rfl, hal⟩
 have s0 := bS.cell 0
 have s1 := bS.cell 1
 go_wp2_with fail
 refine (cutOk_any A l c g _ hl hc9 (by exact hT.below hal) (by exact hA.below hal)).mono ?_
 rintro e w3 ⟨rfl, n3, rfl⟩
 rw [H2.out]
 have hal := below_drewN hal n3
 go_wp2
 go_ret
 exact ⟨rfl, hal⟩
end Go.Proofs.YtaekanhjkpoifaaGreatDoor

/-
 Rows of edits of the call's own whose puts lie in memory that is read only: append, and what they read as. Own work.
-/
namespace Go.Proofs.YtaekanhjkpoifaaGreatDoor
open Go.RowKit P
set_option linter.unusedVariables false
set_option linter.unusedSimpArgs false
set_option maxRecDepth 100000

/-- A row of the call's own that holds the edits l, each read in the world W0. -/
def OwnR (W0 w : World) (base : Nat) (v : Value) (l : List Ed) : Prop :=
 ∃ L : List (List Value × Ed), l = L.map (·.2) ∧ w.ownsRow base 71 3 v L.length (L.flatMap (·.1)) ∧ ∀ e ∈ L, Lay.edit.rd W0 e.1 e.2
theorem OwnR.below {W0 w w' : World} {base : Nat} {v : Value} {l : List Ed} (h : OwnR W0 w base v l) (hb : Below w.heap.size w w') : OwnR W0 w' base v l := by
 obtain ⟨L, e, h1, h2⟩ := h
 exact ⟨L, e, World.ownsRow.kept (w' := w') (row := none) h1 ⟨hb.os, hb.tape, hb.output, hb.size, fun k hk _ => hb.block k hk⟩ (by cases hv : v.ownBlock <;> simp), h2⟩
theorem OwnR.nil (W0 w : World) (base : Nat) : OwnR W0 w base (.slice none 0 0) [] := ⟨[], rfl, World.ownsRow_nil w base _ _, by simp⟩
theorem OwnR.empty (W0 w : World) : OwnR W0 (w.alloc (.cells #[] 71)) w.heap.size (.slice (some ⟨w.heap.size, 0, none⟩) 0 0) [] :=
 ⟨[], rfl, World.ownsRow_made w #[] 0 (Nat.le_refl _) (by unfold maxLen; omega) rfl, by simp⟩
theorem OwnR.lt {W0 w : World} {base : Nat} {v : Value} {l : List Ed} (h : OwnR W0 w base v l) : ∀ x ∈ v.ownBlock, base ≤ x ∧ x < w.heap.size := by
 obtain ⟨L, e, h1, h2⟩ := h
 exact fun x hx => World.ownsRow.lt h1 x hx
theorem OwnR.es {W0 w : World} {base : Nat} {v : Value} {l : List Ed} (h : OwnR W0 w base v l) (hb : Below W0.heap.size W0 w) : ∃ A c, v = .slice A l.length c ∧ l.length ≤ c ∧ c ≤ maxLen ∧ Es w A l := by
 obtain ⟨L, rfl, h1, h2⟩ := h
 have hlen : ∀ e ∈ L, (e.1 : List Value).length = 3 := fun e he => Lay.edit.len (h2 e he)
 obtain ⟨A, c, rfl, h3, h4, h5⟩ := ownsRow_form h1
 refine ⟨A, c, by simp, by simpa using h3, h4, fun k hk => ?_⟩
 rw [List.length_map] at hk
 have hfl := flat_len 3 L (·.1) hlen
 have hek := h2 L[k] (List.getElem_mem hk)
 have hlk := hlen L[k] (List.getElem_mem hk)
 obtain ⟨b, hA, hbl, _⟩ := h5 (k * 3) (by rw [hfl]; omega)
 refine ⟨b, 0, L[k].1, hA, hbl, hlk, fun j hj => ?_, by rw [List.getElem_map]; exact Lay.edit.below hek hb⟩
 have hg := flat_get 3 L (·.1) hlen k hk j hj
 obtain ⟨hi, hv⟩ := List.getElem?_eq_some_iff.1 hg
 obtain ⟨b', hA', _, hc⟩ := h5 (k * 3 + j) hi
 rw [hA] at hA'
 cases hA'
 rw [Nat.zero_add, hc, hv]

theorem chooseL {α : Type} {Q : Nat → α → Prop} : ∀ n, (∀ i, i < n → ∃ d, Q i d) → ∃ l : List α, l.length = n ∧ ∀ i (h : i < l.length), Q i l[i] := by
 intro n
 induction n with
 | zero => intro _; exact ⟨[], rfl, fun i h => by simp at h⟩
 | succ n ih =>
  intro h
  obtain ⟨l, hl, hq⟩ := ih (fun i hi => h i (by omega))
  obtain ⟨d, hd⟩ := h n (by omega)
  refine ⟨l ++ [d], by simp [hl], fun i hi => ?_⟩
  by_cases e : i < l.length
  ·rw [List.getElem_append_left e]; exact hq i e
  ·have : i = n := by simp at hi; omega
   subst this
   rw [List.getElem_append_right (by omega)]
   simpa [hl] using hd

/-- The cells of a list of edits that is read. -/
theorem es_cells {w : World} {A : Option Addr} {r : List Ed} (h : Es w A r) : ∃ L : List (List Value × Ed), r = L.map (·.2) ∧ (∀ e ∈ L, Lay.edit.rd w e.1 e.2) ∧ ∀ a, A = some a → ∀ j u, (L.flatMap (·.1))[j]? = some u → w.cell? (a.add j) = some u ∧ a.block < w.heap.size ∧ a.spot = none := by
 obtain ⟨L, hl, hq⟩ := chooseL (Q := fun i (d : List Value × Ed) => ∃ (hi : i < r.length), d.2 = r[i] ∧ Lay.edit.rd w d.1 d.2 ∧ ∀ a, A = some a → ∀ j (hj : j < d.1.length), w.cell? (a.add (i * 3 + j)) = some d.1[j] ∧ a.block < w.heap.size ∧ a.spot = none) r.length (fun i hi => by
  obtain ⟨b, off, us, hA, hlt, hus, hc, hr⟩ := h i hi
  refine ⟨(us, r[i]), hi, rfl, hr, fun a ha j hj => ?_⟩
  rw [hA] at ha
  cases ha
  refine ⟨?_, hlt, rfl⟩
  rw [add_plain]
  exact hc j hj)
 have hrd : ∀ e ∈ L, Lay.edit.rd w e.1 e.2 := fun e he => by
  obtain ⟨i, hi, rfl⟩ := List.getElem_of_mem he
  exact (hq i hi).2.2.1
 have hlen : ∀ e ∈ L, (e.1 : List Value).length = 3 := fun e he => Lay.edit.len (hrd e he)
 refine ⟨L, ?_, hrd, fun a ha j u hu => ?_⟩
 ·apply List.ext_getElem
  ·rw [List.length_map]; exact hl.symm
  ·intro i h1 h2
   rw [List.getElem_map]
   exact (hq i (by rw [hl]; exact h1)).2.1.symm
 ·have hfl := flat_len 3 L (·.1) hlen
  have hj : j < L.length * 3 := by rw [← hfl]; exact (List.getElem?_eq_some_iff.1 hu).1
  have hk : j / 3 < L.length := by omega
  have hl3 := hlen L[j / 3] (List.getElem_mem hk)
  have hg := flat_get 3 L (·.1) hlen (j / 3) hk (j % 3) (by rw [hl3]; omega)
  rw [show j / 3 * 3 + j % 3 = j by omega, hu] at hg
  obtain ⟨_, _, _, h4⟩ := hq (j / 3) hk
  have h5 := h4 a ha (j % 3) (by rw [hl3]; omega)
  rw [show j / 3 * 3 + j % 3 = j by omega] at h5
  rw [hg]
  exact h5

theorem run_app_R {W0 w : World} {base : Nat} {v : Value} {l : List Ed} {L2 : List (List Value × Ed)} (a : Addr) (c n : Nat) (ty : TypeId) (hn : n = L2.length) (hown : OwnR W0 w base v l) (hrd : ∀ e ∈ L2, Lay.edit.rd W0 e.1 e.2)
  (hcells : ∀ j u, (L2.flatMap (·.1))[j]? = some u → w.cell? (a.add j) = some u) (hlen : l.length + L2.length ≤ 1000000) (hbase : base ≤ w.heap.size) :
  ∃ v' w', (Builtin.append_ #[29, 29] ty #[v, .slice (some a) n c]).run Tryz.prog w = .ok v' w' ∧ OwnR W0 w' base v' (l ++ L2.map (·.2)) ∧ w.grownBy w' v.ownBlock ∧
   (v'.ownBlock = v.ownBlock ∨ v'.ownBlock = some w.heap.size) := by
 subst hn
 obtain ⟨i, hi, hz, hs, hb⟩ := info_parts Tryz.infoEd
 obtain ⟨L, rfl, hrow, hes⟩ := hown
 rw [List.length_map] at hlen
 have hl3 : ∀ e ∈ L2, (e.1 : List Value).length = 3 := fun e he => Lay.edit.len (hrd e he)
 have hone : ∀ u ∈ L2.flatMap (·.1), u.oneCell' = true := fun u hu => by
  obtain ⟨e, he, hu⟩ := List.mem_flatMap.1 hu
  exact Lay.edit.one (hrd e he) u hu
 have hmul : (L.length + L2.length) * 40 ≤ 140737488355328 := by omega
 obtain ⟨v', w', hrun, h2, h3, _, h5⟩ := run_append_own_at (P := Tryz.prog) w base 29 ty 71 i _ 3 40 Tryz.underlying29 hi hz hs hb rfl (by omega) v L.length (L.flatMap (·.1)) hrow a L2.length c (L2.flatMap (·.1))
  (flat_len 3 L2 (·.1) hl3) hcells hone (by unfold maxLen; omega) hmul hbase
 refine ⟨v', w', hrun, ⟨L ++ L2, by simp, ?_, fun e he => (List.mem_append.1 he).elim (hes e) (hrd e)⟩, h3, h5⟩
 rw [List.length_append, List.flatMap_append]
 exact h2

theorem wpList_app_R {W0 : World} {ops : Array Oper} {rest : List Oper} {o : Oper} {a : Act} {w : World} {Q : Exit → Act → World → Prop} (hgd : Region.wanted o (yielded ops a.tmps) = true) (s x : Operand)
  (ho : o.op = .call { callee := .builtin .append, args := #[s, x], argTypes := #[29, 29] })
  (base : Nat) (v : Value) (l : List Ed) (L2 : List (List Value × Ed)) (ad : Addr) (n c : Nat) (hs : a.eval s = v) (hx : a.eval x = .slice (some ad) n c) (hn : n = L2.length) (hown : OwnR W0 w base v l) (hrd : ∀ e ∈ L2, Lay.edit.rd W0 e.1 e.2)
  (hcells : ∀ j u, (L2.flatMap (·.1))[j]? = some u → w.cell? (ad.add j) = some u) (hlen : l.length + L2.length ≤ 1000000) (hbase : base ≤ w.heap.size)
  (h : ∀ v' w', OwnR W0 w' base v' (l ++ L2.map (·.2)) → w.grownBy w' v.ownBlock → (v'.ownBlock = v.ownBlock ∨ v'.ownBlock = some w.heap.size) → wpList Tryz.prog ops Q rest (a.put o.dst v') w') : wpList Tryz.prog ops Q (o :: rest) a w := by
 refine BigFrame.wpList_want hgd fun K hK => ?_
 obtain ⟨v', w', hrun, h2, h3, h4⟩ := run_app_R ad c n o.type hn hown hrd hcells hlen hbase
 unfold Oper.wp execOp
 simp only [ho, resolve, invoke, builtin, Sem.run_bind, Sem.run_pure, Result.andThen_ok, List.map_toArray, List.map_cons, List.map_nil, hs, hx, hrun]
 exact hK _ _ (h v' w' h2 h3 h4)

/-- One edit that is read in W0, in its cells. -/
theorem rd_edit {W0 : World} {a m : Int} {B : Option Addr} {p : List UInt8} {d : Nat} (ha : -9223372036854775808 ≤ a ∧ a ≤ 9223372036854775807) (hm : -9223372036854775808 ≤ m ∧ m ≤ 9223372036854775807) (h1 : p.length ≤ d) (h2 : d ≤ maxLen) (hB : Bs W0 B p) :
  Lay.edit.rd W0 [.int .i64 a, .int .i64 m, .slice B p.length d] (a, m, p) :=
 ⟨[.int .i64 a], [.int .i64 m, .slice B p.length d], rfl, ⟨rfl, ha⟩, [.int .i64 m], [.slice B p.length d], rfl, ⟨rfl, hm⟩, B, d, rfl, h1, h2, hB⟩

/-- Append of a whole list that lies in W0. -/
theorem run_app_Es {W0 w : World} {base : Nat} {v : Value} {l r : List Ed} {A : Option Addr} (c n : Nat) (ty : TypeId) (hn : n = r.length) (hown : OwnR W0 w base v l) (hr : Es W0 A r) (hbw : Below W0.heap.size W0 w)
  (hlen : l.length + r.length ≤ 1000000) (hbase : base ≤ w.heap.size) :
  ∃ v' w', (Builtin.append_ #[29, 29] ty #[v, .slice A n c]).run Tryz.prog w = .ok v' w' ∧ OwnR W0 w' base v' (l ++ r) ∧ w.grownBy w' v.ownBlock ∧
   (v'.ownBlock = v.ownBlock ∨ v'.ownBlock = some w.heap.size) := by
 cases A with
 | none =>
  have h0 : r = [] := by
   cases r with
   | nil => rfl
   | cons x t => obtain ⟨b, off, _, e, _⟩ := hr 0 (by simp); cases e
  subst h0
  subst hn
  obtain ⟨i, hi, hz, hs, hb⟩ := info_parts Tryz.infoEd
  refine ⟨v, w, ?_, by simpa using hown, World.grownBy.refl w _, .inl rfl⟩
  obtain ⟨L, rfl, hrow, hes⟩ := hown
  rcases hrow.2 with ⟨rfl, h1⟩ | ⟨g, cap, cur, rfl, _, _, hnc, _⟩
  ·simp [Builtin.append_, run_underlying Tryz.underlying29, sizeOf, typeInfo, hi, Builtin.lenOf, Builtin.firstCells]
  ·simp [Builtin.append_, run_underlying Tryz.underlying29, sizeOf, typeInfo, hi, Builtin.lenOf, Builtin.firstCells, hnc, storeCells]
 | some a =>
  obtain ⟨L2, rfl, hrd, hc⟩ := es_cells hr
  rw [List.length_map] at hn hlen
  exact run_app_R a c n ty hn hown hrd (fun j u hu => by
   obtain ⟨h1, h2, h3⟩ := hc a rfl j u hu
   obtain ⟨b, off, sp⟩ := a
   simp only at h3
   subst h3
   rw [add_plain] at h1 ⊢
   exact (hbw.cell (p := ⟨b, off + j, none⟩) h2).trans h1) hlen hbase

theorem wpList_app_Es {W0 : World} {ops : Array Oper} {rest : List Oper} {o : Oper} {a : Act} {w : World} {Q : Exit → Act → World → Prop} (hgd : Region.wanted o (yielded ops a.tmps) = true) (s x : Operand)
  (ho : o.op = .call { callee := .builtin .append, args := #[s, x], argTypes := #[29, 29] })
  (base : Nat) (v : Value) (l r : List Ed) (A : Option Addr) (n c : Nat) (hs : a.eval s = v) (hx : a.eval x = .slice A n c) (hn : n = r.length) (hown : OwnR W0 w base v l) (hr : Es W0 A r) (hbw : Below W0.heap.size W0 w)
  (hlen : l.length + r.length ≤ 1000000) (hbase : base ≤ w.heap.size)
  (h : ∀ v' w', OwnR W0 w' base v' (l ++ r) → w.grownBy w' v.ownBlock → (v'.ownBlock = v.ownBlock ∨ v'.ownBlock = some w.heap.size) → wpList Tryz.prog ops Q rest (a.put o.dst v') w') : wpList Tryz.prog ops Q (o :: rest) a w := by
 refine BigFrame.wpList_want hgd fun K hK => ?_
 obtain ⟨v', w', hrun, h2, h3, h4⟩ := run_app_Es c n o.type hn hown hr hbw hlen hbase
 unfold Oper.wp execOp
 simp only [ho, resolve, invoke, builtin, Sem.run_bind, Sem.run_pure, Result.andThen_ok, List.map_toArray, List.map_cons, List.map_nil, hs, hx, hrun]
 exact hK _ _ (h v' w' h2 h3 h4)
end Go.Proofs.YtaekanhjkpoifaaGreatDoor

/-
 slices.Grow and slices.Concat at edits: two lists, one behind the other. Own work, over the library's laws.
-/
namespace Go.Proofs.YtaekanhjkpoifaaGreatDoor
open Go.RowKit P
set_option linter.unusedVariables false
set_option linter.unusedSimpArgs false
set_option maxRecDepth 100000

theorem ed_growNil_any (W0 : World) (n : Nat) (w : World) (hn : n ≤ 1000000) :
  Calls Tryz.prog 150 #[.slice none 0 0, .int .i64 (n : Int)] w fun e w' => ∃ v, e = .returned v ∧ OwnR W0 w' w.heap.size v [] ∧ Below w.heap.size w w' := by
 by_cases h0 : n = 0
 ·subst h0
  refine (Any8.slices_Grow_room Tryz.growE none 0 0 0 w (by omega) (by omega) (by omega) (by omega)).mono ?_
  rintro e w' ⟨rfl, rfl⟩
  exact ⟨_, rfl, OwnR.nil _ _ _, Below.refl _ _⟩
 ·obtain ⟨i, hi, hz, hs, hb⟩ := info_parts Tryz.infoEd
  refine (Any8.slices_Grow_grow Tryz.growE i (.agg #[.int .i64 0, .int .i64 0, .slice none 0 0]) hi hz (by omega) none 0 0 n [] w (by omega) (by omega) (by rw [hb]; omega) (by omega) (by simp) (fun _ => rfl) (fun a ha => by cases ha)).mono ?_
  rintro e w' ⟨rfl, rfl⟩
  refine ⟨_, rfl, ⟨[], rfl, ⟨rfl, .inr ⟨w.heap.size, _, _, rfl, Nat.le_refl _, heap_alloc_new w.drew _, Nat.zero_le _, ?_, ?_, ?_⟩⟩, by simp⟩, (below_of_drewN w 1).alloc (by simp) _⟩
  ·exact grownCap_le_maxLen _ _ _ _ (by unfold maxLen; omega)
  ·have := grownCap_ge w n 0 71
   rw [show (Tryz.growE_ren.t 25) = 71 from rfl]
   have e1 : ((.agg #[.int .i64 0, .int .i64 0, .slice none 0 0]) : Value).cells.size = 3 := rfl
   simp [Builtin.zeroCells, e1]
   omega
  ·simp

set_option maxHeartbeats 4000000 in
theorem concatEd_any (A : Option Addr) (u : List Ed) (c : Nat) (B : Option Addr) (r : List Ed) (d g : Nat) (W0 w : World) (hu : u.length ≤ 100000) (hr : r.length ≤ 100000) (hU : Es W0 A u) (hR : Es W0 B r) (hb0 : Below W0.heap.size W0 w) (hB : Blk w g #[.slice A u.length c, .slice B r.length d] 29) :
  Calls Tryz.prog 129 #[.slice (some ⟨g, 0, none⟩) 2 2] w fun e w' => ∃ A' c', e = .returned (.slice A' (u ++ r).length c') ∧ (u ++ r).length ≤ c' ∧ c' ≤ maxLen ∧ Es w' A' (u ++ r) ∧ Below w.heap.size w w' := by
 have p0 : w.cell? ⟨g, 0, none⟩ = some (.slice A u.length c) := hB.cell 0
 have p1 : w.cell? ⟨g, 1, none⟩ = some (.slice B r.length d) := hB.cell 1
 have hw1 : IntKind.i64.wrap ((u.length : Int) + (r.length : Int)) = ((u.length + r.length : Nat) : Int) := by rw [IntWalk.i64_in _ ⟨by omega, by omega⟩]; omega
 have hn1 : ¬ ((u.length + r.length : Nat) : Int) < 0 := by omega
 have hn0 : ¬ (u.length : Int) < 0 := by omega
 have HBB := Lib.hid hB
 have HB0 := Lib.hid hb0
 clear hB hb0
 go_enter Tryz.func129, Tryz.ntmps129
 go_wp2
 go_loop [3, 11] (fun z i => ∃ k : Nat, k ≤ 2 ∧ i = .int .i64 k ∧ z = .int .i64 (((if k = 0 then 0 else if k = 1 then u.length else u.length + r.length : Nat) : Nat) : Int)) (fun _ i => 2 - (intOf i).toNat)
 case atStart => exact ⟨0, by omega, rfl, rfl⟩
 case round =>
  obtain ⟨k, hk, rfl, rfl⟩ := hrel
  have hk3 : k = 0 ∨ k = 1 ∨ k = 2 := by omega
  rcases hk3 with rfl | rfl | rfl
  ·rw [if_pos rfl]
   go_wp2
   go_round
   case rel => exact ⟨1, by omega, by go_num, by simp⟩
   case measure => simp [intOf]
  ·rw [if_neg (by omega), if_pos rfl]
   go_wp2
   go_round
   case rel => exact ⟨2, by omega, by go_num, by simp⟩
   case measure => simp [intOf]
  ·rw [if_neg (by omega), if_neg (by omega)]
   go_wp2_with fail
   refine (ed_growNil_any W0 (u.length + r.length) _ (by omega)).mono ?_
   rintro e w1 ⟨v1, rfl, hown1, hb1⟩
   have HO1 := Lib.hid hown1
   have HB1 := Lib.hid hb1
   clear hown1 hb1
   go_wp2
   go_loopw [6, 27] (fun v i wr => ∃ k : Nat, k ≤ 2 ∧ i = .int .i64 k ∧ OwnR W0 wr w.heap.size v (if k = 0 then [] else if k = 1 then u else u ++ r) ∧ Below w.heap.size w wr) (fun _ i _ => 2 - (intOf i).toNat)
   case atStart => exact ⟨0, by omega, rfl, by simpa using HO1.out, HB1.out⟩
   case round =>
    obtain ⟨k, hk2, rfl, hown, hb⟩ := hrel
    have hbs := hb.size
    have hbw := below_then HB0.out hb
    have hBk := HBB.out.below hb
    have hk3 : k = 0 ∨ k = 1 ∨ k = 2 := by omega
    rcases hk3 with rfl | rfl | rfl
    ·rw [if_pos rfl] at hown
     have q0 : wr.cell? ⟨g, 0, none⟩ = some (.slice A u.length c) := hBk.cell 0
     go_wp2_with (at_builtin; go_must (refine wpList_app_Es rfl _ _ rfl w.heap.size _ [] u A u.length c rfl rfl rfl hown hU hbw (by simp; omega) hbs ?_))
     intro v4 w4 hown4 hg4 _
     have hb4 := hb.grown hg4 hbs (fun x hx => (hown.lt x hx).1)
     go_wp2
     go_roundw
     case rel => exact ⟨1, by omega, by go_num, by simpa using hown4, hb4⟩
     case measure => simp [intOf]
    ·rw [if_neg (by omega), if_pos rfl] at hown
     have q1 : wr.cell? ⟨g, 1, none⟩ = some (.slice B r.length d) := hBk.cell 1
     go_wp2_with (at_builtin; go_must (refine wpList_app_Es rfl _ _ rfl w.heap.size _ u r B r.length d rfl rfl rfl hown hR hbw (by omega) hbs ?_))
     intro v4 w4 hown4 hg4 _
     have hb4 := hb.grown hg4 hbs (fun x hx => (hown.lt x hx).1)
     go_wp2
     go_roundw
     case rel => exact ⟨2, by omega, by go_num, by simpa using hown4, hb4⟩
     case measure => simp [intOf]
    ·rw [if_neg (by omega), if_neg (by omega)] at hown
     obtain ⟨A', c', rfl, h1, h2, h3⟩ := hown.es hbw
     go_wp2
     go_ret
     exact ⟨A', c', rfl, h1, h2, h3, hb⟩
end Go.Proofs.YtaekanhjkpoifaaGreatDoor
