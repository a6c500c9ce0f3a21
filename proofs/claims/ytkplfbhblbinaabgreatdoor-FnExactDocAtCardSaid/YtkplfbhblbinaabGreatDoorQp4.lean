/-
  Texts of one claim in one: OpenS, I02, S02, I02b, I02c, I02d, I02f, Cur6, S02b, R04, Cur9, Cur10, Es, C09b, Law, C10, J10, D01, D04. Own work.
-/
import Derived.Test.YtkplfbhblbinaabGreatDoorQp0
import Derived.ProofKit
import Derived.OpenShut
import Derived.OpenVars
import Derived.ChangeOld
import Derived.Deep.DeepHandedRow
import Derived.Test.YtkplfbhblbinaabGreatDoorQC05
import Derived.Test.YtkplfbhblbinaabGreatDoorQp3
import Derived.Shelf.Bytes.SlCountOne
import Derived.Test.YtkplfbhblbinaabGreatDoorQI01
import Derived.Test.YtkplfbhblbinaabGreatDoorQS01
import Derived.Handy
import Derived.Test.YtkplfbhblbinaabGreatDoorQI01f
import Derived.Lib.SlBytesConst
import Derived.Test.YtkplfbhblbinaabGreatDoorQp1
import Derived.BigQuiet
import Derived.Deep.QuietTactic
import Derived.Deep.RegionHeld3
import Derived.Deep.DeepCutAuto
import Derived.Test.YtkplfbhblbinaabGreatDoorQC09
import Derived.Test.YtkplfbhblbinaabGreatDoorCards
import Derived.Test.YtkplfbhblbinaabGreatDoorTie
import Derived.Lib.LaidTab
import Derived.Lib.SliceRun

/-
  Edits opened as arguments. Own work.
  Lists of edits, and selections, opened as arguments. Own work.
  Stacks, opened as arguments. Own work.
-/
namespace Go.Proofs.YtkplfbhblbinaabGreatDoor
open Go.ChangeShapes Go.WideShapes Go.ChangeAt Go.RowKit Go.Deep P
set_option linter.unusedVariables false
set_option maxRecDepth 100000

section
variable {H : Type} {enc : TypeId × Value → H} {w : World} {base : Nat} {spare : Nat → Bool} {held : Bool}

/-- A struct of three fields of one cell each. -/
theorem reads_struct3 {α β γ : Type} {t : TypeId} {f0 f1 f2 : Field} {K : Lay α} {L : Lay β} {M : Lay γ} (ht : Tryz.prog.underlying t = some (.struct #[f0, f1, f2])) (h0 : f0.offset = 0) (h1 : f1.offset = 1) (h2 : f2.offset = 2)
    (c0 : Tryz.prog.cellsOf f0.type = 1) (c1 : Tryz.prog.cellsOf f1.type = 1) (c2 : Tryz.prog.cellsOf f2.type = 1) (hC : Tryz.prog.cellsOf t = 3)
    (r0 : Reads enc w base spare held f0.type K) (r1 : Reads enc w base spare held f1.type L) (r2 : Reads enc w base spare held f2.type M) : Reads enc w base spare held t (Lay.pair K (Lay.pair L M)) := by
  intro fuel cs x hf
  obtain ⟨xs, n, _, hx, hlen, hxl, hg⟩ := DataW.trod_struct ht hf
  rw [hC] at hlen
  have hxl' : xs.length = 3 := by rw [hxl]; rfl
  match cs, hlen with
  | [u0, u1, u2], _ =>
    have g0 := hg 0 f0 rfl
    have g1 := hg 1 f1 rfl
    have g2 := hg 2 f2 rfl
    rw [h0, c0] at g0
    rw [h1, c1] at g1
    rw [h2, c2] at g2
    obtain ⟨y0, hy0⟩ : ∃ y, xs[0]? = some y := ⟨xs[0]'(by omega), List.getElem?_eq_getElem (by omega)⟩
    obtain ⟨y1, hy1⟩ : ∃ y, xs[1]? = some y := ⟨xs[1]'(by omega), List.getElem?_eq_getElem (by omega)⟩
    obtain ⟨y2, hy2⟩ : ∃ y, xs[2]? = some y := ⟨xs[2]'(by omega), List.getElem?_eq_getElem (by omega)⟩
    rw [hy0] at g0
    rw [hy1] at g1
    rw [hy2] at g2
    obtain ⟨d0, e0⟩ := r0 n [u0] y0 g0
    obtain ⟨d1, e1⟩ := r1 n [u1] y1 g1
    obtain ⟨d2, e2⟩ := r2 n [u2] y2 g2
    exact ⟨(d0, d1, d2), [u0], [u1, u2], rfl, e0, [u1], [u2], rfl, e1, e2⟩

theorem reads_edit (hsp : ∀ b, spare b = true) : Reads enc w base spare held 106 Lay.edit :=
  reads_struct3 Tryz.underlying106 rfl rfl rfl (by kernel_rfl) (by kernel_rfl) (by kernel_rfl) (by kernel_rfl) reads_int reads_int (reads_bytes hsp)
end

/-- An edit in cells. -/
theorem Lay.edit_rd {w : World} {cs : List Value} {d : Int × Int × List UInt8} (h : Lay.edit.rd w cs d) : ∃ A c, cs = [.int .i64 d.1, .int .i64 d.2.1, .slice A d.2.2.length c] ∧ (-9223372036854775808 ≤ d.1 ∧ d.1 ≤ 9223372036854775807) ∧ (-9223372036854775808 ≤ d.2.1 ∧ d.2.1 ≤ 9223372036854775807) ∧ d.2.2.length ≤ c ∧ c ≤ maxLen ∧ Bs w A d.2.2 := by
  obtain ⟨c1, c2, rfl, ⟨rfl, ha⟩, c3, c4, rfl, ⟨rfl, hm⟩, A, c, rfl, h1, h2, hB⟩ := h
  exact ⟨A, c, rfl, ha, hm, h1, h2, hB⟩
end Go.Proofs.YtkplfbhblbinaabGreatDoor

namespace Go.Proofs.YtkplfbhblbinaabGreatDoor
open Go.ChangeShapes Go.WideShapes Go.ChangeAt Go.RowKit Go.Deep P
set_option linter.unusedVariables false
set_option maxRecDepth 100000

section
variable {H : Type} {enc : TypeId × Value → H} {w : World} {base : Nat} {spare : Nat → Bool} {held : Bool}

/-- A struct of two fields of one cell each. -/
theorem reads_struct2 {α β : Type} {t : TypeId} {f0 f1 : Field} {K : Lay α} {L : Lay β} (ht : Tryz.prog.underlying t = some (.struct #[f0, f1])) (h0 : f0.offset = 0) (h1 : f1.offset = 1)
    (c0 : Tryz.prog.cellsOf f0.type = 1) (c1 : Tryz.prog.cellsOf f1.type = 1) (hC : Tryz.prog.cellsOf t = 2)
    (r0 : Reads enc w base spare held f0.type K) (r1 : Reads enc w base spare held f1.type L) : Reads enc w base spare held t (Lay.pair K L) := by
  intro fuel cs x hf
  obtain ⟨xs, n, _, hx, hlen, hxl, hg⟩ := DataW.trod_struct ht hf
  rw [hC] at hlen
  have hxl' : xs.length = 2 := by rw [hxl]; rfl
  match cs, hlen with
  | [u0, u1], _ =>
    have g0 := hg 0 f0 rfl
    have g1 := hg 1 f1 rfl
    rw [h0, c0] at g0
    rw [h1, c1] at g1
    obtain ⟨y0, hy0⟩ : ∃ y, xs[0]? = some y := ⟨xs[0]'(by omega), List.getElem?_eq_getElem (by omega)⟩
    obtain ⟨y1, hy1⟩ : ∃ y, xs[1]? = some y := ⟨xs[1]'(by omega), List.getElem?_eq_getElem (by omega)⟩
    rw [hy0] at g0
    rw [hy1] at g1
    obtain ⟨d0, e0⟩ := r0 n [u0] y0 g0
    obtain ⟨d1, e1⟩ := r1 n [u1] y1 g1
    exact ⟨(d0, d1), [u0], [u1], rfl, e0, e1⟩

theorem reads_sel : Reads enc w base spare held 110 (Lay.pair Lay.int Lay.int) :=
  reads_struct2 Tryz.underlying110 rfl rfl (by kernel_rfl) (by kernel_rfl) (by kernel_rfl) reads_int reads_int
theorem reads_edits (hsp : ∀ b, spare b = true) : Reads enc w base spare held 111 (Lay.slice 106 Lay.edit) :=
  reads_slice Tryz.underlying111 (by kernel_rfl) (by decide) (reads_edit hsp)
end
end Go.Proofs.YtkplfbhblbinaabGreatDoor

namespace Go.Proofs.YtkplfbhblbinaabGreatDoor
open Go.ChangeShapes Go.WideShapes Go.ChangeAt Go.RowKit Go.Deep P
set_option linter.unusedVariables false
set_option maxRecDepth 100000

section
variable {H : Type} {enc : TypeId × Value → H} {w : World} {base : Nat} {spare : Nat → Bool} {held : Bool}
theorem reads_stack (hsp : ∀ b, spare b = true) : Reads enc w base spare held 113 (Lay.pair (Lay.slice 106 Lay.edit) (Lay.slice 106 Lay.edit)) :=
  reads_struct2 Tryz.underlying113 rfl rfl (by kernel_rfl) (by kernel_rfl) (by kernel_rfl) (reads_edits hsp) (reads_edits hsp)
end
end Go.Proofs.YtkplfbhblbinaabGreatDoor

/-
  Chapter 2, the program's MeasOf, and the model's: contracts. Own work.
-/
namespace Go.Proofs.YtkplfbhblbinaabGreatDoor
open Go.RowKit P
set_option linter.unusedVariables false
set_option maxRecDepth 100000

/-- What a call that returns a measure ends in. -/
def meas (b r n : Int) : Value := .agg #[.int .i64 b, .int .i64 r, .int .i64 n]

theorem count_list (l : List UInt8) (x : UInt8) (n : Nat) : (l.foldl (fun n y => if y == x then n + 1 else n) n) = n + l.count x := by
  induction l generalizing n with
  | nil => simp
  | cons a t ih =>
    rw [List.foldl_cons, ih, List.count_cons]
    split <;> omega

theorem run_count (w : World) (A : Option Addr) (l : List UInt8) (c : Nat) (hA : Bs w A l) : (Extern.BytealgCount.count #[.slice A l.length c, .int .u8 10]).run Tryz.prog w = .ok (.int .i64 (lines l)) w := by
  cases A with
  | none =>
    have h0 : l = [] := by
      cases l with
      | nil => rfl
      | cons x t => obtain ⟨b, off, e, _⟩ := hA 0 (by simp); cases e
    subst h0
    exact Lib.run_countNil w 0 c 10
  | some a =>
    have := Lib.run_countAt (P := Tryz.prog) w a l.length c (l.map fun x => (x.toNat : Int)) (by simp) (fun i hi => by
      obtain ⟨b, off, e, _, hc⟩ := hA i hi
      cases e
      rw [add_plain, hc]
      simp [List.getD, hi]) 10
    rw [this]
    congr 3
    unfold Lib.countByte Lib.bytesOf lines
    rw [List.map_map]
    have e : ((fun n : Int => UInt8.ofNat n.toNat) ∘ fun x : UInt8 => (x.toNat : Int)) = id := by
      funext x
      simp
    rw [e, List.map_id]
    rfl

end Go.Proofs.YtkplfbhblbinaabGreatDoor

/-
  Chapter 2, the model's MeasOf: contract. Own work.
-/
namespace Go.Proofs.YtkplfbhblbinaabGreatDoor
open Go.RowKit P
set_option linter.unusedVariables false
set_option maxRecDepth 100000

theorem below_of_eq {B : Nat} {a b c : World} (h : Below B a b) (hs : b.heap.size ≤ c.heap.size) (ho : c.os = b.os) (ht : c.tape = b.tape) (hp : c.output = b.output) (hb : ∀ k, k < B → c.heap[k]? = b.heap[k]?) : Below B a c :=
  h.trans ⟨ho, ht, hp, hs, hb⟩

end Go.Proofs.YtkplfbhblbinaabGreatDoor

/-
  Chapter 2, ChunkOk of the program and of the model: contracts. Own work.
-/
namespace Go.Proofs.YtkplfbhblbinaabGreatDoor
open Go.RowKit P
set_option linter.unusedVariables false
set_option maxRecDepth 100000

end Go.Proofs.YtkplfbhblbinaabGreatDoor

/-
  Chapter 2, measSum, measFits, MeasAdd of the program: contracts. Own work.
-/
namespace Go.Proofs.YtkplfbhblbinaabGreatDoor
open Go.RowKit P
set_option linter.unusedVariables false
set_option maxRecDepth 100000

set_option maxHeartbeats 400000 in
theorem fitsText_any (n : Int) (w : World) : Calls Tryz.prog 178 #[.int .i64 n] w fun e w' => e = .returned (.bool (decide (0 ≤ n ∧ n ≤ 400))) ∧ w' = w := by
  by_cases h : 0 ≤ n
  · go_enter Tryz.func178, Tryz.ntmps178
    go_wp2
    go_ret
    exact ⟨ret_bool (by simp [h]), rfl⟩
  · have hd : decide (0 ≤ n) = false := by simpa using h
    have H := Lib.hid h
    clear h
    go_enter Tryz.func178, Tryz.ntmps178
    go_wp2
    go_ret
    exact ⟨ret_bool (by simp), rfl⟩

def mFits (a b r : Int) : Bool := decide (0 ≤ a ∧ a ≤ 400) && decide (0 ≤ b ∧ b ≤ 400) && decide (0 ≤ r ∧ r ≤ 400)

end Go.Proofs.YtkplfbhblbinaabGreatDoor

/-
  Chapter 2, ChunksOk of the program and of the model: contracts. Own work.
-/
namespace Go.Proofs.YtkplfbhblbinaabGreatDoor
open Go.RowKit P
set_option linter.unusedVariables false
set_option maxRecDepth 100000

theorem all_take (ls : List (List UInt8)) (k : Nat) (h : k < ls.length) : (ls.take (k + 1)).all chunkOk = ((ls.take k).all chunkOk && chunkOk ls[k]) := by
  rw [List.take_succ_eq_append_getElem h, List.all_append]; simp

theorem not_all {ls : List (List UInt8)} {k : Nat} (h : k < ls.length) (hc : chunkOk ls[k] = false) : chunksOk ls = false := by
  unfold chunksOk
  have : ls.all chunkOk = false := by
    rw [List.all_eq_false]
    exact ⟨ls[k], List.getElem_mem h, by simp [hc]⟩
  rw [this]; rfl

theorem chunkOk_len {l : List UInt8} (h : chunkOk l = true) : 1 ≤ l.length ∧ l.length ≤ 16 := ⟨((chunkOk_iff l).1 h).1, ((chunkOk_iff l).1 h).2.1⟩

theorem mB_ok {l : List UInt8} (h : chunkOk l = true) : mB l = l.length := by unfold mB; rw [if_pos ((chunkOk_iff l).1 h).2.2]

end Go.Proofs.YtkplfbhblbinaabGreatDoor

/-
  Chapter 2, ChunksText of the program and of the model: contracts. Own work.
-/
namespace Go.Proofs.YtkplfbhblbinaabGreatDoor
open Go.RowKit P
set_option linter.unusedVariables false
set_option maxRecDepth 100000

theorem tot_take_le (ls : List (List UInt8)) (k : Nat) : tot (ls.take k) ≤ tot ls := by
  have h2 : ls.flatten = (ls.take k).flatten ++ (ls.drop k).flatten := by rw [← List.flatten_append, List.take_append_drop]
  unfold tot
  rw [h2, List.length_append]
  omega
theorem chunksOk_tot {ls : List (List UInt8)} (h : chunksOk ls = true) : tot ls ≤ 400 := (chunksOk_all h).2
theorem chunksText_len (L : List (List UInt8)) : (chunksText L).length ≤ 400 := by
  unfold chunksText
  split
  · rename_i h; exact chunksOk_tot h
  · simp

end Go.Proofs.YtkplfbhblbinaabGreatDoor

/-
  The draws' cursor: lists of chunks, with faults, and the draw of FnChunkFor, of FnChunks: contracts. Own work.
  The draws' cursor: lists of chunks with faults, the draws of FnChunkFor and FnChunks: contracts. Own work.
  The draws of FnChunkFor and FnChunks: contracts. Own work.
-/
namespace Go.Proofs.YtkplfbhblbinaabGreatDoor
open Go.RowKit P
set_option linter.unusedVariables false

theorem cell_new6 {w : World} {t : TypeId} {u : Value} : ∀ j x, ([u] : List Value)[j]? = some x → (w.alloc (.cells #[u] t)).cell? ((⟨w.heap.size, 0, none⟩ : Addr).add j) = some x := by
  intro j x hx
  match j, hx with
  | 0, hx =>
    simp only [List.getElem?_cons_zero, Option.some.injEq] at hx
    subst hx
    rw [show (⟨w.heap.size, 0, none⟩ : Addr).add 0 = ⟨w.heap.size, 0, none⟩ from rfl, World.cell?_alloc_at _ _ _ _ rfl]
    rfl

/-- A slice of bytes that reads as l, and the block that it lies in. -/
def seenOw (w : World) (cs : List Value) (l : List UInt8) (fp : List Nat) : Prop := ∃ v, cs = [v] ∧ bRd w [v] l ∧ fp = v.ownBlock.toList ∧ ∀ k ∈ fp, k < w.heap.size

def Lay.seen : Lay (List UInt8) where
  sz := 1
  rd := bRd
  ow := seenOw
  len := by rintro w cs x ⟨A, c, rfl, _⟩; rfl
  one := by rintro w cs x ⟨A, c, rfl, _⟩ u hu; simp at hu; subst hu; rfl
  below := by rintro w w' cs x ⟨A, c, rfl, h1, h2, hB⟩ hb; exact ⟨A, c, rfl, h1, h2, hB.below hb⟩
  read := by rintro w cs x fp ⟨v, rfl, h, _⟩; exact h
  lt := by rintro w cs x fp ⟨v, rfl, _, _, h⟩; exact h
  kept := by
    rintro w w' cs x fp ⟨v, rfl, ⟨A, c, e, h1, h2, hB⟩, rfl, h4⟩ hk hs
    cases e
    refine ⟨_, rfl, ⟨A, c, rfl, h1, h2, hB.of_heap hs (fun b off hA _ => hk b (by rw [hA]; simp [Value.ownBlock]))⟩, rfl, fun k hkm => Nat.lt_of_lt_of_le (h4 k hkm) hs⟩

theorem Own.seen {w : World} {base : Nat} {v : Value} {l : List UInt8} (h : Own w base v l) : Lay.seen.ow w [v] l v.ownBlock.toList := by
  refine ⟨v, rfl, ?_, rfl, fun k hk => (h.range k hk).2⟩
  obtain ⟨A, c, rfl, h1, h2, h3⟩ := h.form
  exact ⟨A, c, rfl, h1, h2, h3⟩

theorem Lay.only {α : Type} (L : Lay α) {w w' : World} {g : Nat} {cs : List Value} {x : α} {fp : List Nat} (h : L.ow w cs x fp) (ho : Only g w w') (hg : ∀ k ∈ fp, g < k) : L.ow w' cs x fp :=
  L.kept h (fun k hk => ho.block k (L.lt h k hk) (fun e => by have := hg k hk; injection e with e; omega)) ho.size

end Go.Proofs.YtkplfbhblbinaabGreatDoor

namespace Go.Proofs.YtkplfbhblbinaabGreatDoor
open Go.RowKit P
set_option linter.unusedVariables false

theorem cell_newg {w : World} {t : TypeId} {u : Value} {g : Nat} (hg : g = w.heap.size) : ∀ j x, ([u] : List Value)[j]? = some x → (w.alloc (.cells #[u] t)).cell? ((⟨g, 0, none⟩ : Addr).add j) = some x := by
  subst hg; exact cell_new6

/-- The bytes of the text's constant, sixteen letters a. -/
theorem aRow (w : World) (f : Nat × Nat) : Lay.seen.ow (w.alloc (.cells #[.int .u8 97, .int .u8 97, .int .u8 97, .int .u8 97, .int .u8 97, .int .u8 97, .int .u8 97, .int .u8 97, .int .u8 97, .int .u8 97, .int .u8 97, .int .u8 97, .int .u8 97, .int .u8 97, .int .u8 97, .int .u8 97] 5 f)) [.slice (some ⟨w.heap.size, 0, none⟩) 16 16] (List.replicate 16 97) [w.heap.size] := by
  refine ⟨_, rfl, ⟨_, 16, rfl, by simp, by unfold maxLen; omega, fun k hk => ⟨w.heap.size, 0, rfl, by simp, ?_⟩⟩, rfl, by intro k hk; simp at hk; subst hk; simp⟩
  have hk' : k < 16 := by simpa using hk
  have hh : (w.alloc (.cells #[.int .u8 97, .int .u8 97, .int .u8 97, .int .u8 97, .int .u8 97, .int .u8 97, .int .u8 97, .int .u8 97, .int .u8 97, .int .u8 97, .int .u8 97, .int .u8 97, .int .u8 97, .int .u8 97, .int .u8 97, .int .u8 97] 5 f)).heap[w.heap.size]? = some (.cells #[.int .u8 97, .int .u8 97, .int .u8 97, .int .u8 97, .int .u8 97, .int .u8 97, .int .u8 97, .int .u8 97, .int .u8 97, .int .u8 97, .int .u8 97, .int .u8 97, .int .u8 97, .int .u8 97, .int .u8 97, .int .u8 97] 5 f) := heap_alloc_new w _
  rw [Nat.zero_add, cell_of_row _ w.heap.size k _ _ _ hh]
  simp only [List.getElem_replicate]
  clear hk hh
  match k, hk' with
  | 0, _ | 1, _ | 2, _ | 3, _ | 4, _ | 5, _ | 6, _ | 7, _ | 8, _ | 9, _ | 10, _ | 11, _ | 12, _ | 13, _ | 14, _ | 15, _ => rfl
  | k + 16, h => omega

end Go.Proofs.YtkplfbhblbinaabGreatDoor

namespace Go.Proofs.YtkplfbhblbinaabGreatDoor
open Go.RowKit P
set_option linter.unusedVariables false

/-- What a draw of chunks and an offset ends in. -/
def DrawsL (w : World) (e : Ending) (w' : World) : Prop :=
  ∃ A c L a, e = .returned (.tuple #[.slice A L.length c, .int .i64 a]) ∧ L.length ≤ c ∧ c ≤ maxLen ∧ Cs w' A L ∧ L.length ≤ 40 ∧ (∀ x ∈ L, x.length ≤ 401) ∧ -9223372036854775808 ≤ a ∧ a ≤ 9223372036854775807 ∧ Below w.heap.size w w'


end Go.Proofs.YtkplfbhblbinaabGreatDoor

/-
  Chapter 2, ChunksOf of the model: contract. Own work.
-/
namespace Go.Proofs.YtkplfbhblbinaabGreatDoor
open Go.RowKit P
set_option linter.unusedVariables false

end Go.Proofs.YtkplfbhblbinaabGreatDoor

/-
  Chapter 4, the program's RopeOk, RopeText, RopeMeas, RopeOf: contracts. Own work.
  Chapter 4, the model's RopeOk, RopeText, RopeMeas: contracts. Own work.
  Chapter 4, the model's l04Cut, RopeLine: contracts. Own work.
  Chapter 4, the model's RopeLine: contract. Own work.
  Chapter 4, the program's cutsOk, RopeLine: contracts. Own work.
  Chapter 4, the program's RopeLine: contract. Own work.
  Chapter 4, the model's l04Stands: contract. Own work.
-/
namespace Go.Proofs.YtkplfbhblbinaabGreatDoor
open Go.RowKit P
set_option linter.unusedVariables false
set_option maxRecDepth 100000


end Go.Proofs.YtkplfbhblbinaabGreatDoor

namespace Go.Proofs.YtkplfbhblbinaabGreatDoor
open Go.RowKit P
set_option linter.unusedVariables false
set_option maxRecDepth 100000

end Go.Proofs.YtkplfbhblbinaabGreatDoor

namespace Go.Proofs.YtkplfbhblbinaabGreatDoor
open Go.RowKit P
set_option linter.unusedVariables false
set_option maxRecDepth 100000

theorem slice_part2 (A : Option Addr) (n c i : Nat) (w : World) (l : List UInt8) (hA : A = none → c = 0) (hp : ∀ a, A = some a → ∃ g o, a = ⟨g, o, none⟩) (hn : l.length = n) (hi : i ≤ n) (hc : n ≤ c) (hc9 : c ≤ 9223372036854775807) (hB : Bs w A l) :
    ∃ A', (∀ W, (Instr.slice 22 (.slice A n c) (some (.int .i64 (i : Int))) none none).run Tryz.prog W = .ok (.slice A' (n - i) (c - i)) W) ∧ Bs w A' (l.drop i) ∧ (A' = none → c - i = 0) ∧ (∀ a, A' = some a → ∃ g o, a = ⟨g, o, none⟩) := by
  have hz : ∀ W, (Go.sizeOf 5).run Tryz.prog W = .ok 1 W := fun W => by kernel_rfl
  have ht' : Tryz.prog.underlying 22 = some (.slice (Tryz.prog.elem 22)) := by simp [Program.elem, Tryz.underlying22]
  have he : Tryz.prog.elem 22 = 5 := by simp [Program.elem, Tryz.underlying22]
  cases A with
  | none =>
    have h0 := hA rfl
    subst h0
    refine ⟨none, fun W => ?_, fun k hk => by rw [List.length_drop] at hk; omega, fun _ => by omega, fun _ h => by cases h⟩
    rw [run_slice_l W 22 _ _ _ ht' .i64 _ (by omega) (by omega), he, hz]
    simp [Result.andThen, sliced]
  | some x =>
    obtain ⟨g, o, rfl⟩ := hp x rfl
    refine ⟨some (if c = i then ⟨g, o, none⟩ else ⟨g, o + i, none⟩), fun W => ?_, ?_, (fun h => by cases h), fun a h => by cases h; split <;> exact ⟨_, _, rfl⟩⟩
    · rw [run_slice_l W 22 _ _ _ ht' .i64 _ (by omega) (by omega), he, hz]
      by_cases h0 : c = i
      · simp [Result.andThen, sliced, h0]
      · by_cases h1 : i = 0
        · subst h1; simp [Result.andThen, sliced, Addr.add, h0]
        · simp [Result.andThen, sliced, Addr.add, h0, h1]
    · by_cases h0 : c = i
      · intro k hk
        rw [List.length_drop] at hk
        omega
      · rw [if_neg h0]
        have := Bs.sub hB i (l.length - i)
        rw [List.take_of_length_le (by rw [List.length_drop]; omega)] at this
        exact this
theorem slice_part (A : Option Addr) (n c i : Nat) (w : World) (l : List UInt8) (hA : A = none → c = 0) (hp : ∀ a, A = some a → ∃ g o, a = ⟨g, o, none⟩) (hn : l.length = n) (hi : i ≤ n) (hc : n ≤ c) (hc9 : c ≤ 9223372036854775807) (hB : Bs w A l) :
    ∃ A', (∀ W, (Instr.slice 22 (.slice A n c) (some (.int .i64 (i : Int))) none none).run Tryz.prog W = .ok (.slice A' (n - i) (c - i)) W) ∧ Bs w A' (l.drop i) :=
  let ⟨A', h1, h2, _, _⟩ := slice_part2 A n c i w l hA hp hn hi hc hc9 hB
  ⟨A', h1, h2⟩
end Go.Proofs.YtkplfbhblbinaabGreatDoor

namespace Go.Proofs.YtkplfbhblbinaabGreatDoor
open Go.RowKit P
set_option linter.unusedVariables false
set_option maxRecDepth 100000

theorem ten_eq {x : UInt8} (h : x = 10) : ((x.toNat : Int) == 10) = true := by subst h; rfl
theorem ten_ne {x : UInt8} (h : x ≠ 10) : ((x.toNat : Int) == 10) = false := by
  rw [beq_eq_false_iff_ne]
  intro e
  apply h
  apply UInt8.toNat_inj.1
  have : (10 : UInt8).toNat = 10 := rfl
  omega

end Go.Proofs.YtkplfbhblbinaabGreatDoor

namespace Go.Proofs.YtkplfbhblbinaabGreatDoor
open Go.RowKit P
set_option linter.unusedVariables false
set_option maxRecDepth 100000

theorem ret_i64 {a b : Int} (h : a = b) : Ending.returned (.int .i64 a) = .returned (.int .i64 b) := by rw [h]

end Go.Proofs.YtkplfbhblbinaabGreatDoor

namespace Go.Proofs.YtkplfbhblbinaabGreatDoor
open Go.RowKit P
set_option linter.unusedVariables false
set_option maxRecDepth 100000

/-- Own bytes: nil, or a block of their own. -/
theorem Own.form2 {w : World} {base : Nat} {v : Value} {l : List UInt8} (h : Own w base v l) : ∃ A c, v = .slice A l.length c ∧ l.length ≤ c ∧ c ≤ 9223372036854775807 ∧ Bs w A l ∧ (A = none → c = 0) ∧ (∀ x, A = some x → ∃ g o, x = ⟨g, o, none⟩) := by
  obtain ⟨A, c, hv, h1, h2, hB⟩ := h.form
  refine ⟨A, c, hv, h1, by unfold maxLen at h2; omega, hB, ?_, ?_⟩
  · intro hA
    rcases h.2 with ⟨e, _⟩ | ⟨g, cap, cur, e, _⟩
    · rw [hv] at e; simp only [Value.slice.injEq] at e; exact e.2.2
    · rw [hv] at e; simp only [Value.slice.injEq] at e; rw [hA] at e; exact absurd e.1 (by simp)
  · intro x hx
    rcases h.2 with ⟨e, _⟩ | ⟨g, cap, cur, e, _⟩
    · rw [hv] at e; simp only [Value.slice.injEq] at e; rw [hx] at e; exact absurd e.1 (by simp)
    · rw [hv] at e; simp only [Value.slice.injEq] at e; rw [hx] at e; exact ⟨g, 0, Option.some.inj e.1⟩

/-- 's[:k]' of bytes. -/
theorem slice_head (A : Option Addr) (n c k : Nat) (hA : A = none → c = 0) (hp : ∀ x, A = some x → ∃ g o, x = ⟨g, o, none⟩) (hk : k ≤ c) :
    ∀ W, (Instr.slice 22 (.slice A n c) none (some (.int .i64 (k : Int))) none).run Tryz.prog W = .ok (.slice A k c) W := by
  intro W
  have hz : ∀ W, (Go.sizeOf 5).run Tryz.prog W = .ok 1 W := fun W => by kernel_rfl
  have ht' : Tryz.prog.underlying 22 = some (.slice (Tryz.prog.elem 22)) := by simp [Program.elem, Tryz.underlying22]
  have he : Tryz.prog.elem 22 = 5 := by simp [Program.elem, Tryz.underlying22]
  rw [run_slice_h W 22 _ _ _ ht' .i64 _ (by omega) (by omega), he, hz]
  cases A with
  | none =>
    have h0 := hA rfl
    subst h0
    have : k = 0 := by omega
    subst this
    simp [Result.andThen, sliced]
  | some x =>
    obtain ⟨g, o, rfl⟩ := hp x rfl
    simp [Result.andThen, sliced, Addr.add]

theorem Bs.head {w : World} {A : Option Addr} {l : List UInt8} (h : Bs w A l) (k : Nat) (hk : k ≤ l.length) : Bs w A (l.take k) := by
  intro j hj
  rw [List.length_take] at hj
  obtain ⟨b, off, hA, hlt, hc⟩ := h j (by omega)
  refine ⟨b, off, hA, hlt, ?_⟩
  rw [hc, List.getElem_take]

end Go.Proofs.YtkplfbhblbinaabGreatDoor

namespace Go.Proofs.YtkplfbhblbinaabGreatDoor
open Go.RowKit P
set_option linter.unusedVariables false
set_option maxRecDepth 100000

/-- 's[i:i+m]' of bytes. -/
theorem slice_mid (A : Option Addr) (n c i m : Nat) (w : World) (l : List UInt8) (hA : A = none → c = 0) (hp : ∀ a, A = some a → ∃ g o, a = ⟨g, o, none⟩) (hn : l.length = n) (hi : i + m ≤ n) (hc : n ≤ c) (hc9 : c ≤ 9223372036854775807) (hB : Bs w A l) :
    ∃ A', (∀ W, (Instr.slice 22 (.slice A n c) (some (.int .i64 (i : Int))) (some (.int .i64 ((i : Int) + (m : Int)))) none).run Tryz.prog W = .ok (.slice A' m (c - i)) W) ∧ Bs w A' ((l.drop i).take m) := by
  have hz : ∀ W, (Go.sizeOf 5).run Tryz.prog W = .ok 1 W := fun W => by kernel_rfl
  have ht' : Tryz.prog.underlying 22 = some (.slice (Tryz.prog.elem 22)) := by simp [Program.elem, Tryz.underlying22]
  have he : Tryz.prog.elem 22 = 5 := by simp [Program.elem, Tryz.underlying22]
  have htn : ((i : Int) + (m : Int)).toNat = i + m := by omega
  cases A with
  | none =>
    have h0 := hA rfl
    subst h0
    refine ⟨none, fun W => ?_, fun k hk => by rw [List.length_take, List.length_drop] at hk; omega⟩
    rw [run_slice_lh W 22 _ _ _ ht' .i64 .i64 _ _ (by omega) (by omega) (by omega), he, hz]
    have : i = 0 := by omega
    have : m = 0 := by omega
    subst i; subst m
    simp [Result.andThen, sliced]
  | some x =>
    obtain ⟨g, o, rfl⟩ := hp x rfl
    refine ⟨some (if c = i then ⟨g, o, none⟩ else ⟨g, o + i, none⟩), fun W => ?_, ?_⟩
    · rw [run_slice_lh W 22 _ _ _ ht' .i64 .i64 _ _ (by omega) (by omega) (by omega), he, hz]
      have hm : i + m - i = m := by omega
      by_cases h0 : c = i
      · simp [Result.andThen, sliced, h0, htn, hm]
      · by_cases h1 : i = 0
        · subst h1; simp [Result.andThen, sliced, Addr.add, h0]
        · simp [Result.andThen, sliced, Addr.add, h0, h1, htn, hm]
    · by_cases h0 : c = i
      · intro k hk
        rw [List.length_take, List.length_drop] at hk
        omega
      · rw [if_neg h0]
        exact Bs.sub hB i m

end Go.Proofs.YtkplfbhblbinaabGreatDoor

/-
  The draws' cursor: ropes, places of a rope: contracts. Own work.
-/
namespace Go.Proofs.YtkplfbhblbinaabGreatDoor
open Go.RowKit P
set_option linter.unusedVariables false

/-- Chunks that can be read, whatever becomes of what lies below base. -/
def Far (base : Nat) (w : World) (A : Option Addr) (L : List (List UInt8)) (c : Nat) : Prop :=
  L.length ≤ c ∧ c ≤ maxLen ∧ ∀ w' : World, (∀ k, base ≤ k → k < w.heap.size → w'.heap[k]? = w.heap[k]?) → w.heap.size ≤ w'.heap.size → Cs w' A L
theorem Far.keep {base : Nat} {w w' : World} {A : Option Addr} {L : List (List UInt8)} {c : Nat} (h : Far base w A L c) (hk : ∀ k, base ≤ k → k < w.heap.size → w'.heap[k]? = w.heap[k]?) (hs : w.heap.size ≤ w'.heap.size) : Far base w' A L c :=
  ⟨h.1, h.2.1, fun x hx hz => h.2.2 x (fun k h1 h2 => (hx k h1 (by omega)).trans (hk k h1 h2)) (by omega)⟩
theorem Far.only {base g : Nat} {w w' : World} {A : Option Addr} {L : List (List UInt8)} {c : Nat} (h : Far base w A L c) (hg : g < base) (ho : Only g w w') : Far base w' A L c := h.keep (fun k h1 h2 => ho.block k h2 (fun e => by injection e; omega)) ho.size
theorem Far.cs {base : Nat} {w : World} {A : Option Addr} {L : List (List UInt8)} {c : Nat} (h : Far base w A L c) : Cs w A L := h.2.2 w (fun _ _ _ => rfl) (Nat.le_refl _)
theorem Far.below {base : Nat} {w w' : World} {A : Option Addr} {L : List (List UInt8)} {c : Nat} (h : Far base w A L c) (hb : Below w.heap.size w w') : Far base w' A L c := h.keep (fun k _ h2 => hb.block k h2) hb.size
theorem Far.setNew {base : Nat} {w : World} {A : Option Addr} {L : List (List UInt8)} {c : Nat} (h : Far base w A L c) {b : Nat} (hb : b < base) (i : Nat) (u : Value) : Far base (w.setCell ⟨b, i, none⟩ u) A L c :=
  h.keep (fun k h1 _ => Below.heap_setCell w ⟨b, i, none⟩ u k (fun e => by simp at e; omega)) (by simp [World.setCell])
theorem Far.mono {base base' : Nat} {w : World} {A : Option Addr} {L : List (List UInt8)} {c : Nat} (h : Far base w A L c) (hb : base' ≤ base) : Far base' w A L c := ⟨h.1, h.2.1, fun x hx hz => h.2.2 x (fun k h1 h2 => hx k (by omega) h2) hz⟩
theorem Blk.only {g b : Nat} {w w' : World} {cs : Array Value} {t : TypeId} (h : Blk w b cs t) (ho : Only g w w') (hb : b ≠ g) : Blk w' b cs t := h.of_block (ho.block b h.lt (fun e => hb (by injection e)))

theorem chunksOf_len (l : List UInt8) : (chunksOf l).length ≤ 400 ∧ ∀ x ∈ chunksOf l, x.length ≤ 401 := by
  have h := chunksOf_ok l
  refine ⟨chunksOk_len h, fun x hx => ?_⟩
  obtain ⟨k, hk, rfl⟩ := List.mem_iff_getElem.1 hx
  have h1 := tot_mem (ls := chunksOf l) k hk
  have h2 := chunksOk_tot h
  omega

theorem Only.setNew {g : Nat} {a w : World} (h : Only g a w) {b : Nat} (hb : a.heap.size ≤ b) (i : Nat) (u : Value) : Only g a (w.setCell ⟨b, i, none⟩ u) :=
  ⟨h.os, h.tape, h.output, by simpa [World.setCell] using h.size, fun k hk hne => (Below.heap_setCell w ⟨b, i, none⟩ u k (fun e => by simp at e; omega)).trans (h.block k hk hne)⟩
theorem Lay.set {α : Type} (L : Lay α) {w : World} {cs : List Value} {x : α} {fp : List Nat} (h : L.ow w cs x fp) {b : Nat} (hb : b ∉ fp) (i : Nat) (u : Value) : L.ow (w.setCell ⟨b, i, none⟩ u) cs x fp :=
  L.kept h (fun k hk => Below.heap_setCell _ _ _ _ (fun e => hb (by simp at e; exact e ▸ hk))) (by simp [World.setCell])
theorem Blk.setFar {w : World} {b d : Nat} {cs : Array Value} {t : TypeId} (h : Blk w b cs t) (hne : b ≠ d) (i : Nat) (u : Value) : Blk (w.setCell ⟨d, i, none⟩ u) b cs t := h.of_block (Below.heap_setCell w ⟨d, i, none⟩ u b (fun e => hne (by simpa using e)))

theorem cutsOr_bd (l : List UInt8) : (cutsOr l).length ≤ l.length + 1 ∧ ∀ x ∈ cutsOr l, x ≤ l.length := by
  unfold cutsOr cuts
  split
  · refine ⟨by have := List.length_filter_le (fun k : Nat => isBound l k) (List.range (l.length + 1)); simpa using this, fun x hx => ?_⟩
    have := List.mem_range.1 (List.mem_filter.1 hx).1
    omega
  · simp

theorem OwnN.only {w w' : World} {g base : Nat} {v : Value} {l : List Nat} (h : OwnN w base v l) (ho : Only g w w') (hb : g < base) : OwnN w' base v l := by
  refine World.ownsRow.kept (w' := w') (row := some g) h ho ?_
  cases hv : v.ownBlock with
  | none => exact .inl rfl
  | some k => exact .inr (fun e => by injection e with e; have := (World.ownsRow.lt h k hv).1; omega)

end Go.Proofs.YtkplfbhblbinaabGreatDoor

/-
  Chapter 5's draws: an edit of a text. Own work.
  Chapter 5's draws: an edit of a text, mostly one that fits. Own work.
  The draw of EditBack; sameEdit, bytesOf: contracts. Own work.
-/
namespace Go.Proofs.YtkplfbhblbinaabGreatDoor
open Go.RowKit P
set_option linter.unusedVariables false
set_option linter.unusedSimpArgs false
set_option maxRecDepth 100000

theorem wrap64_bd (x : Int) : -9223372036854775808 ≤ wrap64 x ∧ wrap64 x ≤ 9223372036854775807 := by
  rw [← IntWalk.i64_left, IntKind.wrap_i64]
  omega
/-- A block's cells are what they are, the cursor's block apart. -/
theorem EBox.only {g b : Nat} {w w' : World} {a m : Int} {A : Option Addr} {n c : Nat} (h : EBox w b a m A n c) (ho : Only g w w') (hb : b ≠ g) : EBox w' b a m A n c := ⟨h.blk.only ho hb⟩
theorem EBox.f (i : Nat) {w : World} {b : Nat} {a m : Int} {A : Option Addr} {n c : Nat} (h : EBox w b a m A n c) : w.frozen? ⟨b, i, none⟩ = false := h.blk.frozen i
theorem EBox.set1 {w : World} {b : Nat} {a m : Int} {A : Option Addr} {n c : Nat} (h : EBox w b a m A n c) (x : Int) : EBox (w.setCell ⟨b, 1, none⟩ (.int .i64 x)) b a x A n c := ⟨by simpa using h.blk.set 1 (.int .i64 x)⟩
theorem EBox.set0 {w : World} {b : Nat} {a m : Int} {A : Option Addr} {n c : Nat} (h : EBox w b a m A n c) (x : Int) : EBox (w.setCell ⟨b, 0, none⟩ (.int .i64 x)) b x m A n c := ⟨by simpa using h.blk.set 0 (.int .i64 x)⟩
theorem EBox.set2 {w : World} {b : Nat} {a m : Int} {A : Option Addr} {n c : Nat} (h : EBox w b a m A n c) (B : Option Addr) (k d : Nat) : EBox (w.setCell ⟨b, 2, none⟩ (.slice B k d)) b a m B k d := ⟨by simpa using h.blk.set 2 (.slice B k d)⟩

end Go.Proofs.YtkplfbhblbinaabGreatDoor

namespace Go.Proofs.YtkplfbhblbinaabGreatDoor
open Go.RowKit P
set_option linter.unusedVariables false
set_option linter.unusedSimpArgs false
set_option maxRecDepth 100000

theorem own_zeros (w : World) (n : Nat) (hn : n ≤ 1000) : Own (w.alloc (.cells (madeCells #[.int .u8 0] n) 5)) w.heap.size (.slice (some ⟨w.heap.size, 0, none⟩) n n) (List.replicate n 0) := by
  have h : Row (w.alloc (.cells (madeCells #[.int .u8 0] n) 5)) w.heap.size (List.replicate n (0 : UInt8)) := by
    unfold Row
    rw [List.length_replicate]
    exact (World.rowIs_made w (.int .u8 0) n 5).congr (by intro j hj; simp [List.getD_eq_getElem?_getD, List.getElem?_replicate, hj])
  have := h.own w.heap.size (Nat.le_refl _) (by rw [List.length_replicate]; unfold maxLen; omega)
  rw [List.length_replicate] at this
  exact this

end Go.Proofs.YtkplfbhblbinaabGreatDoor

namespace Go.Proofs.YtkplfbhblbinaabGreatDoor
open Go.RowKit P
set_option linter.unusedVariables false
set_option linter.unusedSimpArgs false
set_option maxRecDepth 100000

/-- What a draw of a text and an edit ends in. -/
def DrawsTE (w : World) (e : Ending) (w' : World) : Prop :=
  ∃ A l c a m B p d, e = .returned (.tuple #[.slice A l.length c, .agg #[.int .i64 a, .int .i64 m, .slice B p.length d]]) ∧ l.length ≤ 401 ∧ l.length ≤ c ∧ c ≤ 9223372036854775807 ∧ Pl A c ∧ Bs w' A l ∧
    (-9223372036854775808 ≤ a ∧ a ≤ 9223372036854775807) ∧ (-9223372036854775808 ≤ m ∧ m ≤ 9223372036854775807) ∧ p.length ≤ 500 ∧ p.length ≤ d ∧ d ≤ 9223372036854775807 ∧ Pl B d ∧ Bs w' B p ∧ Below w.heap.size w w'

end Go.Proofs.YtkplfbhblbinaabGreatDoor

/-
  Lists of edits in memory: reading, owning, drawn. Own work.
-/
namespace Go.Proofs.YtkplfbhblbinaabGreatDoor
open Go.RowKit P
set_option linter.unusedVariables false
set_option linter.unusedSimpArgs false
set_option maxRecDepth 100000

/-- The slice of edits that starts at A. -/
def Es (w : World) (A : Option Addr) (es : List Ed) : Prop := Sl 3 Lay.edit.rd w A es
theorem Es.below {w w' : World} {A : Option Addr} {es : List Ed} (h : Es w A es) (hb : Below w.heap.size w w') : Es w' A es := Sl.below (E := Lay.edit) h hb
theorem Es.at_ {w : World} {A : Option Addr} {es : List Ed} (h : Es w A es) (k : Nat) (hk : k < es.length) :
    ∃ b off a m B p d, A = some ⟨b, off, none⟩ ∧ b < w.heap.size ∧ es[k] = (a, m, p) ∧ w.cell? ⟨b, off + k * 3, none⟩ = some (.int .i64 a) ∧ w.cell? ⟨b, off + k * 3 + 1, none⟩ = some (.int .i64 m) ∧ w.cell? ⟨b, off + k * 3 + 2, none⟩ = some (.slice B p.length d) ∧
      (-9223372036854775808 ≤ a ∧ a ≤ 9223372036854775807) ∧ (-9223372036854775808 ≤ m ∧ m ≤ 9223372036854775807) ∧ p.length ≤ d ∧ d ≤ maxLen ∧ Bs w B p := by
  obtain ⟨b, off, us, hA, hlt, hus, hc, hr⟩ := h k hk
  obtain ⟨⟨a, m, p⟩, he⟩ : ∃ e, es[k] = e := ⟨_, rfl⟩
  rw [he] at hr
  obtain ⟨c1, c2, rfl, ⟨rfl, ha⟩, c3, c4, rfl, ⟨rfl, hm⟩, B, d, rfl, h1, h2, hB⟩ := hr
  refine ⟨b, off, a, m, B, p, d, hA, hlt, he, ?_, ?_, ?_, ha, hm, h1, h2, hB⟩
  · have := hc 0 (by simp); simpa using this
  · have := hc 1 (by simp); simpa [Nat.add_assoc] using this
  · have := hc 2 (by simp); simpa [Nat.add_assoc] using this

theorem Tryz.infoEd : (Tryz.prog.info? 70).map (fun i => (i.zero, i.size, i.bytes)) = some (some (.agg #[.int .i64 0, .int .i64 0, .slice none 0 0]), 3, 40) := by kernel_rfl

def Lay.edits : Lay (List Ed) := Lay.slice 70 Lay.edit

theorem Only.grownE {g : Nat} {a w w' : World} {v : Value} {l : List Ed} {fp : List Nat} (h : Only g a w) (how : Lay.edits.ow w [v] l fp) (hg : w.grownBy w' v.ownBlock) (hb : ∀ k ∈ fp, a.heap.size ≤ k) : Only g a w' :=
  ⟨hg.os.trans h.os, hg.tape.trans h.tape, hg.output.trans h.output, Nat.le_trans h.size hg.size, fun k hk hne => (hg.block k (Nat.lt_of_lt_of_le hk h.size) (fun e => by
      obtain ⟨es, _, _, _, e2⟩ := ow_one how
      have := hb k (by rw [e2, ← e]; simp)
      omega)).trans (h.block k hk hne)⟩
/-- An edit of the call's own. -/
theorem own_edit {w : World} {base : Nat} {v : Value} {p : List UInt8} {a m : Int} (ha : -9223372036854775808 ≤ a ∧ a ≤ 9223372036854775807) (hm : -9223372036854775808 ≤ m ∧ m ≤ 9223372036854775807) (h : Own w base v p) :
    Lay.edit.ow w [.int .i64 a, .int .i64 m, v] (a, m, p) v.ownBlock.toList :=
  ⟨[.int .i64 a], [.int .i64 m, v], [], v.ownBlock.toList, rfl, ⟨rfl, ha, rfl⟩, ⟨[.int .i64 m], [v], [], v.ownBlock.toList, rfl, ⟨rfl, hm, rfl⟩, h.ow, rfl⟩, rfl⟩

theorem cell_new3 {w : World} {t : TypeId} {x y z : Value} : ∀ j u, ([x, y, z] : List Value)[j]? = some u → (w.alloc (.cells #[x, y, z] t)).cell? ((⟨w.heap.size, 0, none⟩ : Addr).add j) = some u := by
  intro j u hu
  rw [add_plain, Nat.zero_add]
  have h := (Blk.new w #[x, y, z] t).cell j
  rw [h]
  match j, hu with
  | 0, hu => simpa using hu
  | 1, hu => simpa using hu
  | 2, hu => simpa using hu
end Go.Proofs.YtkplfbhblbinaabGreatDoor

/-
  Chapter 7, the laws' marks on leases: contracts. Own work.
-/
namespace Go.Proofs.YtkplfbhblbinaabGreatDoor
open Go.RowKit P
set_option linter.unusedVariables false
set_option linter.unusedSimpArgs false
set_option maxRecDepth 100000

theorem szLeaseS_b (A : Option Addr) (es : List Le) (c : Nat) (left : Int) (w : World) (hn : es.length ≤ 9223372036854775807) (h0 : 0 ≤ left) (h1 : left ≤ 1048576) (hE : Ll w A es) :
    Calls Tryz.prog 35 #[.slice A es.length c, .int .i64 left] w fun e w' => (∃ r : Int, e = .returned (.int .i64 r) ∧ (r < 0 ∨ (0 ≤ r ∧ r + es.length = left))) ∧ Below w.heap.size w w' :=
  (szLeaseS_any A es.length c left w hn h0 h1).mono fun e w' ⟨h, e2⟩ => ⟨h, by rw [e2]; exact Below.refl _ _⟩

/-- The leases es in the cells of block g. -/
def RowL (w : World) (g : Nat) (es : List Le) : Prop := ∃ cur, Blk w g cur 77 ∧ es.length * 4 ≤ cur.size ∧ ∀ i (h : i < es.length),
  cur[i * 4]? = some (.int .i64 es[i].1) ∧ cur[i * 4 + 1]? = some (.int .i64 es[i].2.1) ∧ cur[i * 4 + 2]? = some (.int .i64 es[i].2.2.1) ∧ cur[i * 4 + 3]? = some (.int .i64 es[i].2.2.2)

theorem RowL.below {w w' : World} {g : Nat} {es : List Le} (h : RowL w g es) (hb : Below w.heap.size w w') : RowL w' g es := by
  obtain ⟨cur, hc, r⟩ := h
  exact ⟨cur, hc.below hb, r⟩
theorem RowL.cells {w : World} {g : Nat} {es : List Le} (h : RowL w g es) (i : Nat) (hi : i < es.length) :
    w.cell? ⟨g, i * 4, none⟩ = some (.int .i64 es[i].1) ∧ w.cell? ⟨g, i * 4 + 1, none⟩ = some (.int .i64 es[i].2.1) ∧ w.cell? ⟨g, i * 4 + 2, none⟩ = some (.int .i64 es[i].2.2.1) ∧ w.cell? ⟨g, i * 4 + 3, none⟩ = some (.int .i64 es[i].2.2.2) := by
  obtain ⟨cur, hc, hs, hv⟩ := h
  obtain ⟨h0, h1, h2, h3⟩ := hv i hi
  exact ⟨(hc.cell _).trans h0, (hc.cell _).trans h1, (hc.cell _).trans h2, (hc.cell _).trans h3⟩
theorem RowL.lt {w : World} {g : Nat} {es : List Le} (h : RowL w g es) : g < w.heap.size := by
  obtain ⟨cur, hc, _⟩ := h
  exact hc.lt
theorem RowL.frozen {w : World} {g : Nat} {es : List Le} (h : RowL w g es) (i : Nat) : w.frozen? ⟨g, i, none⟩ = false := by
  obtain ⟨cur, hc, _⟩ := h
  exact hc.frozen i
theorem RowL.ll {w : World} {g : Nat} {es : List Le} (h : RowL w g es) (hin : ∀ l ∈ es, leIn l) : Ll w (some ⟨g, 0, none⟩) es := by
  intro k hk
  obtain ⟨h0, h1, h2, h3⟩ := h.cells k hk
  have hm := hin _ (List.getElem_mem hk)
  refine ⟨g, 0, (leC es[k]).toList, rfl, h.lt, rfl, fun j hj => ?_, ?_⟩
  · have hj4 : j < 4 := hj
    rw [Nat.zero_add]
    match j, hj4 with
    | 0, _ => exact h0
    | 1, _ => exact h1
    | 2, _ => exact h2
    | 3, _ => exact h3
  · exact Lay.lease.read (own_lease w hm)
theorem RowL.set4 {w : World} {g : Nat} {es : List Le} (h : RowL w g es) (i : Nat) (hi : i < es.length) (a b c d : Int) :
    RowL ((((w.setCell ⟨g, i * 4, none⟩ (.int .i64 a)).setCell ⟨g, i * 4 + 1, none⟩ (.int .i64 b)).setCell ⟨g, i * 4 + 2, none⟩ (.int .i64 c)).setCell ⟨g, i * 4 + 3, none⟩ (.int .i64 d)) g (es.set i (a, b, c, d)) := by
  obtain ⟨cur, hc, hs, hv⟩ := h
  refine ⟨_, (((hc.set (i * 4) (.int .i64 a)).set (i * 4 + 1) (.int .i64 b)).set (i * 4 + 2) (.int .i64 c)).set (i * 4 + 3) (.int .i64 d), by simpa using hs, fun j hj => ?_⟩
  rw [List.length_set] at hj
  simp only [Array.getElem?_setIfInBounds, Array.size_setIfInBounds]
  by_cases e : j = i
  · subst e
    have hl : j * 4 + 3 < cur.size := by omega
    simp [show ¬ j * 4 + 3 = j * 4 by omega, hl, show j * 4 < cur.size by omega, show j * 4 + 1 < cur.size by omega, show j * 4 + 2 < cur.size by omega]
  · rw [List.getElem_set_ne (fun h => e h.symm)]
    have h9 := hv j hj
    refine ⟨?_, ?_, ?_, ?_⟩
    · rw [if_neg (by omega), if_neg (by omega), if_neg (by omega), if_neg (by omega)]; exact h9.1
    · rw [if_neg (by omega), if_neg (by omega), if_neg (by omega), if_neg (by omega)]; exact h9.2.1
    · rw [if_neg (by omega), if_neg (by omega), if_neg (by omega), if_neg (by omega)]; exact h9.2.2.1
    · rw [if_neg (by omega), if_neg (by omega), if_neg (by omega), if_neg (by omega)]; exact h9.2.2.2

/-- A list of leases of the call's own lies in one block. -/
theorem rowL_of {w : World} {base : Nat} {A : Option Addr} {es : List Le} {c : Nat} {fp : List Nat} (h : OwL w base A es c fp) : es = [] ∨ ∃ g, A = some ⟨g, 0, none⟩ ∧ fp = [g] ∧ RowL w g es ∧ ∀ l ∈ es, leIn l := by
  obtain ⟨els, hl, hrow, hes, hfp⟩ := ow_one h.ow
  rcases hrow.2 with ⟨hv, h0⟩ | ⟨g, cap, cur, hv, _, hh, hnc, hcm, hcs, htk⟩
  · left
    rw [hl, List.eq_nil_of_length_eq_zero h0]; rfl
  right
  simp only [Value.slice.injEq] at hv
  obtain ⟨rfl, hn, rfl⟩ := hv
  have hlen : ∀ e ∈ els, (e.1 : List Value).length = 4 := fun e he => by rw [(ow_lease (hes e he)).1]; rfl
  have hf0 : els.flatMap (·.2.2) = [] := by
    rw [List.flatMap_eq_nil_iff]
    exact fun e he => (ow_lease (hes e he)).2.2
  have hsz : Lay.lease.sz = 4 := rfl
  rw [hsz] at hcs htk
  refine ⟨g, rfl, by rw [hfp, hf0]; simp [Value.ownBlock], ⟨cur, hh, by rw [hn]; omega, fun i hi => ?_⟩, fun l hm => ?_⟩
  · have hi2 : i < els.length := by rw [← hn]; exact hi
    have hei : es[i] = els[i].2.1 := by simp [hl]
    have hc1 := (ow_lease (hes _ (List.getElem_mem hi2))).1
    have hgt : ∀ j (hj : j < 4), cur[i * 4 + j]? = some ((leC es[i])[j]'hj) := by
      intro j hj
      have h9 := flat_get 4 els (·.1) hlen i hi2 j (by simp only [hc1]; exact hj)
      rw [← htk, List.getElem?_take] at h9
      split at h9
      · simp only [Array.getElem?_toList] at h9
        rw [h9]
        congr 1
        simp only [hc1, hei]
        rfl
      · omega
    exact ⟨hgt 0 (by decide), hgt 1 (by decide), hgt 2 (by decide), hgt 3 (by decide)⟩
  · rw [hl] at hm
    obtain ⟨e, he, rfl⟩ := List.mem_map.1 hm
    exact (ow_lease (hes e he)).2.1

/-- What a mark leaves. -/
def mk4 (k i : Nat) : Le := (((k + 4 * i : Nat) : Int), ((k + 4 * i + 1 : Nat) : Int), ((k + 4 * i + 2 : Nat) : Int), ((k + 4 * i + 3 : Nat) : Int))
def marksL (k n : Nat) : List Le := (List.range n).map (mk4 k)
theorem marksL_length (k n : Nat) : (marksL k n).length = n := by unfold marksL; simp
theorem marksL_get (k n i : Nat) (h : i < n) : (marksL k n)[i]'(by rw [marksL_length]; exact h) = mk4 k i := by unfold marksL; simp
theorem marksL_in {k n : Nat} (hk : k ≤ 2200000) (hn : n ≤ 1100000) : ∀ l ∈ marksL k n, leIn l := by
  intro l hl
  obtain ⟨i, hi, rfl⟩ := List.mem_map.1 hl
  have := List.mem_range.1 hi
  unfold leIn isI mk4
  simp only
  omega
theorem marksL_step (k : Nat) (es : List Le) (j : Nat) (hj : j < es.length) : (marksL k j ++ es.drop j).set j (mk4 k j) = marksL k (j + 1) ++ es.drop (j + 1) := by
  rw [List.drop_eq_getElem_cons hj, List.set_append_right _ _ (by rw [marksL_length]; omega), marksL_length, Nat.sub_self, List.set_cons_zero]
  unfold marksL
  rw [List.range_succ, List.map_append]
  simp

set_option maxHeartbeats 4000000 in
theorem markLeaseS_any (A : Option Addr) (c : Nat) (es : List Le) (fp : List Nat) (base k : Nat) (w : World) (hk : k ≤ 2200000) (hl : es.length ≤ 1100000) (h : OwL w base A es c fp) :
    Calls Tryz.prog 62 #[.slice A es.length c, .int .i64 (k : Int)] w fun e w' => e = .returned (.int .i64 ((k + 4 * es.length : Nat) : Int)) ∧ Ll w' A (marksL k es.length) ∧ Keeps fp w w' := by
  rcases rowL_of h with rfl | ⟨g, rfl, rfl, hrow, _⟩
  · go_enter Tryz.func62, Tryz.ntmps62
    go_wp2
    go_loopw [1, 5] (fun kk i wr => kk = .int .i64 (k : Int) ∧ i = .int .i64 0 ∧ wr = w) (fun _ _ _ => 0)
    case atStart => exact ⟨rfl, rfl, rfl⟩
    case round =>
      obtain ⟨rfl, rfl, rfl⟩ := hrel
      go_wp2
      go_ret
      exact ⟨by simp, Sl.nil _ _ _ _, Keeps.refl _ _⟩
  · clear h
    go_enter Tryz.func62, Tryz.ntmps62
    go_wp2
    go_loopw [1, 5] (fun kk i wr => ∃ j : Nat, j ≤ es.length ∧ i = .int .i64 j ∧ kk = .int .i64 ((k + 4 * j : Nat) : Int) ∧ RowL wr g (marksL k j ++ es.drop j) ∧ Keeps [g] w wr) (fun _ i _ => es.length - (intOf i).toNat)
    case atStart => exact ⟨0, Nat.zero_le _, rfl, rfl, by simpa [marksL] using hrow, Keeps.refl _ _⟩
    case round =>
      obtain ⟨j, hj, rfl, rfl, hr, hke⟩ := hrel
      by_cases hlt : j < es.length
      · have hll : j < (marksL k j ++ es.drop j).length := by rw [List.length_append, marksL_length, List.length_drop]; omega
        obtain ⟨u0, u1, u2, u3⟩ := hr.cells j hll
        have f0 := hr.frozen (j * 4)
        have f1 := hr.frozen (j * 4 + 1)
        have f2 := hr.frozen (j * 4 + 2)
        have f3 := hr.frozen (j * 4 + 3)
        have hnew := hr.set4 j hll ((k + 4 * j : Nat) : Int) ((k + 4 * j + 1 : Nat) : Int) ((k + 4 * j + 2 : Nat) : Int) ((k + 4 * j + 3 : Nat) : Int)
        rw [show ((((k + 4 * j : Nat) : Int), ((k + 4 * j + 1 : Nat) : Int), ((k + 4 * j + 2 : Nat) : Int), ((k + 4 * j + 3 : Nat) : Int)) : Le) = mk4 k j from rfl, marksL_step k es j hlt] at hnew
        have hkn := (((hke.put (List.mem_singleton.2 rfl) (j * 4) (.int .i64 ((k + 4 * j : Nat) : Int))).put (List.mem_singleton.2 rfl) (j * 4 + 1) (.int .i64 ((k + 4 * j + 1 : Nat) : Int))).put (List.mem_singleton.2 rfl) (j * 4 + 2) (.int .i64 ((k + 4 * j + 2 : Nat) : Int))).put (List.mem_singleton.2 rfl) (j * 4 + 3) (.int .i64 ((k + 4 * j + 3 : Nat) : Int))
        have HN := Lib.hid hnew
        have HK := Lib.hid hkn
        generalize (marksL k j ++ es.drop j)[j] = o at *
        clear hnew hkn hr hke hll
        go_wp2
        go_roundw
        case rel => exact ⟨j + 1, by omega, by go_num, by go_num, HN.out, HK.out⟩
        case measure => simp [intOf]; omega
      · have e : j = es.length := by omega
        subst e
        rw [List.drop_length, List.append_nil] at hr
        go_wp2
        go_ret
        exact ⟨rfl, hr.ll (marksL_in hk hl), hke⟩

set_option maxHeartbeats 4000000 in
theorem heldLeaseS_any (A : Option Addr) (n c k : Nat) (w : World) (hk : k ≤ 2200000) (hn : n ≤ 1100000) (h : Ll w A (marksL k n)) :
    Calls Tryz.prog 73 #[.slice A n c, .int .i64 (k : Int)] w fun e w' => e = .returned (.int .i64 ((k + 4 * n : Nat) : Int)) ∧ w' = w := by
  go_enter Tryz.func73, Tryz.ntmps73
  go_wp2
  go_loopw [1, 5] (fun kk i wr => ∃ j : Nat, j ≤ n ∧ i = .int .i64 j ∧ kk = .int .i64 ((k + 4 * j : Nat) : Int) ∧ wr = w) (fun _ i _ => n - (intOf i).toNat)
  case atStart => exact ⟨0, Nat.zero_le _, rfl, rfl, rfl⟩
  case round =>
    obtain ⟨j, hj, rfl, rfl, rfl⟩ := hrel
    by_cases hlt : j < n
    · obtain ⟨b, off, x, y, s, t, rfl, hbl, hek, k0, k1, k2, k3, hin⟩ := h.at_ j (by rw [marksL_length]; exact hlt)
      rw [marksL_get k n j hlt] at hek
      unfold mk4 at hek
      simp only [Prod.mk.injEq] at hek
      obtain ⟨rfl, rfl, rfl, rfl⟩ := hek
      clear hin
      go_wp2
      go_roundw
      case rel => exact ⟨j + 1, by omega, by go_num, by go_num, trivial⟩
      case measure => simp [intOf]; omega
    · have e : j = n := by omega
      subst e
      go_wp2
      go_ret
      exact ⟨rfl, rfl⟩
end Go.Proofs.YtkplfbhblbinaabGreatDoor

/-
  What all laws of this seat share: the arguments opened, the table, a world for the witness. Own work.
-/
namespace Go.Proofs.YtkplfbhblbinaabGreatDoor
open Go.ChangeShapes Go.WideShapes Go.ChangeAt Go.RowKit P
set_option linter.unusedVariables false

theorem gTab : Tryz.prog.globalNamed "loop.example/g00677/impl.leadMarks" = some 0 := by kernel_rfl
theorem gTabType : (Tryz.prog.globals[0]?).map (·.type) = some 189 := by kernel_rfl
theorem cellsArr : Tryz.prog.cellsOf 189 = 5 := by kernel_rfl
theorem cellsU8 : Tryz.prog.cellsOf 5 = 1 := by kernel_rfl

theorem tab_of {W : World} (h : laidMetH Tryz.prog [("loop.example/g00677/impl.leadMarks", Rows.laid_loop_example_g00677_impl_leadMarks)] W) : Tab W := by
  have t : Lib.TabIs Tryz.prog W "loop.example/g00677/impl.leadMarks" .u8 [0, 0, 192, 224, 240] := Lib.tabIs_of_head (rest := []) gTab gTabType Tryz.underlying189 Tryz.underlying5 cellsU8 cellsArr h
  have c0 := t.cell gTab 0 (by decide)
  exact ⟨World.block_lt_of_cell? W _ c0, c0, t.cell gTab 1 (by decide), t.cell gTab 2 (by decide), t.cell gTab 3 (by decide), t.cell gTab 4 (by decide)⟩

/-- A world for the witness: the settled one, the table holding what its initialiser lays. -/
noncomputable def laidWorld (os : Os) : World :=
  { World.holding Tryz.prog os ⟨#[], #[], []⟩ with heap := (World.holding Tryz.prog os ⟨#[], #[], []⟩).heap.modify 0 fun
      | .cells _ t frozen => .cells #[.int .u8 0, .int .u8 0, .int .u8 192, .int .u8 224, .int .u8 240] t frozen
      | o => o }

end Go.Proofs.YtkplfbhblbinaabGreatDoor

/-
  Chapter 7: lists of leases of the call's own: append, clone, cut, clear. Own work.
-/
namespace Go.Proofs.YtkplfbhblbinaabGreatDoor
open Go.RowKit P
set_option linter.unusedVariables false
set_option linter.unusedSimpArgs false
set_option maxRecDepth 100000

def leCl (l : Le) : List Value := (leC l).toList
theorem leCl_length (l : Le) : (leCl l).length = 4 := rfl
theorem leCl_flat (es : List Le) : (es.flatMap leCl).length = es.length * 4 := flat_len 4 es leCl (fun e _ => rfl)
theorem leCl_get (es : List Le) (k : Nat) (hk : k < es.length) (j : Nat) (hj : j < 4) : (es.flatMap leCl)[k * 4 + j]? = (leCl es[k])[j]? := by
  have h := flat_get 4 es leCl (fun e _ => rfl) k hk j (by rw [leCl_length]; exact hj)
  rw [h, List.getElem?_eq_getElem]
theorem leCl_one (es : List Le) : ∀ u ∈ es.flatMap leCl, u.oneCell' = true := by
  intro u hu
  obtain ⟨l, _, hu⟩ := List.mem_flatMap.1 hu
  unfold leCl leC at hu
  simp at hu
  rcases hu with rfl | rfl | rfl | rfl <;> rfl

/-- A slice of the call's own (from block base on, or nil) that holds the leases es. -/
structure OwR (w : World) (base : Nat) (v : Value) (es : List Le) : Prop where
  row : w.ownsRow base 77 4 v es.length (es.flatMap leCl)
  in_ : ∀ l ∈ es, leIn l
theorem OwR.below {w w' : World} {base : Nat} {v : Value} {es : List Le} (h : OwR w base v es) (hb : Below w.heap.size w w') : OwR w' base v es :=
  ⟨World.ownsRow.kept (w' := w') (row := none) h.row ⟨hb.os, hb.tape, hb.output, hb.size, fun k hk _ => hb.block k hk⟩ (by cases hv : v.ownBlock <;> simp), h.in_⟩
theorem OwR.mono {w : World} {base base' : Nat} {v : Value} {es : List Le} (h : OwR w base v es) (hb : base' ≤ base) : OwR w base' v es := by
  refine ⟨⟨h.row.1, ?_⟩, h.in_⟩
  rcases h.row.2 with h2 | ⟨g, cap, cur, hv, hg, r⟩
  · exact .inl h2
  · exact .inr ⟨g, cap, cur, hv, by omega, r⟩
theorem OwR.nil (w : World) (base : Nat) : OwR w base (.slice none 0 0) [] := ⟨World.ownsRow_nil w base _ _, by simp⟩
theorem OwR.empty (w : World) : OwR (w.alloc (.cells #[] 77)) w.heap.size (.slice (some ⟨w.heap.size, 0, none⟩) 0 0) [] :=
  ⟨World.ownsRow_made w #[] 0 (Nat.le_refl _) (by unfold maxLen; omega) rfl, by simp⟩
theorem OwR.owL {w : World} {base : Nat} {v : Value} {es : List Le} (h : OwR w base v es) : ∃ A c, v = .slice A es.length c ∧ OwL w base A es c v.ownBlock.toList := by
  have h0 := h.mono (Nat.zero_le base)
  have how : Lay.leases.ow w [v] es v.ownBlock.toList := by
    refine ⟨v, es.map (fun l => (leCl l, l, [])), rfl, by rw [List.map_map]; exact (List.map_id es).symm, ?_, ?_, ?_⟩
    · rw [List.length_map, List.flatMap_map]; exact h0.row
    · intro e he
      obtain ⟨l, hl, rfl⟩ := List.mem_map.1 he
      exact own_lease w (h.in_ l hl)
    · rw [List.flatMap_map]
      have : es.flatMap (fun _ => ([] : List Nat)) = [] := by simp
      rw [this, List.append_nil]
  obtain ⟨A, c, e, _, _, _⟩ := Lay.leases.read how
  simp only [List.cons.injEq, and_true] at e
  subst e
  exact ⟨A, c, rfl, how, by cases (Value.slice A es.length c).ownBlock <;> simp, fun k hk => (World.ownsRow.lt h.row k (by simpa using hk)).1⟩
theorem OwR.gives {w w' : World} {v : Value} {es : List Le} (h : OwR w' w.heap.size v es) (hb : Below w.heap.size w w') : Gives Lay.leases wSlice es w (.returned v) w' := by
  obtain ⟨A, c, rfl, hw⟩ := h.owL
  exact ⟨[.slice A es.length c], _, rfl, hw.ow, hw.nd, hw.lo, hb⟩
theorem OwR.ll {w : World} {base : Nat} {v : Value} {es : List Le} (h : OwR w base v es) : ∃ A c, v = .slice A es.length c ∧ es.length ≤ c ∧ c ≤ maxLen ∧ Ll w A es := by
  obtain ⟨A, c, rfl, hw⟩ := h.owL
  exact ⟨A, c, rfl, hw.cap.1, hw.cap.2, hw.ll⟩

theorem Ll.in_ {w : World} {A : Option Addr} {es : List Le} (h : Ll w A es) : ∀ l ∈ es, leIn l := by
  intro l hl
  obtain ⟨k, hk, rfl⟩ := List.getElem_of_mem hl
  obtain ⟨b, off, i, j, s, t, _, _, he, _, _, _, _, hin⟩ := h.at_ k hk
  rw [he]
  exact hin
theorem Ll.cells {w : World} {b off : Nat} {es : List Le} (h : Ll w (some ⟨b, off, none⟩) es) : ∀ j u, (es.flatMap leCl)[j]? = some u → w.cell? ((⟨b, off, none⟩ : Addr).add j) = some u := by
  intro j u hu
  have hj : j < es.length * 4 := by
    have := (List.getElem?_eq_some_iff.1 hu).1
    rw [leCl_flat] at this
    exact this
  obtain ⟨b', off', x, y, s, t, e, _, he, k0, k1, k2, k3, _⟩ := h.at_ (j / 4) (by omega)
  cases e
  have hg := leCl_get es (j / 4) (by omega) (j % 4) (by omega)
  rw [show j / 4 * 4 + j % 4 = j by omega, hu, he] at hg
  rw [add_plain]
  have h4 : j % 4 = 0 ∨ j % 4 = 1 ∨ j % 4 = 2 ∨ j % 4 = 3 := by omega
  rcases h4 with h4 | h4 | h4 | h4
  · rw [h4] at hg; rw [show off + j = off + j / 4 * 4 by omega, k0]; exact hg.symm
  · rw [h4] at hg; rw [show off + j = off + j / 4 * 4 + 1 by omega, k1]; exact hg.symm
  · rw [h4] at hg; rw [show off + j = off + j / 4 * 4 + 2 by omega, k2]; exact hg.symm
  · rw [h4] at hg; rw [show off + j = off + j / 4 * 4 + 3 by omega, k3]; exact hg.symm

theorem run_app_le {w : World} {base : Nat} {v : Value} {es r : List Le} {A : Option Addr} (c n : Nat) (ty : TypeId) (hn : n = r.length) (hown : OwR w base v es) (hr : Ll w A r)
    (hlen : es.length + r.length ≤ 1000000) (hbase : base ≤ w.heap.size) :
    ∃ v' w', (Builtin.append_ #[32, 32] ty #[v, .slice A n c]).run Tryz.prog w = .ok v' w' ∧ OwR w' base v' (es ++ r) ∧ w.grownBy w' v.ownBlock ∧
      (v'.ownBlock = v.ownBlock ∨ v'.ownBlock = some w.heap.size) := by
  subst hn
  obtain ⟨i, hi, hz, hs, hb⟩ := info_parts Tryz.infoLe
  have hin : ∀ l ∈ es ++ r, leIn l := fun l hl => (List.mem_append.1 hl).elim (hown.in_ l) (hr.in_ l)
  cases A with
  | none =>
    have h0 : r = [] := by
      cases r with
      | nil => rfl
      | cons x t => obtain ⟨b, off, _, e, _⟩ := hr 0 (by simp); cases e
    subst h0
    refine ⟨v, w, ?_, by simpa using hown, World.grownBy.refl w _, .inl rfl⟩
    rcases hown.row.2 with ⟨rfl, h1⟩ | ⟨g, cap, cur, rfl, _, _, hnc, _⟩
    · simp [Builtin.append_, run_underlying Tryz.underlying32, sizeOf, typeInfo, hi, Builtin.lenOf, Builtin.firstCells]
    · simp [Builtin.append_, run_underlying Tryz.underlying32, sizeOf, typeInfo, hi, Builtin.lenOf, Builtin.firstCells, hnc, storeCells]
  | some a =>
    have hcells : ∀ j u, (r.flatMap leCl)[j]? = some u → w.cell? (a.add j) = some u := by
      intro j u hu
      have hr0 : 0 < r.length := by
        rcases Nat.eq_zero_or_pos r.length with h | h
        · rw [List.eq_nil_of_length_eq_zero h] at hu; cases hu
        · exact h
      obtain ⟨b, off, _, _, _, _, e, _⟩ := hr.at_ 0 hr0
      cases e
      exact hr.cells j u hu
    obtain ⟨v', w', hrun, h2, h3, _, h5⟩ := run_append_own_at (P := Tryz.prog) w base 32 ty 77 i _ 4 32 Tryz.underlying32 hi hz hs hb rfl (by omega) v es.length (es.flatMap leCl) hown.row a r.length c (r.flatMap leCl)
      (leCl_flat r) hcells (leCl_one r) (by unfold maxLen; omega) (by omega) hbase
    refine ⟨v', w', hrun, ⟨?_, hin⟩, h3, h5⟩
    rw [List.length_append, List.flatMap_append]
    exact h2

theorem wpList_app_le {ops : Array Oper} {rest : List Oper} {o : Oper} {a : Act} {w : World} {Q : Exit → Act → World → Prop} (hgd : Region.wanted o (yielded ops a.tmps) = true) (s x : Operand)
    (ho : o.op = .call { callee := .builtin .append, args := #[s, x], argTypes := #[32, 32] })
    (base : Nat) (v : Value) (es r : List Le) (A : Option Addr) (n c : Nat) (hs : a.eval s = v) (hx : a.eval x = .slice A n c) (hn : n = r.length) (hown : OwR w base v es) (hr : Ll w A r)
    (hlen : es.length + r.length ≤ 1000000) (hbase : base ≤ w.heap.size)
    (h : ∀ v' w', OwR w' base v' (es ++ r) → w.grownBy w' v.ownBlock → (v'.ownBlock = v.ownBlock ∨ v'.ownBlock = some w.heap.size) → wpList Tryz.prog ops Q rest (a.put o.dst v') w') : wpList Tryz.prog ops Q (o :: rest) a w := by
  refine BigFrame.wpList_want hgd fun K hK => ?_
  obtain ⟨v', w', hrun, h2, h3, h4⟩ := run_app_le c n o.type hn hown hr hlen hbase
  unfold Oper.wp execOp
  simp only [ho, resolve, invoke, builtin, Sem.run_bind, Sem.run_pure, Result.andThen_ok, List.map_toArray, List.map_cons, List.map_nil, hs, hx, hrun]
  exact hK _ _ (h v' w' h2 h3 h4)

theorem step_app_le {w : World} {ops : Array Oper} {o : Oper} {a : Act} {K : Act → World → Prop} {Q : Exit → Act → World → Prop} {X : Prop} (hgd : o.guard = none) (s x : Operand)
    (ho : o.op = .call { callee := .builtin .append, args := #[s, x], argTypes := #[32, 32] })
    (base : Nat) (v : Value) (es r : List Le) (A : Option Addr) (n c : Nat) (hs : a.eval s = v) (hx : a.eval x = .slice A n c) (hn : n = r.length) (hown : OwR w base v es) (hr : Ll w A r)
    (hlen : es.length + r.length ≤ 1000000) (hbase : base ≤ w.heap.size)
    (h : ∀ v' w', OwR w' base v' (es ++ r) → w.grownBy w' v.ownBlock → (v'.ownBlock = v.ownBlock ∨ v'.ownBlock = some w.heap.size) → K (a.put o.dst v') w') :
    if Region.wanted o (yielded ops a.tmps) = true then Oper.wp Tryz.prog o a w K Q else X := by
  obtain ⟨v', w', hrun, h2, h3, h4⟩ := run_app_le c n o.type hn hown hr hlen hbase
  have hw : Region.wanted o (yielded ops a.tmps) = true := by simp [Region.wanted, hgd]
  rw [if_pos hw]
  unfold Oper.wp execOp
  simp only [ho, resolve, invoke, builtin, Sem.run_bind, Sem.run_pure, Result.andThen_ok, List.map_toArray, List.map_cons, List.map_nil, hs, hx, hrun]
  exact h v' w' h2 h3 h4

end Go.Proofs.YtkplfbhblbinaabGreatDoor

/-
  Chapter 6, selections that are valid: contracts of the model and of the program. Own work.
-/
namespace Go.Proofs.YtkplfbhblbinaabGreatDoor
namespace P
def selOk (t : List UInt8) (f g : Int) : Bool := cutOk t f && cutOk t g
end P
open Go.RowKit P
set_option linter.unusedVariables false
set_option linter.unusedSimpArgs false
set_option maxRecDepth 100000

set_option maxHeartbeats 2000000 in
theorem specSelOk_any (A : Option Addr) (l : List UInt8) (c : Nat) (f g : Int) (w : World) (hl : l.length ≤ c) (hc9 : c ≤ 9223372036854775807) (hA : Bs w A l) :
    Calls Tryz.prog 41 #[.slice A l.length c, .agg #[.int .i64 f, .int .i64 g]] w fun e w' => e = .returned (.bool (selOk l f g)) ∧ Below w.heap.size w w' := by
  have hal := (Below.refl w.heap.size w).alloc (Nat.le_refl _) (.cells #[.int .i64 f, .int .i64 g] 52)
  have bS := Blk.new w #[.int .i64 f, .int .i64 g] 52
  obtain ⟨q1, h1⟩ : ∃ q, cutOk l f = q := ⟨_, rfl⟩
  obtain ⟨q2, h2⟩ : ∃ q, cutOk l g = q := ⟨_, rfl⟩
  rw [show selOk l f g = (q1 && q2) by rw [← h1, ← h2]; rfl]
  have H1 := Lib.hid h1
  have H2 := Lib.hid h2
  clear h1 h2
  go_enter Tryz.func41, Tryz.ntmps41
  go_wp2_with fail
  generalize w.alloc (.cells #[.int .i64 f, .int .i64 g] 52) = W1 at *
  refine (specCutOk_any A l c f _ hl hc9 (by exact hA.below hal)).mono ?_
  rintro e w2 ⟨rfl, hb⟩
  rw [H1.out]
  have bS := bS.below hb
  have hal := below_then hal hb
  clear hb
  cases q1
  · go_wp2
    go_ret
    exact ⟨rfl, hal⟩
  have s0 := bS.cell 0
  have s1 := bS.cell 1
  go_wp2_with fail
  refine (specCutOk_any A l c g _ hl hc9 (by exact hA.below hal)).mono ?_
  rintro e w3 ⟨rfl, hb⟩
  rw [H2.out]
  have hal := below_then hal hb
  go_wp2
  go_ret
  exact ⟨rfl, hal⟩

set_option maxHeartbeats 2000000 in
theorem implSelOk_any (A : Option Addr) (l : List UInt8) (c : Nat) (f g : Int) (w : World) (hl : l.length ≤ c) (hc9 : c ≤ 9223372036854775807) (hT : Tab w) (hA : Bs w A l) :
    Calls Tryz.prog 98 #[.slice A l.length c, .agg #[.int .i64 f, .int .i64 g]] w fun e w' => e = .returned (.bool (selOk l f g)) ∧ Below w.heap.size w w' := by
  have hal := (Below.refl w.heap.size w).alloc (Nat.le_refl _) (.cells #[.int .i64 f, .int .i64 g] 52)
  have bS := Blk.new w #[.int .i64 f, .int .i64 g] 52
  obtain ⟨q1, h1⟩ : ∃ q, cutOk l f = q := ⟨_, rfl⟩
  obtain ⟨q2, h2⟩ : ∃ q, cutOk l g = q := ⟨_, rfl⟩
  rw [show selOk l f g = (q1 && q2) by rw [← h1, ← h2]; rfl]
  have H1 := Lib.hid h1
  have H2 := Lib.hid h2
  clear h1 h2
  go_enter Tryz.func98, Tryz.ntmps98
  go_wp2_with fail
  generalize w.alloc (.cells #[.int .i64 f, .int .i64 g] 52) = W1 at *
  refine (cutOk_any A l c f _ hl hc9 (by exact hT.below hal) (by exact hA.below hal)).mono ?_
  rintro e w2 ⟨rfl, n, rfl⟩
  rw [H1.out]
  have hb := below_drewN (Below.refl W1.heap.size W1) n
  have bS := bS.below hb
  have hal := below_then hal hb
  generalize W1.drewN n = w2 at *
  clear hb
  cases q1
  · go_wp2
    go_ret
    exact ⟨rfl, hal⟩
  have s0 := bS.cell 0
  have s1 := bS.cell 1
  go_wp2_with fail
  refine (cutOk_any A l c g _ hl hc9 (by exact hT.below hal) (by exact hA.below hal)).mono ?_
  rintro e w3 ⟨rfl, n3, rfl⟩
  rw [H2.out]
  have hal := below_drewN hal n3
  go_wp2
  go_ret
  exact ⟨rfl, hal⟩
end Go.Proofs.YtkplfbhblbinaabGreatDoor

/-
  Rows of edits of the call's own whose puts lie in memory that is read only: append, and what they read as. Own work.
-/
namespace Go.Proofs.YtkplfbhblbinaabGreatDoor
open Go.RowKit P
set_option linter.unusedVariables false
set_option linter.unusedSimpArgs false
set_option maxRecDepth 100000

/-- A row of the call's own that holds the edits l, each read in the world W0. -/
def OwnR (W0 w : World) (base : Nat) (v : Value) (l : List Ed) : Prop :=
  ∃ L : List (List Value × Ed), l = L.map (·.2) ∧ w.ownsRow base 70 3 v L.length (L.flatMap (·.1)) ∧ ∀ e ∈ L, Lay.edit.rd W0 e.1 e.2
theorem OwnR.below {W0 w w' : World} {base : Nat} {v : Value} {l : List Ed} (h : OwnR W0 w base v l) (hb : Below w.heap.size w w') : OwnR W0 w' base v l := by
  obtain ⟨L, e, h1, h2⟩ := h
  exact ⟨L, e, World.ownsRow.kept (w' := w') (row := none) h1 ⟨hb.os, hb.tape, hb.output, hb.size, fun k hk _ => hb.block k hk⟩ (by cases hv : v.ownBlock <;> simp), h2⟩
theorem OwnR.nil (W0 w : World) (base : Nat) : OwnR W0 w base (.slice none 0 0) [] := ⟨[], rfl, World.ownsRow_nil w base _ _, by simp⟩
theorem OwnR.empty (W0 w : World) : OwnR W0 (w.alloc (.cells #[] 70)) w.heap.size (.slice (some ⟨w.heap.size, 0, none⟩) 0 0) [] :=
  ⟨[], rfl, World.ownsRow_made w #[] 0 (Nat.le_refl _) (by unfold maxLen; omega) rfl, by simp⟩
theorem OwnR.lt {W0 w : World} {base : Nat} {v : Value} {l : List Ed} (h : OwnR W0 w base v l) : ∀ x ∈ v.ownBlock, base ≤ x ∧ x < w.heap.size := by
  obtain ⟨L, e, h1, h2⟩ := h
  exact fun x hx => World.ownsRow.lt h1 x hx
theorem OwnR.es {W0 w : World} {base : Nat} {v : Value} {l : List Ed} (h : OwnR W0 w base v l) (hb : Below W0.heap.size W0 w) : ∃ A c, v = .slice A l.length c ∧ l.length ≤ c ∧ c ≤ maxLen ∧ Es w A l := by
  obtain ⟨L, rfl, h1, h2⟩ := h
  have hlen : ∀ e ∈ L, (e.1 : List Value).length = 3 := fun e he => Lay.edit.len (h2 e he)
  obtain ⟨A, c, rfl, h3, h4, h5⟩ := ownsRow_form h1
  refine ⟨A, c, by simp, by simpa using h3, h4, fun k hk => ?_⟩
  rw [List.length_map] at hk
  have hfl := flat_len 3 L (·.1) hlen
  have hek := h2 L[k] (List.getElem_mem hk)
  have hlk := hlen L[k] (List.getElem_mem hk)
  obtain ⟨b, hA, hbl, _⟩ := h5 (k * 3) (by rw [hfl]; omega)
  refine ⟨b, 0, L[k].1, hA, hbl, hlk, fun j hj => ?_, by rw [List.getElem_map]; exact Lay.edit.below hek hb⟩
  have hg := flat_get 3 L (·.1) hlen k hk j hj
  obtain ⟨hi, hv⟩ := List.getElem?_eq_some_iff.1 hg
  obtain ⟨b', hA', _, hc⟩ := h5 (k * 3 + j) hi
  rw [hA] at hA'
  cases hA'
  rw [Nat.zero_add, hc, hv]

theorem chooseL {α : Type} {Q : Nat → α → Prop} : ∀ n, (∀ i, i < n → ∃ d, Q i d) → ∃ l : List α, l.length = n ∧ ∀ i (h : i < l.length), Q i l[i] := by
  intro n
  induction n with
  | zero => intro _; exact ⟨[], rfl, fun i h => by simp at h⟩
  | succ n ih =>
    intro h
    obtain ⟨l, hl, hq⟩ := ih (fun i hi => h i (by omega))
    obtain ⟨d, hd⟩ := h n (by omega)
    refine ⟨l ++ [d], by simp [hl], fun i hi => ?_⟩
    by_cases e : i < l.length
    · rw [List.getElem_append_left e]; exact hq i e
    · have : i = n := by simp at hi; omega
      subst this
      rw [List.getElem_append_right (by omega)]
      simpa [hl] using hd

/-- The cells of a list of edits that is read. -/
theorem es_cells {w : World} {A : Option Addr} {r : List Ed} (h : Es w A r) : ∃ L : List (List Value × Ed), r = L.map (·.2) ∧ (∀ e ∈ L, Lay.edit.rd w e.1 e.2) ∧ ∀ a, A = some a → ∀ j u, (L.flatMap (·.1))[j]? = some u → w.cell? (a.add j) = some u ∧ a.block < w.heap.size ∧ a.spot = none := by
  obtain ⟨L, hl, hq⟩ := chooseL (Q := fun i (d : List Value × Ed) => ∃ (hi : i < r.length), d.2 = r[i] ∧ Lay.edit.rd w d.1 d.2 ∧ ∀ a, A = some a → ∀ j (hj : j < d.1.length), w.cell? (a.add (i * 3 + j)) = some d.1[j] ∧ a.block < w.heap.size ∧ a.spot = none) r.length (fun i hi => by
    obtain ⟨b, off, us, hA, hlt, hus, hc, hr⟩ := h i hi
    refine ⟨(us, r[i]), hi, rfl, hr, fun a ha j hj => ?_⟩
    rw [hA] at ha
    cases ha
    refine ⟨?_, hlt, rfl⟩
    rw [add_plain]
    exact hc j hj)
  have hrd : ∀ e ∈ L, Lay.edit.rd w e.1 e.2 := fun e he => by
    obtain ⟨i, hi, rfl⟩ := List.getElem_of_mem he
    exact (hq i hi).2.2.1
  have hlen : ∀ e ∈ L, (e.1 : List Value).length = 3 := fun e he => Lay.edit.len (hrd e he)
  refine ⟨L, ?_, hrd, fun a ha j u hu => ?_⟩
  · apply List.ext_getElem
    · rw [List.length_map]; exact hl.symm
    · intro i h1 h2
      rw [List.getElem_map]
      exact (hq i (by rw [hl]; exact h1)).2.1.symm
  · have hfl := flat_len 3 L (·.1) hlen
    have hj : j < L.length * 3 := by rw [← hfl]; exact (List.getElem?_eq_some_iff.1 hu).1
    have hk : j / 3 < L.length := by omega
    have hl3 := hlen L[j / 3] (List.getElem_mem hk)
    have hg := flat_get 3 L (·.1) hlen (j / 3) hk (j % 3) (by rw [hl3]; omega)
    rw [show j / 3 * 3 + j % 3 = j by omega, hu] at hg
    obtain ⟨_, _, _, h4⟩ := hq (j / 3) hk
    have h5 := h4 a ha (j % 3) (by rw [hl3]; omega)
    rw [show j / 3 * 3 + j % 3 = j by omega] at h5
    rw [hg]
    exact h5

theorem run_app_R {W0 w : World} {base : Nat} {v : Value} {l : List Ed} {L2 : List (List Value × Ed)} (a : Addr) (c n : Nat) (ty : TypeId) (hn : n = L2.length) (hown : OwnR W0 w base v l) (hrd : ∀ e ∈ L2, Lay.edit.rd W0 e.1 e.2)
    (hcells : ∀ j u, (L2.flatMap (·.1))[j]? = some u → w.cell? (a.add j) = some u) (hlen : l.length + L2.length ≤ 1000000) (hbase : base ≤ w.heap.size) :
    ∃ v' w', (Builtin.append_ #[44, 44] ty #[v, .slice (some a) n c]).run Tryz.prog w = .ok v' w' ∧ OwnR W0 w' base v' (l ++ L2.map (·.2)) ∧ w.grownBy w' v.ownBlock ∧
      (v'.ownBlock = v.ownBlock ∨ v'.ownBlock = some w.heap.size) := by
  subst hn
  obtain ⟨i, hi, hz, hs, hb⟩ := info_parts Tryz.infoEd
  obtain ⟨L, rfl, hrow, hes⟩ := hown
  rw [List.length_map] at hlen
  have hl3 : ∀ e ∈ L2, (e.1 : List Value).length = 3 := fun e he => Lay.edit.len (hrd e he)
  have hone : ∀ u ∈ L2.flatMap (·.1), u.oneCell' = true := fun u hu => by
    obtain ⟨e, he, hu⟩ := List.mem_flatMap.1 hu
    exact Lay.edit.one (hrd e he) u hu
  have hmul : (L.length + L2.length) * 40 ≤ 140737488355328 := by omega
  obtain ⟨v', w', hrun, h2, h3, _, h5⟩ := run_append_own_at (P := Tryz.prog) w base 44 ty 70 i _ 3 40 Tryz.underlying44 hi hz hs hb rfl (by omega) v L.length (L.flatMap (·.1)) hrow a L2.length c (L2.flatMap (·.1))
    (flat_len 3 L2 (·.1) hl3) hcells hone (by unfold maxLen; omega) hmul hbase
  refine ⟨v', w', hrun, ⟨L ++ L2, by simp, ?_, fun e he => (List.mem_append.1 he).elim (hes e) (hrd e)⟩, h3, h5⟩
  rw [List.length_append, List.flatMap_append]
  exact h2

theorem wpList_app_R {W0 : World} {ops : Array Oper} {rest : List Oper} {o : Oper} {a : Act} {w : World} {Q : Exit → Act → World → Prop} (hgd : Region.wanted o (yielded ops a.tmps) = true) (s x : Operand)
    (ho : o.op = .call { callee := .builtin .append, args := #[s, x], argTypes := #[44, 44] })
    (base : Nat) (v : Value) (l : List Ed) (L2 : List (List Value × Ed)) (ad : Addr) (n c : Nat) (hs : a.eval s = v) (hx : a.eval x = .slice (some ad) n c) (hn : n = L2.length) (hown : OwnR W0 w base v l) (hrd : ∀ e ∈ L2, Lay.edit.rd W0 e.1 e.2)
    (hcells : ∀ j u, (L2.flatMap (·.1))[j]? = some u → w.cell? (ad.add j) = some u) (hlen : l.length + L2.length ≤ 1000000) (hbase : base ≤ w.heap.size)
    (h : ∀ v' w', OwnR W0 w' base v' (l ++ L2.map (·.2)) → w.grownBy w' v.ownBlock → (v'.ownBlock = v.ownBlock ∨ v'.ownBlock = some w.heap.size) → wpList Tryz.prog ops Q rest (a.put o.dst v') w') : wpList Tryz.prog ops Q (o :: rest) a w := by
  refine BigFrame.wpList_want hgd fun K hK => ?_
  obtain ⟨v', w', hrun, h2, h3, h4⟩ := run_app_R ad c n o.type hn hown hrd hcells hlen hbase
  unfold Oper.wp execOp
  simp only [ho, resolve, invoke, builtin, Sem.run_bind, Sem.run_pure, Result.andThen_ok, List.map_toArray, List.map_cons, List.map_nil, hs, hx, hrun]
  exact hK _ _ (h v' w' h2 h3 h4)

theorem step_app_R {W0 w : World} {ops : Array Oper} {o : Oper} {a : Act} {K : Act → World → Prop} {Q : Exit → Act → World → Prop} {X : Prop} (hgd : o.guard = none) (s x : Operand)
    (ho : o.op = .call { callee := .builtin .append, args := #[s, x], argTypes := #[44, 44] })
    (base : Nat) (v : Value) (l : List Ed) (L2 : List (List Value × Ed)) (ad : Addr) (n c : Nat) (hs : a.eval s = v) (hx : a.eval x = .slice (some ad) n c) (hn : n = L2.length) (hown : OwnR W0 w base v l) (hrd : ∀ e ∈ L2, Lay.edit.rd W0 e.1 e.2)
    (hcells : ∀ j u, (L2.flatMap (·.1))[j]? = some u → w.cell? (ad.add j) = some u) (hlen : l.length + L2.length ≤ 1000000) (hbase : base ≤ w.heap.size)
    (h : ∀ v' w', OwnR W0 w' base v' (l ++ L2.map (·.2)) → w.grownBy w' v.ownBlock → (v'.ownBlock = v.ownBlock ∨ v'.ownBlock = some w.heap.size) → K (a.put o.dst v') w') :
    if Region.wanted o (yielded ops a.tmps) = true then Oper.wp Tryz.prog o a w K Q else X := by
  obtain ⟨v', w', hrun, h2, h3, h4⟩ := run_app_R ad c n o.type hn hown hrd hcells hlen hbase
  have hw : Region.wanted o (yielded ops a.tmps) = true := by simp [Region.wanted, hgd]
  rw [if_pos hw]
  unfold Oper.wp execOp
  simp only [ho, resolve, invoke, builtin, Sem.run_bind, Sem.run_pure, Result.andThen_ok, List.map_toArray, List.map_cons, List.map_nil, hs, hx, hrun]
  exact h v' w' h2 h3 h4
/-- One edit that is read in W0, in its cells. -/
theorem rd_edit {W0 : World} {a m : Int} {B : Option Addr} {p : List UInt8} {d : Nat} (ha : -9223372036854775808 ≤ a ∧ a ≤ 9223372036854775807) (hm : -9223372036854775808 ≤ m ∧ m ≤ 9223372036854775807) (h1 : p.length ≤ d) (h2 : d ≤ maxLen) (hB : Bs W0 B p) :
    Lay.edit.rd W0 [.int .i64 a, .int .i64 m, .slice B p.length d] (a, m, p) :=
  ⟨[.int .i64 a], [.int .i64 m, .slice B p.length d], rfl, ⟨rfl, ha⟩, [.int .i64 m], [.slice B p.length d], rfl, ⟨rfl, hm⟩, B, d, rfl, h1, h2, hB⟩

/-- Append of a whole list that lies in W0. -/
theorem run_app_Es {W0 w : World} {base : Nat} {v : Value} {l r : List Ed} {A : Option Addr} (c n : Nat) (ty : TypeId) (hn : n = r.length) (hown : OwnR W0 w base v l) (hr : Es W0 A r) (hbw : Below W0.heap.size W0 w)
    (hlen : l.length + r.length ≤ 1000000) (hbase : base ≤ w.heap.size) :
    ∃ v' w', (Builtin.append_ #[44, 44] ty #[v, .slice A n c]).run Tryz.prog w = .ok v' w' ∧ OwnR W0 w' base v' (l ++ r) ∧ w.grownBy w' v.ownBlock ∧
      (v'.ownBlock = v.ownBlock ∨ v'.ownBlock = some w.heap.size) := by
  cases A with
  | none =>
    have h0 : r = [] := by
      cases r with
      | nil => rfl
      | cons x t => obtain ⟨b, off, _, e, _⟩ := hr 0 (by simp); cases e
    subst h0
    subst hn
    obtain ⟨i, hi, hz, hs, hb⟩ := info_parts Tryz.infoEd
    refine ⟨v, w, ?_, by simpa using hown, World.grownBy.refl w _, .inl rfl⟩
    obtain ⟨L, rfl, hrow, hes⟩ := hown
    rcases hrow.2 with ⟨rfl, h1⟩ | ⟨g, cap, cur, rfl, _, _, hnc, _⟩
    · simp [Builtin.append_, run_underlying Tryz.underlying44, sizeOf, typeInfo, hi, Builtin.lenOf, Builtin.firstCells]
    · simp [Builtin.append_, run_underlying Tryz.underlying44, sizeOf, typeInfo, hi, Builtin.lenOf, Builtin.firstCells, hnc, storeCells]
  | some a =>
    obtain ⟨L2, rfl, hrd, hc⟩ := es_cells hr
    rw [List.length_map] at hn hlen
    exact run_app_R a c n ty hn hown hrd (fun j u hu => by
      obtain ⟨h1, h2, h3⟩ := hc a rfl j u hu
      obtain ⟨b, off, sp⟩ := a
      simp only at h3
      subst h3
      rw [add_plain] at h1 ⊢
      exact (hbw.cell (p := ⟨b, off + j, none⟩) h2).trans h1) hlen hbase

theorem wpList_app_Es {W0 : World} {ops : Array Oper} {rest : List Oper} {o : Oper} {a : Act} {w : World} {Q : Exit → Act → World → Prop} (hgd : Region.wanted o (yielded ops a.tmps) = true) (s x : Operand)
    (ho : o.op = .call { callee := .builtin .append, args := #[s, x], argTypes := #[44, 44] })
    (base : Nat) (v : Value) (l r : List Ed) (A : Option Addr) (n c : Nat) (hs : a.eval s = v) (hx : a.eval x = .slice A n c) (hn : n = r.length) (hown : OwnR W0 w base v l) (hr : Es W0 A r) (hbw : Below W0.heap.size W0 w)
    (hlen : l.length + r.length ≤ 1000000) (hbase : base ≤ w.heap.size)
    (h : ∀ v' w', OwnR W0 w' base v' (l ++ r) → w.grownBy w' v.ownBlock → (v'.ownBlock = v.ownBlock ∨ v'.ownBlock = some w.heap.size) → wpList Tryz.prog ops Q rest (a.put o.dst v') w') : wpList Tryz.prog ops Q (o :: rest) a w := by
  refine BigFrame.wpList_want hgd fun K hK => ?_
  obtain ⟨v', w', hrun, h2, h3, h4⟩ := run_app_Es c n o.type hn hown hr hbw hlen hbase
  unfold Oper.wp execOp
  simp only [ho, resolve, invoke, builtin, Sem.run_bind, Sem.run_pure, Result.andThen_ok, List.map_toArray, List.map_cons, List.map_nil, hs, hx, hrun]
  exact hK _ _ (h v' w' h2 h3 h4)
end Go.Proofs.YtkplfbhblbinaabGreatDoor

/-
  slices.Grow and slices.Concat at edits: two lists, one behind the other. Own work, over the library's laws.
-/
namespace Go.Proofs.YtkplfbhblbinaabGreatDoor
open Go.RowKit P
set_option linter.unusedVariables false
set_option linter.unusedSimpArgs false
set_option maxRecDepth 100000

theorem ed_growNil_any (W0 : World) (n : Nat) (w : World) (hn : n ≤ 1000000) :
    Calls Tryz.prog 155 #[.slice none 0 0, .int .i64 (n : Int)] w fun e w' => ∃ v, e = .returned v ∧ OwnR W0 w' w.heap.size v [] ∧ Below w.heap.size w w' := by
  by_cases h0 : n = 0
  · subst h0
    refine (Any8.slices_Grow_room Tryz.growE none 0 0 0 w (by omega) (by omega) (by omega) (by omega)).mono ?_
    rintro e w' ⟨rfl, rfl⟩
    exact ⟨_, rfl, OwnR.nil _ _ _, Below.refl _ _⟩
  · obtain ⟨i, hi, hz, hs, hb⟩ := info_parts Tryz.infoEd
    refine (Any8.slices_Grow_grow Tryz.growE i (.agg #[.int .i64 0, .int .i64 0, .slice none 0 0]) hi hz (by omega) none 0 0 n [] w (by omega) (by omega) (by rw [hb]; omega) (by omega) (by simp) (fun _ => rfl) (fun a ha => by cases ha)).mono ?_
    rintro e w' ⟨rfl, rfl⟩
    refine ⟨_, rfl, ⟨[], rfl, ⟨rfl, .inr ⟨w.heap.size, _, _, rfl, Nat.le_refl _, heap_alloc_new w.drew _, Nat.zero_le _, ?_, ?_, ?_⟩⟩, by simp⟩, (below_of_drewN w 1).alloc (by simp) _⟩
    · exact grownCap_le_maxLen _ _ _ _ (by unfold maxLen; omega)
    · have := grownCap_ge w n 0 70
      rw [show (Tryz.growE_ren.t 25) = 70 from rfl]
      have e1 : ((.agg #[.int .i64 0, .int .i64 0, .slice none 0 0]) : Value).cells.size = 3 := rfl
      simp [Builtin.zeroCells, e1]
      omega
    · simp

set_option maxHeartbeats 4000000 in
theorem concatEd_any (A : Option Addr) (u : List Ed) (c : Nat) (B : Option Addr) (r : List Ed) (d g : Nat) (W0 w : World) (hu : u.length ≤ 100000) (hr : r.length ≤ 100000) (hU : Es W0 A u) (hR : Es W0 B r) (hb0 : Below W0.heap.size W0 w) (hB : Blk w g #[.slice A u.length c, .slice B r.length d] 44) :
    Calls Tryz.prog 131 #[.slice (some ⟨g, 0, none⟩) 2 2] w fun e w' => ∃ A' c', e = .returned (.slice A' (u ++ r).length c') ∧ (u ++ r).length ≤ c' ∧ c' ≤ maxLen ∧ Es w' A' (u ++ r) ∧ Below w.heap.size w w' := by
  have p0 : w.cell? ⟨g, 0, none⟩ = some (.slice A u.length c) := hB.cell 0
  have p1 : w.cell? ⟨g, 1, none⟩ = some (.slice B r.length d) := hB.cell 1
  have hw1 : IntKind.i64.wrap ((u.length : Int) + (r.length : Int)) = ((u.length + r.length : Nat) : Int) := by rw [IntWalk.i64_in _ ⟨by omega, by omega⟩]; omega
  have hn1 : ¬ ((u.length + r.length : Nat) : Int) < 0 := by omega
  have hn0 : ¬ (u.length : Int) < 0 := by omega
  have HBB := Lib.hid hB
  have HB0 := Lib.hid hb0
  clear hB hb0
  go_enter Tryz.func131, Tryz.ntmps131
  go_wp2
  go_loop [3, 11] (fun z i => ∃ k : Nat, k ≤ 2 ∧ i = .int .i64 k ∧ z = .int .i64 (((if k = 0 then 0 else if k = 1 then u.length else u.length + r.length : Nat) : Nat) : Int)) (fun _ i => 2 - (intOf i).toNat)
  case atStart => exact ⟨0, by omega, rfl, rfl⟩
  case round =>
    obtain ⟨k, hk, rfl, rfl⟩ := hrel
    have hk3 : k = 0 ∨ k = 1 ∨ k = 2 := by omega
    rcases hk3 with rfl | rfl | rfl
    · rw [if_pos rfl]
      go_wp2
      go_round
      case rel => exact ⟨1, by omega, by go_num, by simp⟩
      case measure => simp [intOf]
    · rw [if_neg (by omega), if_pos rfl]
      go_wp2
      go_round
      case rel => exact ⟨2, by omega, by go_num, by simp⟩
      case measure => simp [intOf]
    · rw [if_neg (by omega), if_neg (by omega)]
      go_wp2_with fail
      refine (ed_growNil_any W0 (u.length + r.length) _ (by omega)).mono ?_
      rintro e w1 ⟨v1, rfl, hown1, hb1⟩
      have HO1 := Lib.hid hown1
      have HB1 := Lib.hid hb1
      clear hown1 hb1
      go_wp2
      go_loopw [6, 27] (fun v i wr => ∃ k : Nat, k ≤ 2 ∧ i = .int .i64 k ∧ OwnR W0 wr w.heap.size v (if k = 0 then [] else if k = 1 then u else u ++ r) ∧ Below w.heap.size w wr) (fun _ i _ => 2 - (intOf i).toNat)
      case atStart => exact ⟨0, by omega, rfl, by simpa using HO1.out, HB1.out⟩
      case round =>
        obtain ⟨k, hk2, rfl, hown, hb⟩ := hrel
        have hbs := hb.size
        have hbw := below_then HB0.out hb
        have hBk := HBB.out.below hb
        have hk3 : k = 0 ∨ k = 1 ∨ k = 2 := by omega
        rcases hk3 with rfl | rfl | rfl
        · rw [if_pos rfl] at hown
          have q0 : wr.cell? ⟨g, 0, none⟩ = some (.slice A u.length c) := hBk.cell 0
          go_wp2_with (at_builtin; go_must (refine wpList_app_Es rfl _ _ rfl w.heap.size _ [] u A u.length c rfl rfl rfl hown hU hbw (by simp; omega) hbs ?_))
          intro v4 w4 hown4 hg4 _
          have hb4 := hb.grown hg4 hbs (fun x hx => (hown.lt x hx).1)
          go_wp2
          go_roundw
          case rel => exact ⟨1, by omega, by go_num, by simpa using hown4, hb4⟩
          case measure => simp [intOf]
        · rw [if_neg (by omega), if_pos rfl] at hown
          have q1 : wr.cell? ⟨g, 1, none⟩ = some (.slice B r.length d) := hBk.cell 1
          go_wp2_with (at_builtin; go_must (refine wpList_app_Es rfl _ _ rfl w.heap.size _ u r B r.length d rfl rfl rfl hown hR hbw (by omega) hbs ?_))
          intro v4 w4 hown4 hg4 _
          have hb4 := hb.grown hg4 hbs (fun x hx => (hown.lt x hx).1)
          go_wp2
          go_roundw
          case rel => exact ⟨2, by omega, by go_num, by simpa using hown4, hb4⟩
          case measure => simp [intOf]
        · rw [if_neg (by omega), if_neg (by omega)] at hown
          obtain ⟨A', c', rfl, h1, h2, h3⟩ := hown.es hbw
          go_wp2
          go_ret
          exact ⟨A', c', rfl, h1, h2, h3, hb⟩
end Go.Proofs.YtkplfbhblbinaabGreatDoor
