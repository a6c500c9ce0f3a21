/-
  Texts of one claim in one: Mark, Cur, C02, I02g, C02b, C04, EB, J07, Cl, Cat3. Own work.
-/
import Derived.Test.YtaekanhjkpoifaaGreatDoorRI01f
import Derived.Test.YtaekanhjkpoifaaGreatDoorRp0
import Derived.Test.YtaekanhjkpoifaaGreatDoorRp1
import Derived.Deep.RegionWith
import Derived.Deep.RegionHeld3

/-
 The laws' marks on a slice of bytes of the call's own: contracts. Own work.
-/
namespace Go.Proofs.YtaekanhjkpoifaaGreatDoor
open Go.RowKit P
set_option linter.unusedVariables false

theorem Own.set {w : World} {base g : Nat} {c : Nat} {l : List UInt8} (h : Own w base (.slice (some ⟨g, 0, none⟩) l.length c) l) (i : Nat) (hi : i < l.length) (b : UInt8) :
  Own (w.setCell ⟨g, i, none⟩ (bV b)) base (.slice (some ⟨g, 0, none⟩) l.length c) (l.set i b) := by
 obtain ⟨h1, h2⟩ := h
 refine ⟨by simp, ?_⟩
 rcases h2 with ⟨h3, _⟩ | ⟨g', cap, cur, hv, hb, hh, hn, hc, hs, ht⟩
 ·cases h3
 ·cases hv
  refine .inr ⟨g, c, cur.setIfInBounds i (bV b), by simp, hb, ?_, by simpa using hn, hc, by simpa using hs, ?_⟩
  ·simp [World.setCell, Array.getElem?_modify, hh]
  ·rw [Array.toList_setIfInBounds, List.length_set, Nat.mul_one, List.take_set, List.map_set]
   rw [Nat.mul_one] at ht
   rw [ht]

/-- n bytes from k on. -/
def marks (k : Nat) : Nat → List UInt8
 | 0 => []
 | n + 1 => UInt8.ofNat k :: marks (k + 1) n

theorem marks_length (k n : Nat) : (marks k n).length = n := by
 induction n generalizing k with
 | zero => rfl
 | succ n ih => simp [marks, ih]

theorem marks_snoc (k n : Nat) : marks k (n + 1) = marks k n ++ [UInt8.ofNat (k + n)] := by
 induction n generalizing k with
 | zero => rfl
 | succ n ih =>
  rw [marks, ih (k + 1)]
  simp only [marks, List.cons_append]
  congr 4
  omega

theorem marks_get (k n i : Nat) (hi : i < n) : (marks k n)[i]'(by rw [marks_length]; exact hi) = UInt8.ofNat (k + i) := by
 induction n generalizing k i with
 | zero => omega
 | succ n ih =>
  cases i with
  | zero => rfl
  | succ i =>
   simp only [marks, List.getElem_cons_succ]
   rw [ih (k + 1) i (by omega)]
   congr 1
   omega

theorem ofNat_marks (k n i : Nat) (hi : i < n) : (((marks k n)[i]'(by rw [marks_length]; exact hi)).toNat : Int) = ((k + i : Nat) : Int) % 256 := by
 rw [marks_get k n i hi, UInt8.toNat_ofNat']
 omega

set_option maxHeartbeats 800000 in
theorem heldByteS_any (A : Option Addr) (n c k : Nat) (w : World) (hk : k ≤ 2000000) (hn : n ≤ 2000000) (h : Bs w A (marks k n)) :
  Calls Tryz.prog 47 #[.slice A n c, .int .i64 k] w fun e w' => e = .returned (.int .i64 ((k + n : Nat) : Int)) ∧ w' = w := by
 go_enter Tryz.func47, Tryz.ntmps47
 go_wp2
 go_loop [1, 5] (fun kk i => ∃ j : Nat, j ≤ n ∧ i = .int .i64 j ∧ kk = .int .i64 ((k + j : Nat) : Int)) (fun _ i => n - (intOf i).toNat)
 case atStart => exact ⟨0, Nat.zero_le _, rfl, rfl⟩
 case round =>
  obtain ⟨j, hj, rfl, rfl⟩ := hrel
  by_cases hlt : j < n
  ·obtain ⟨b, off, rfl, hblt, hc⟩ := h j (by rw [marks_length]; exact hlt)
   rw [ofNat_marks k n j hlt] at hc
   go_wp2
   go_round
   case rel => exact ⟨j + 1, by omega, by go_num, by go_num⟩
   case measure => simp [intOf]; omega
  ·have e : j = n := by omega
   subst e
   go_wp2
   go_ret
   exact ⟨rfl, rfl⟩

end Go.Proofs.YtaekanhjkpoifaaGreatDoor

/-
 The draws' cursor: what holds of it, and its methods' contracts: what comes out is in range; nothing but the cursor has turned. Own work.
 The draws' cursor, its smaller methods: contracts. Own work.
 The draws' cursor: letters, places, texts: contracts. Own work.
 The draws' cursor: texts, texts with faults, and the draws of chapter 1: contracts. Own work.
 The draws' cursor: texts with faults, and the draws of chapter 1: contracts. Own work.
-/
namespace Go.Proofs.YtaekanhjkpoifaaGreatDoor
open Go.RowKit P
set_option linter.unusedVariables false

/-- From w to w' only block g has turned; what is new lies behind. -/
def Only (g : Nat) (w w' : World) : Prop := w.grownBy w' (some g)

theorem Only.refl (g : Nat) (w : World) : Only g w w := World.grownBy.refl w _
theorem Only.drewN {g : Nat} {a w : World} (h : Only g a w) (n : Nat) : Only g a (w.drewN n) := ⟨h.os, h.tape, h.output, h.size, h.block⟩
theorem Only.setCell {g : Nat} {a w : World} (h : Only g a w) (i : Nat) (u : Value) : Only g a (w.setCell ⟨g, i, none⟩ u) :=
 ⟨h.os, h.tape, h.output, by simpa [World.setCell] using h.size, fun k hk hne => (Below.heap_setCell w ⟨g, i, none⟩ u k (fun e => hne (by rw [e]))).trans (h.block k hk hne)⟩
theorem Only.trans {g : Nat} {a b c : World} (h : Only g a b) (k : Only g b c) : Only g a c :=
 ⟨k.os.trans h.os, k.tape.trans h.tape, k.output.trans h.output, Nat.le_trans h.size k.size, fun i hi hne => (k.block i (Nat.lt_of_lt_of_le hi h.size) hne).trans (h.block i hi hne)⟩
theorem Only.of_below {g : Nat} {a b : World} (h : Below a.heap.size a b) : Only g a b := ⟨h.os, h.tape, h.output, h.size, fun k hk _ => h.block k hk⟩
theorem Only.below {g : Nat} {a b : World} (h : Only g a b) (B : Nat) (hB : B ≤ g) (hs : B ≤ a.heap.size) : Below B a b := ⟨h.os, h.tape, h.output, h.size, fun k hk => h.block k (by omega) (fun e => by injection e; omega)⟩
theorem Only.bs {g : Nat} {w w' : World} {A : Option Addr} {l : List UInt8} (h : Only g w w') (hB : Bs w A l) (hne : ∀ b off, A = some ⟨b, off, none⟩ → 0 < l.length → b ≠ g) : Bs w' A l := by
 intro k hk
 obtain ⟨b, off, e, hlt, hc⟩ := hB k hk
 refine ⟨b, off, e, Nat.lt_of_lt_of_le hlt h.size, ?_⟩
 rw [World.cell?_of_block (w := w) (h.block b hlt (fun x => hne b off e (by omega) (by injection x)))]
 exact hc

end Go.Proofs.YtaekanhjkpoifaaGreatDoor

namespace Go.Proofs.YtaekanhjkpoifaaGreatDoor
open Go.RowKit P
set_option linter.unusedVariables false

/-- A row that was laid ahead of a draw reads as it was laid. -/
theorem Only.row {w1 w2 : World} {g : Nat} {cs : Array Value} {t : TypeId} (ho : Only g (w1.alloc (.cells cs t)) w2) (hg : g < w1.heap.size) (k : Nat) : w2.cell? ⟨w1.heap.size, k, none⟩ = cs[k]? := by
 have h := ho.block w1.heap.size (by simp) (fun e => by injection e; omega)
 rw [heap_alloc_new] at h
 exact cell_of_row w2 _ k cs t (0, 0) h

end Go.Proofs.YtaekanhjkpoifaaGreatDoor

namespace Go.Proofs.YtaekanhjkpoifaaGreatDoor
open Go.RowKit P
set_option linter.unusedVariables false

end Go.Proofs.YtaekanhjkpoifaaGreatDoor

namespace Go.Proofs.YtaekanhjkpoifaaGreatDoor
open Go.RowKit P
set_option linter.unusedVariables false

theorem Own.only {w w' : World} {g base : Nat} {v : Value} {l : List UInt8} (h : Own w base v l) (ho : Only g w w') (hb : g < base) : Own w' base v l := by
 refine World.ownsRow.kept (w' := w') (row := some g) h ho ?_
 cases hv : v.ownBlock with
 | none => exact .inl rfl
 | some k =>
  have := (World.ownsRow.lt h k hv).1
  right
  intro e
  injection e with e
  omega

/-- A row of the call's own has grown: of what was there before nothing has turned. -/
theorem Only.grown {g base : Nat} {a w w' : World} {v : Value} {l : List UInt8} (h : Only g a w) (hown : Own w base v l) (hg : w.grownBy w' v.ownBlock) (hb : a.heap.size ≤ base) : Only g a w' :=
 ⟨hg.os.trans h.os, hg.tape.trans h.tape, hg.output.trans h.output, Nat.le_trans h.size hg.size, fun k hk hne =>
  (hg.block k (Nat.lt_of_lt_of_le hk h.size) (fun e => by have := (World.ownsRow.lt hown k e.symm).1; omega)).trans (h.block k hk hne)⟩

end Go.Proofs.YtaekanhjkpoifaaGreatDoor

namespace Go.Proofs.YtaekanhjkpoifaaGreatDoor
open Go.RowKit P
set_option linter.unusedVariables false

/-- What a draw of bytes and a place ends in. -/
def DrawsP (w : World) (e : Ending) (w' : World) : Prop :=
 ∃ v l a, e = .returned (.tuple #[v, .int .i64 a]) ∧ Own w' w.heap.size v l ∧ l.length ≤ 401 ∧ -9223372036854775808 ≤ a ∧ a ≤ 9223372036854775807 ∧ Below w.heap.size w w'

end Go.Proofs.YtaekanhjkpoifaaGreatDoor

/-
 Chapter 2, the laws' helpers on chunks: contracts. Own work.
-/
namespace Go.Proofs.YtaekanhjkpoifaaGreatDoor
open Go.RowKit P
set_option linter.unusedVariables false

/-- What a reading of a slice of bytes gives. -/
theorem bRd_slice {w : World} {v : Value} {l : List UInt8} (h : bRd w [v] l) : ∃ A c, v = .slice A l.length c ∧ l.length ≤ c ∧ c ≤ maxLen ∧ Bs w A l := by
 obtain ⟨A, c, e, h⟩ := h
 cases e
 exact ⟨A, c, rfl, h⟩

/-- The slice of chunks that starts at A. -/
def Cs (w : World) (A : Option Addr) (ls : List (List UInt8)) : Prop := Sl 1 bRd w A ls
theorem Cs.below {w w' : World} {A : Option Addr} {ls : List (List UInt8)} (h : Cs w A ls) (hb : Below w.heap.size w w') : Cs w' A ls := Sl.below (E := Lay.bytes) h hb
theorem Cs.at_ {w : World} {A : Option Addr} {ls : List (List UInt8)} (h : Cs w A ls) (k : Nat) (hk : k < ls.length) :
  ∃ b off B c, A = some ⟨b, off, none⟩ ∧ b < w.heap.size ∧ w.cell? ⟨b, off + k, none⟩ = some (.slice B (ls[k]).length c) ∧ (ls[k]).length ≤ c ∧ c ≤ maxLen ∧ Bs w B ls[k] := by
 obtain ⟨b, off, v, hA, hb, hc, hr⟩ := Sl.at1 h k hk
 obtain ⟨B, c, rfl, h1, h2, h3⟩ := bRd_slice hr
 exact ⟨b, off, B, c, hA, hb, hc, h1, h2, h3⟩

def tot (ls : List (List UInt8)) : Nat := ls.flatten.length
theorem tot_take (ls : List (List UInt8)) (k : Nat) (h : k < ls.length) : tot (ls.take (k + 1)) = tot (ls.take k) + (ls[k]).length := by
 unfold tot; rw [flat_snoc ls k h, List.length_append]
theorem tot_all (ls : List (List UInt8)) : tot (ls.take ls.length) = tot ls := by rw [List.take_length]
theorem tot_mem {ls : List (List UInt8)} (k : Nat) (h : k < ls.length) : (ls[k]).length ≤ tot ls := by
 have h1 := tot_take ls k h
 have h2 : ls.flatten = (ls.take (k + 1)).flatten ++ (ls.drop (k + 1)).flatten := by rw [← List.flatten_append, List.take_append_drop]
 have h3 : tot ls = tot (ls.take (k + 1)) + tot (ls.drop (k + 1)) := by unfold tot; rw [← List.length_append, ← h2]
 omega

end Go.Proofs.YtaekanhjkpoifaaGreatDoor

/-
 Chapter 2, ChunksOf of the program: contracts. Own work.
-/
namespace Go.Proofs.YtaekanhjkpoifaaGreatDoor
open Go.RowKit P
set_option linter.unusedVariables false

end Go.Proofs.YtaekanhjkpoifaaGreatDoor

/-
 Chapter 2, the laws' helpers on slices of chunks: contracts, the second part. Own work.
 Chapter 2, the laws' marks on slices of chunks: contracts. Own work.
-/
namespace Go.Proofs.YtaekanhjkpoifaaGreatDoor
open Go.RowKit P
set_option linter.unusedVariables false

end Go.Proofs.YtaekanhjkpoifaaGreatDoor

namespace Go.Proofs.YtaekanhjkpoifaaGreatDoor
open Go.RowKit P
set_option linter.unusedVariables false

/-- The marks on chunks, from k on. -/
def marksC (k : Nat) : List (List UInt8) → List (List UInt8)
 | [] => []
 | l :: t => marks k l.length :: marksC (k + l.length) t

end Go.Proofs.YtaekanhjkpoifaaGreatDoor

/-
 Chapter 4, the laws' helpers on ropes: contracts. Own work.
-/
namespace Go.Proofs.YtaekanhjkpoifaaGreatDoor
open Go.RowKit P
set_option linter.unusedVariables false

end Go.Proofs.YtaekanhjkpoifaaGreatDoor

/-
 An edit that lies in a variable's block. Own work.
 Slices of slices of bytes: what the parts read as. Own work (kept beside chapter 4's, whose texts are long).
 append of bytes inside a region that draws its order: a step. Own work.
-/
namespace Go.Proofs.YtaekanhjkpoifaaGreatDoor
open Go.RowKit P
set_option linter.unusedVariables false

/-- The cells of an edit are there. -/
structure EBox (w : World) (b : Nat) (a m : Int) (A : Option Addr) (n c : Nat) : Prop where
 blk : Blk w b #[.int .i64 a, .int .i64 m, .slice A n c] 71
theorem EBox.new (w : World) (a m : Int) (A : Option Addr) (n c : Nat) : EBox (w.alloc (.cells #[.int .i64 a, .int .i64 m, .slice A n c] 71)) w.heap.size a m A n c := ⟨Blk.new w _ _⟩
theorem EBox.below {w w' : World} {b : Nat} {a m : Int} {A : Option Addr} {n c : Nat} (h : EBox w b a m A n c) (hb : Below w.heap.size w w') : EBox w' b a m A n c := ⟨h.blk.below hb⟩
theorem EBox.c0 {w : World} {b : Nat} {a m : Int} {A : Option Addr} {n c : Nat} (h : EBox w b a m A n c) : w.cell? ⟨b, 0, none⟩ = some (.int .i64 a) := h.blk.cell 0
theorem EBox.c1 {w : World} {b : Nat} {a m : Int} {A : Option Addr} {n c : Nat} (h : EBox w b a m A n c) : w.cell? ⟨b, 1, none⟩ = some (.int .i64 m) := h.blk.cell 1
theorem EBox.c2 {w : World} {b : Nat} {a m : Int} {A : Option Addr} {n c : Nat} (h : EBox w b a m A n c) : w.cell? ⟨b, 2, none⟩ = some (.slice A n c) := h.blk.cell 2
theorem EBox.lt {w : World} {b : Nat} {a m : Int} {A : Option Addr} {n c : Nat} (h : EBox w b a m A n c) : b < w.heap.size := h.blk.lt

end Go.Proofs.YtaekanhjkpoifaaGreatDoor

namespace Go.Proofs.YtaekanhjkpoifaaGreatDoor
open Go.RowKit P
set_option linter.unusedVariables false
set_option maxRecDepth 100000

theorem slc_tail (A : Option Addr) (n c i : Nat) (w : World) (l : List UInt8) (hA : A = none → c = 0) (hp : ∀ a, A = some a → ∃ g o, a = ⟨g, o, none⟩) (hn : l.length = n) (hi : i ≤ n) (hc : n ≤ c) (hc9 : c ≤ 9223372036854775807) (hB : Bs w A l) :
  ∃ A', (∀ W, (Instr.slice 22 (.slice A n c) (some (.int .i64 (i : Int))) none none).run Tryz.prog W = .ok (.slice A' (n - i) (c - i)) W) ∧ Bs w A' (l.drop i) ∧ (A' = none → c - i = 0) ∧ (∀ a, A' = some a → ∃ g o, a = ⟨g, o, none⟩) := by
 have hz : ∀ W, (Go.sizeOf 5).run Tryz.prog W = .ok 1 W := fun W => by kernel_rfl
 have ht' : Tryz.prog.underlying 22 = some (.slice (Tryz.prog.elem 22)) := by simp [Program.elem, Tryz.underlying22]
 have he : Tryz.prog.elem 22 = 5 := by simp [Program.elem, Tryz.underlying22]
 cases A with
 | none =>
  have h0 := hA rfl
  subst h0
  refine ⟨none, fun W => ?_, fun k hk => by rw [List.length_drop] at hk; omega, fun _ => by omega, fun _ h => by cases h⟩
  rw [run_slice_l W 22 _ _ _ ht' .i64 _ (by omega) (by omega), he, hz]
  simp [Result.andThen, sliced]
 | some x =>
  obtain ⟨g, o, rfl⟩ := hp x rfl
  refine ⟨some (if c = i then ⟨g, o, none⟩ else ⟨g, o + i, none⟩), fun W => ?_, ?_, (fun h => by cases h), fun a h => by cases h; split <;> exact ⟨_, _, rfl⟩⟩
  ·rw [run_slice_l W 22 _ _ _ ht' .i64 _ (by omega) (by omega), he, hz]
   by_cases h0 : c = i
   ·simp [Result.andThen, sliced, h0]
   ·by_cases h1 : i = 0
    ·subst h1; simp [Result.andThen, sliced, Addr.add, h0]
    ·simp [Result.andThen, sliced, Addr.add, h0, h1]
  ·by_cases h0 : c = i
   ·intro k hk
    rw [List.length_drop] at hk
    omega
   ·rw [if_neg h0]
    have := Bs.sub hB i (l.length - i)
    rw [List.take_of_length_le (by rw [List.length_drop]; omega)] at this
    exact this

theorem slc_head (A : Option Addr) (n c k : Nat) (hA : A = none → c = 0) (hp : ∀ x, A = some x → ∃ g o, x = ⟨g, o, none⟩) (hk : k ≤ c) :
  ∀ W, (Instr.slice 22 (.slice A n c) none (some (.int .i64 (k : Int))) none).run Tryz.prog W = .ok (.slice A k c) W := by
 intro W
 have hz : ∀ W, (Go.sizeOf 5).run Tryz.prog W = .ok 1 W := fun W => by kernel_rfl
 have ht' : Tryz.prog.underlying 22 = some (.slice (Tryz.prog.elem 22)) := by simp [Program.elem, Tryz.underlying22]
 have he : Tryz.prog.elem 22 = 5 := by simp [Program.elem, Tryz.underlying22]
 rw [run_slice_h W 22 _ _ _ ht' .i64 _ (by omega) (by omega), he, hz]
 cases A with
 | none =>
  have h0 := hA rfl
  subst h0
  have : k = 0 := by omega
  subst this
  simp [Result.andThen, sliced]
 | some x =>
  obtain ⟨g, o, rfl⟩ := hp x rfl
  simp [Result.andThen, sliced, Addr.add]

theorem Bs.head9 {w : World} {A : Option Addr} {l : List UInt8} (h : Bs w A l) (k : Nat) (hk : k ≤ l.length) : Bs w A (l.take k) := by
 intro j hj
 rw [List.length_take] at hj
 obtain ⟨b, off, hA, hlt, hc⟩ := h j (by omega)
 refine ⟨b, off, hA, hlt, ?_⟩
 rw [hc, List.getElem_take]

theorem own_plain9 {w : World} {base : Nat} {v : Value} {l : List UInt8} (h : Own w base v l) : ∃ A c, v = .slice A l.length c ∧ l.length ≤ c ∧ c ≤ 9223372036854775807 ∧ Bs w A l ∧ (A = none → c = 0) ∧ (∀ x, A = some x → ∃ g o, x = ⟨g, o, none⟩) := by
 obtain ⟨A, c, hv, h1, h2, hB⟩ := h.form
 refine ⟨A, c, hv, h1, by unfold maxLen at h2; omega, hB, ?_, ?_⟩
 ·intro hA
  rcases h.2 with ⟨e, _⟩ | ⟨g, cap, cur, e, _⟩
  ·rw [hv] at e; simp only [Value.slice.injEq] at e; exact e.2.2
  ·rw [hv] at e; simp only [Value.slice.injEq] at e; rw [hA] at e; exact absurd e.1 (by simp)
 ·intro x hx
  rcases h.2 with ⟨e, _⟩ | ⟨g, cap, cur, e, _⟩
  ·rw [hv] at e; simp only [Value.slice.injEq] at e; rw [hx] at e; exact absurd e.1 (by simp)
  ·rw [hv] at e; simp only [Value.slice.injEq] at e; rw [hx] at e; exact ⟨g, 0, Option.some.inj e.1⟩

/-- A slice's address is plain. -/
def Pl (A : Option Addr) (c : Nat) : Prop := (A = none → c = 0) ∧ ∀ a, A = some a → ∃ g o, a = ⟨g, o, none⟩
end Go.Proofs.YtaekanhjkpoifaaGreatDoor

namespace Go.Proofs.YtaekanhjkpoifaaGreatDoor
open Go.RowKit P
set_option linter.unusedVariables false

/-- append of bytes inside a region that draws its order. -/
theorem step_app_bytes9 {w : World} {ops : Array Oper} {o : Oper} {a : Act} {K : Act → World → Prop} {Q : Exit → Act → World → Prop} {X : Prop} (hgd : o.guard = none) (s x : Operand)
  (ho : o.op = .call { callee := .builtin .append, args := #[s, x], argTypes := #[22, 22] })
  (base : Nat) (v : Value) (l r : List UInt8) (A : Option Addr) (n c : Nat) (hs : a.eval s = v) (hx : a.eval x = .slice A n c) (hn : n = r.length) (hown : Own w base v l) (hr : Bs w A r)
  (hlen : l.length + r.length ≤ 1000000000) (hbase : base ≤ w.heap.size)
  (h : ∀ v' w', Own w' base v' (l ++ r) → w.grownBy w' v.ownBlock → (v'.ownBlock = v.ownBlock ∨ v'.ownBlock = some w.heap.size) → K (a.put o.dst v') w') :
  if Region.wanted o (yielded ops a.tmps) = true then Oper.wp Tryz.prog o a w K Q else X := by
 obtain ⟨v', w', hrun, h2, h3, h4⟩ := run_app_bytes c n o.type hn hown hr hlen hbase
 have hw : Region.wanted o (yielded ops a.tmps) = true := by simp [Region.wanted, hgd]
 rw [if_pos hw]
 unfold Oper.wp execOp
 simp only [ho, resolve, invoke, builtin, Sem.run_bind, Sem.run_pure, Result.andThen_ok, List.map_toArray, List.map_cons, List.map_nil, hs, hx, hrun]
 exact h v' w' h2 h3 h4

end Go.Proofs.YtaekanhjkpoifaaGreatDoor

/-
 Chapter 5, small edits and their ends: contracts. Own work.
-/
namespace Go.Proofs.YtaekanhjkpoifaaGreatDoor
open Go.RowKit P
set_option linter.unusedVariables false
set_option linter.unusedSimpArgs false
set_option maxRecDepth 100000

set_option maxHeartbeats 400000 in
theorem edEnd_any (a m r : Int) (A : Option Addr) (n c : Nat) (w : World) (hr : IntKind.i64.wrap (a + m) = r) :
  Calls Tryz.prog 164 #[.agg #[.int .i64 a, .int .i64 m, .slice A n c]] w fun e w' => e = .returned (.int .i64 r) ∧ Below w.heap.size w w' := by
 have HR := Lib.hid hr
 clear hr
 have hb0 := (Below.refl w.heap.size w).alloc (Nat.le_refl _) (.cells #[.int .i64 a, .int .i64 m, .slice A n c] 71)
 go_enter Tryz.func164, Tryz.ntmps164
 go_wp2
 go_ret
 exact ⟨ret_int (by rw [← HR.out]; first | rfl | exact (IntWalk.i64_left _).symm), hb0⟩

set_option maxHeartbeats 400000 in
theorem fitsText_e (n : Int) (z : Bool) (w : World) (hz : decide (0 ≤ n ∧ n ≤ 400) = z) : Calls Tryz.prog 174 #[.int .i64 n] w fun e w' => e = .returned (.bool z) ∧ w' = w := by
 subst hz
 by_cases h : 0 ≤ n
 ·go_enter Tryz.func174, Tryz.ntmps174
  go_wp2
  go_ret
  exact ⟨ret_bool (by simp [h]), rfl⟩
 ·have hd : decide (0 ≤ n) = false := by simpa using h
  have hf : decide (0 ≤ n ∧ n ≤ 400) = false := by simp; omega
  have HF := Lib.hid hf
  clear h hf
  go_enter Tryz.func174, Tryz.ntmps174
  go_wp2
  go_ret
  exact ⟨ret_bool HF.out.symm, rfl⟩

set_option maxHeartbeats 400000 in
theorem l02Small_e (n : Int) (z : Bool) (w : World) (hz : decide (0 ≤ n ∧ n ≤ 400) = z) : Calls Tryz.prog 156 #[.int .i64 n] w fun e w' => e = .returned (.bool z) ∧ w' = w := by
 subst hz
 by_cases h : 0 ≤ n
 ·go_enter Tryz.func156, Tryz.ntmps156
  go_wp2
  go_ret
  exact ⟨ret_bool (by simp [h]), rfl⟩
 ·have hd : decide (0 ≤ n) = false := by simpa using h
  have hf : decide (0 ≤ n ∧ n ≤ 400) = false := by simp; omega
  have HF := Lib.hid hf
  clear h hf
  go_enter Tryz.func156, Tryz.ntmps156
  go_wp2
  go_ret
  exact ⟨ret_bool HF.out.symm, rfl⟩

theorem edSmall_and (a m : Int) (p : List UInt8) : edSmall a m p = (decide (0 ≤ a ∧ a ≤ 400) && (decide (0 ≤ m ∧ m ≤ 400) && decide ((0 : Int) ≤ (p.length : Int) ∧ (p.length : Int) ≤ 400))) := by
 rw [Bool.eq_iff_iff, edSmall_iff]
 simp only [Bool.and_eq_true, decide_eq_true_eq]
 omega

set_option maxHeartbeats 2000000 in
theorem isSmall_any (a m : Int) (A : Option Addr) (p : List UInt8) (c : Nat) (w : World) (hp9 : p.length ≤ 9223372036854775807) :
  Calls Tryz.prog 166 #[.agg #[.int .i64 a, .int .i64 m, .slice A p.length c]] w fun e w' => e = .returned (.bool (edSmall a m p)) ∧ Below w.heap.size w w' := by
 rw [edSmall_and]
 have hal := (Below.refl w.heap.size w).alloc (Nat.le_refl _) (.cells #[.int .i64 a, .int .i64 m, .slice A p.length c] 71)
 obtain ⟨z1, h1⟩ : ∃ z, decide (0 ≤ a ∧ a ≤ 400) = z := ⟨_, rfl⟩
 obtain ⟨z2, h2⟩ : ∃ z, decide (0 ≤ m ∧ m ≤ 400) = z := ⟨_, rfl⟩
 obtain ⟨z3, h3⟩ : ∃ z, decide ((0 : Int) ≤ (p.length : Int) ∧ (p.length : Int) ≤ 400) = z := ⟨_, rfl⟩
 rw [h1, h2, h3]
 have H1 := Lib.hid h1
 have H2 := Lib.hid h2
 have H3 := Lib.hid h3
 clear h1 h2 h3
 go_enter Tryz.func166, Tryz.ntmps166
 go_wp2_with fail
 refine (fitsText_e a z1 _ H1.out).mono ?_
 rintro e w1 ⟨rfl, rfl⟩
 cases z1
 ·go_wp2
  go_ret
  exact ⟨rfl, hal⟩
 go_wp2_with fail
 refine (fitsText_e m z2 _ H2.out).mono ?_
 rintro e w1 ⟨rfl, rfl⟩
 cases z2
 ·go_wp2
  go_ret
  exact ⟨rfl, hal⟩
 go_wp2_with fail
 refine (fitsText_e (p.length : Int) z3 _ H3.out).mono ?_
 rintro e w1 ⟨rfl, rfl⟩
 go_wp2
 go_ret
 exact ⟨rfl, hal⟩

set_option maxHeartbeats 2000000 in
theorem l05Small_any (a m : Int) (A : Option Addr) (p : List UInt8) (c : Nat) (w : World) (hp9 : p.length ≤ 9223372036854775807) :
  Calls Tryz.prog 141 #[.agg #[.int .i64 a, .int .i64 m, .slice A p.length c]] w fun e w' => e = .returned (.bool (edSmall a m p)) ∧ Below w.heap.size w w' := by
 rw [edSmall_and]
 have hal := (Below.refl w.heap.size w).alloc (Nat.le_refl _) (.cells #[.int .i64 a, .int .i64 m, .slice A p.length c] 71)
 obtain ⟨z1, h1⟩ : ∃ z, decide (0 ≤ a ∧ a ≤ 400) = z := ⟨_, rfl⟩
 obtain ⟨z2, h2⟩ : ∃ z, decide (0 ≤ m ∧ m ≤ 400) = z := ⟨_, rfl⟩
 have h3 : decide ((0 : Int) ≤ (p.length : Int) ∧ (p.length : Int) ≤ 400) = decide ((p.length : Int) ≤ 400) := by rw [Bool.eq_iff_iff]; simp
 rw [h1, h2, h3]
 have H1 := Lib.hid h1
 have H2 := Lib.hid h2
 clear h1 h2 h3
 go_enter Tryz.func141, Tryz.ntmps141
 go_wp2_with fail
 refine (l02Small_e a z1 _ H1.out).mono ?_
 rintro e w1 ⟨rfl, rfl⟩
 cases z1
 ·go_wp2
  go_ret
  exact ⟨rfl, hal⟩
 go_wp2_with fail
 refine (l02Small_e m z2 _ H2.out).mono ?_
 rintro e w1 ⟨rfl, rfl⟩
 cases z2
 ·go_wp2
  go_ret
  exact ⟨rfl, hal⟩
 go_wp2
 go_ret
 exact ⟨rfl, hal⟩
end Go.Proofs.YtaekanhjkpoifaaGreatDoor

/-
 bytes.Clone: contract. Own work.
-/
namespace Go.Proofs.YtaekanhjkpoifaaGreatDoor
open Go.RowKit P
set_option linter.unusedVariables false
set_option linter.unusedSimpArgs false
set_option maxRecDepth 100000

set_option maxHeartbeats 1000000 in
theorem bytesClone_e (a : Addr) (l : List UInt8) (n c : Nat) (w : World) (hn : n = l.length) (hl : l.length ≤ 1000000) (hA : Bs w (some a) l) :
  Calls Tryz.prog 88 #[.slice (some a) n c] w (Makes w l) := by
 have q22 : ∀ (w : World) (a : Option Addr) (n c n' c' : Nat), (binOp .eql 22 (.slice a n c) (.slice none n' c')).run Tryz.prog w = .ok (.bool a.isNone) w := fun w a n c n' c' => Lib.run_eql_slice_nil w _ _ a n c n' c' Tryz.underlying22
 have hown0 : Own (w.alloc (.cells #[] 5)) w.heap.size (.slice (some ⟨w.heap.size, 0, none⟩) 0 0) [] := World.ownsRow_made w #[] 0 (Nat.le_refl _) (by unfold maxLen; omega) rfl
 have hal := (Below.refl w.heap.size w).alloc (Nat.le_refl _) (.cells #[] 5)
 have hA0 := hA.below hal
 go_enter Tryz.func88, Tryz.ntmps88
 go_wp2_with (at_builtin; go_must (refine wpList_app_bytes rfl _ _ rfl w.heap.size _ [] l (some a) n c rfl rfl hn hown0 hA0 ?c1 ?c2 ?_))
 case c1 => simp; omega
 case c2 => simp
 intro v4 w4 hown4 hg4 _
 have hb4 := hal.grown hg4 (by simp) (fun x hx => (World.ownsRow.lt hown0 x hx).1)
 go_wp2
 go_ret
 exact ⟨_, rfl, hown4, hb4⟩

set_option maxHeartbeats 1000000 in
theorem bytesClone_opt (A : Option Addr) (l : List UInt8) (n c : Nat) (w : World) (hn : n = l.length) (hl : l.length ≤ 1000000) (hA : Bs w A l) :
  Calls Tryz.prog 88 #[.slice A n c] w (Makes w l) := by
 cases A with
 | some a => exact bytesClone_e a l n c w hn hl hA
 | none =>
  have h0 : l = [] := by
   cases l with
   | nil => rfl
   | cons x t => obtain ⟨b, off, e, _⟩ := hA 0 (by simp); cases e
  subst h0
  have q22 : ∀ (w : World) (a : Option Addr) (n c n' c' : Nat), (binOp .eql 22 (.slice a n c) (.slice none n' c')).run Tryz.prog w = .ok (.bool a.isNone) w := fun w a n c n' c' => Lib.run_eql_slice_nil w _ _ a n c n' c' Tryz.underlying22
  go_enter Tryz.func88, Tryz.ntmps88
  go_wp2
  go_ret
  exact Makes.nil w
end Go.Proofs.YtaekanhjkpoifaaGreatDoor

/-
 Own slices of values of one cell each, and slices of slices of them. Own work.
 slices.Grow and slices.Concat at bytes. Own work, over the library's laws.
 slices.Concat of three slices of bytes, and bytes.Clone: contracts (kept beside chapter 4's, whose texts are long). Own work.
-/
namespace Go.Proofs.YtaekanhjkpoifaaGreatDoor
open Go.RowKit P
set_option linter.unusedVariables false

/-- The slice that starts at A holds the values xs, a cell each. -/
def Vs (w : World) (A : Option Addr) (xs : List Value) : Prop := ∀ k (h : k < xs.length), ∃ b off, A = some ⟨b, off, none⟩ ∧ b < w.heap.size ∧ w.cell? ⟨b, off + k, none⟩ = some xs[k]
theorem Vs.below {w w' : World} {A : Option Addr} {xs : List Value} (h : Vs w A xs) (hb : Below w.heap.size w w') : Vs w' A xs := by
 intro k hk
 obtain ⟨b, off, hA, hlt, hc⟩ := h k hk
 exact ⟨b, off, hA, Nat.lt_of_lt_of_le hlt hb.size, (hb.cell (p := ⟨b, off + k, none⟩) hlt).trans hc⟩

/-- v is a slice of the call's own (in blocks from base on, or nil) that holds xs. -/
structure OwnV (w : World) (base : Nat) (T : TypeId) (v : Value) (xs : List Value) : Prop where
 row : w.ownsRow base T 1 v xs.length xs
 one : ∀ u ∈ xs, u.oneCell' = true
theorem OwnV.form {w : World} {base : Nat} {T : TypeId} {v : Value} {xs : List Value} (h : OwnV w base T v xs) : ∃ A c, v = .slice A xs.length c ∧ xs.length ≤ c ∧ c ≤ maxLen ∧ Vs w A xs := by
 obtain ⟨A, c, e, h1, h2, h3⟩ := ownsRow_form h.row
 refine ⟨A, c, e, h1, h2, fun k hk => ?_⟩
 obtain ⟨b, hA, hlt, hc⟩ := h3 k hk
 exact ⟨b, 0, hA, hlt, by rw [Nat.zero_add]; exact hc⟩

/-- The slice of slices that starts at A. -/
def VVs (w : World) (A : Option Addr) (xss : List (List Value)) : Prop := ∀ k (h : k < xss.length), ∃ b off B c, A = some ⟨b, off, none⟩ ∧ b < w.heap.size ∧ w.cell? ⟨b, off + k, none⟩ = some (.slice B (xss[k]).length c) ∧ (xss[k]).length ≤ c ∧ Vs w B xss[k]
theorem VVs.below {w w' : World} {A : Option Addr} {xss : List (List Value)} (h : VVs w A xss) (hb : Below w.heap.size w w') : VVs w' A xss := by
 intro k hk
 obtain ⟨b, off, B, c, hA, hlt, hc, hl, hv⟩ := h k hk
 exact ⟨b, off, B, c, hA, Nat.lt_of_lt_of_le hlt hb.size, (hb.cell (p := ⟨b, off + k, none⟩) hlt).trans hc, hl, hv.below hb⟩

/-- The total length of lists. -/
def vsums (ls : List (List Value)) : Nat := ls.flatten.length
theorem vsums_take (ls : List (List Value)) (k : Nat) (h : k < ls.length) : vsums (ls.take (k + 1)) = vsums (ls.take k) + (ls[k]).length := by
 unfold vsums; rw [List.take_succ_eq_append_getElem h, List.flatten_append, List.length_append]; simp
theorem vsums_le (ls : List (List Value)) (k : Nat) (h : k < ls.length) : vsums (ls.take k) + (ls[k]).length ≤ vsums ls := by
 rw [← vsums_take ls k h]
 have : ls.flatten = (ls.take (k + 1)).flatten ++ (ls.drop (k + 1)).flatten := by rw [← List.flatten_append, List.take_append_drop]
 unfold vsums
 rw [this, List.length_append]
 omega

theorem run_app_vals {P : Program} {T S : TypeId} {z : Value} {bytes : Nat} (hS : P.underlying S = some (.slice T)) (hinfo : (P.info? T).map (fun i => (i.zero, i.size, i.bytes)) = some (some z, 1, bytes)) (hzs : z.cells.size = 1) (hby : bytes ≤ 1000)
  {w : World} {base : Nat} {v : Value} {l r : List Value} {A : Option Addr} (c n : Nat) (ty : TypeId) (hn : n = r.length) (hown : OwnV w base T v l) (hr : Vs w A r) (hr1 : ∀ u ∈ r, u.oneCell' = true)
  (hlen : l.length + r.length ≤ 1000000000) (hbase : base ≤ w.heap.size) :
  ∃ v' w', (Builtin.append_ #[S, S] ty #[v, .slice A n c]).run P w = .ok v' w' ∧ OwnV w' base T v' (l ++ r) ∧ w.grownBy w' v.ownBlock ∧
   (v'.ownBlock = v.ownBlock ∨ v'.ownBlock = some w.heap.size) := by
 subst hn
 obtain ⟨i, hi, hz, hs, hb⟩ := info_parts hinfo
 have hl2 : ∀ s ∈ l ++ r, s.oneCell' = true := by
  intro s hs
  rcases List.mem_append.1 hs with hs | hs
  ·exact hown.one s hs
  ·exact hr1 s hs
 cases A with
 | none =>
  have h0 : r = [] := by
   cases r with
   | nil => rfl
   | cons x t => obtain ⟨b, off, e, _⟩ := hr 0 (by simp); cases e
  subst h0
  refine ⟨v, w, ?_, by simpa using hown, World.grownBy.refl w _, .inl rfl⟩
  rcases hown.row.2 with ⟨rfl, h1⟩ | ⟨g, cap, cur, rfl, _, _, hnc, _⟩
  ·simp [Builtin.append_, run_underlying hS, sizeOf, typeInfo, hi, Builtin.lenOf, Builtin.firstCells]
  ·simp [Builtin.append_, run_underlying hS, sizeOf, typeInfo, hi, Builtin.lenOf, Builtin.firstCells, hnc, storeCells]
 | some a =>
  have hcells : ∀ j u, r[j]? = some u → w.cell? (a.add j) = some u := by
   intro j u hu
   have hj : j < r.length := (List.getElem?_eq_some_iff.1 hu).1
   obtain ⟨b, off, e, _, hc⟩ := hr j hj
   cases e
   rw [add_plain, hc]
   rw [List.getElem?_eq_getElem hj] at hu
   exact hu
  have hmul : (l.length + r.length) * bytes ≤ 140737488355328 := by
   have : (l.length + r.length) * bytes ≤ 1000000000 * 1000 := Nat.mul_le_mul hlen hby
   omega
  obtain ⟨v', w', hrun, h2, h3, _, h5⟩ := run_append_own_at (P := P) w base S ty T i z 1 bytes hS hi hz hs hb hzs (by omega) v l.length l hown.row a r.length c r
   (by simp) hcells hr1 (by unfold maxLen; omega) hmul hbase
  refine ⟨v', w', hrun, ⟨?_, hl2⟩, h3, h5⟩
  rw [List.length_append]
  exact h2

theorem wpList_app_vals {P : Program} {T S : TypeId} {z : Value} {bytes : Nat} (hS : P.underlying S = some (.slice T)) (hinfo : (P.info? T).map (fun i => (i.zero, i.size, i.bytes)) = some (some z, 1, bytes)) (hzs : z.cells.size = 1) (hby : bytes ≤ 1000)
  {w : World} {ops : Array Oper} {rest : List Oper} {o : Oper} {a : Act} {Q : Exit → Act → World → Prop} (hgd : Region.wanted o (yielded ops a.tmps) = true) (s x : Operand)
  (ho : o.op = .call { callee := .builtin .append, args := #[s, x], argTypes := #[S, S] })
  (base : Nat) (v : Value) (l r : List Value) (A : Option Addr) (n c : Nat) (hs : a.eval s = v) (hx : a.eval x = .slice A n c) (hn : n = r.length) (hown : OwnV w base T v l) (hr : Vs w A r) (hr1 : ∀ u ∈ r, u.oneCell' = true)
  (hlen : l.length + r.length ≤ 1000000000) (hbase : base ≤ w.heap.size)
  (h : ∀ v' w', OwnV w' base T v' (l ++ r) → w.grownBy w' v.ownBlock → (v'.ownBlock = v.ownBlock ∨ v'.ownBlock = some w.heap.size) → wpList P ops Q rest (a.put o.dst v') w') : wpList P ops Q (o :: rest) a w := by
 refine BigFrame.wpList_want hgd fun K hK => ?_
 obtain ⟨v', w', hrun, h2, h3, h4⟩ := run_app_vals hS hinfo hzs hby c n o.type hn hown hr hr1 hlen hbase
 unfold Oper.wp execOp
 simp only [ho, resolve, invoke, builtin, Sem.run_bind, Sem.run_pure, Result.andThen_ok, List.map_toArray, List.map_cons, List.map_nil, hs, hx, hrun]
 exact hK _ _ (h v' w' h2 h3 h4)
end Go.Proofs.YtaekanhjkpoifaaGreatDoor

namespace Go.Proofs.YtaekanhjkpoifaaGreatDoor
open Go.RowKit P
set_option linter.unusedVariables false
set_option maxRecDepth 100000

theorem by_growNil_any (n : Nat) (w : World) (hn : n ≤ 1000000000) :
  Calls Tryz.prog 173 #[.slice none 0 0, .int .i64 (n : Int)] w fun e w' => ∃ v, e = .returned v ∧ OwnV w' w.heap.size 5 v [] ∧ Below w.heap.size w w' := by
 by_cases h0 : n = 0
 ·subst h0
  refine (Any8.slices_Grow_room Tryz.growB none 0 0 0 w (by omega) (by omega) (by omega) (by omega)).mono ?_
  rintro e w' ⟨rfl, rfl⟩
  exact ⟨_, rfl, ⟨World.ownsRow_nil _ _ _ _, by simp⟩, Below.refl _ _⟩
 ·obtain ⟨i, hi, hz, hs, hb⟩ := info_parts Tryz.infoB
  refine (Any8.slices_Grow_grow Tryz.growB i (.int .u8 0) hi hz (by omega) none 0 0 n [] w (by omega) (by omega) (by rw [hb]; omega) (by omega) (by simp) (fun _ => rfl) (fun a ha => by cases ha)).mono ?_
  rintro e w' ⟨rfl, rfl⟩
  refine ⟨_, rfl, ⟨⟨rfl, .inr ⟨w.heap.size, _, _, rfl, Nat.le_refl _, heap_alloc_new w.drew _, Nat.zero_le _, ?_, ?_, ?_⟩⟩, by simp⟩, (below_of_drewN w 1).alloc (by simp) _⟩
  ·exact grownCap_le_maxLen _ _ _ _ (by unfold maxLen; omega)
  ·have := grownCap_ge w n 0 5
   rw [show (Tryz.growB_ren.t 25) = 5 from rfl]
   have e1 : ((.int .u8 0) : Value).cells.size = 1 := rfl
   simp [Builtin.zeroCells, e1]
   omega
  ·simp

set_option maxHeartbeats 1000000 in
theorem by_concat_any (A : Option Addr) (ls : List (List Value)) (c : Nat) (w : World) (hl : ls.length ≤ 1000000) (hs : vsums ls ≤ 1000000000) (hone : ∀ l ∈ ls, ∀ u ∈ l, u.oneCell' = true) (h : VVs w A ls) :
  Calls Tryz.prog 163 #[.slice A ls.length c] w fun e w' => ∃ v, e = .returned v ∧ OwnV w' w.heap.size 5 v ls.flatten ∧ Below w.heap.size w w' := by
 go_enter Tryz.func163, Tryz.ntmps163
 go_wp2
 go_loop [3, 11] (fun z i => ∃ k : Nat, k ≤ ls.length ∧ i = .int .i64 k ∧ z = .int .i64 ((vsums (ls.take k) : Nat) : Int)) (fun _ i => ls.length - (intOf i).toNat)
 case atStart => exact ⟨0, Nat.zero_le _, rfl, rfl⟩
 case round =>
  obtain ⟨k, hk, rfl, rfl⟩ := hrel
  by_cases hlt : k < ls.length
  ·obtain ⟨b, off, B, d, rfl, hbl, hc, hld, hB⟩ := h k hlt
   have h1 := vsums_take ls k hlt
   have h2 := vsums_le ls k hlt
   have H1 := Lib.hid h1
   clear h1
   generalize hL : ls[k] = L at *
   have HL := Lib.hid hL
   clear hL
   obtain ⟨q, hq⟩ : ∃ q, vsums (ls.take k) = q := ⟨_, rfl⟩
   rw [hq] at h2 H1 ⊢
   clear hq
   have hk0 : (k : Int) < (ls.length : Int) := by omega
   have hn : ¬ (q : Int) + (L.length : Int) < 0 := by omega
   go_wp2
   go_round
   case rel => exact ⟨k + 1, by omega, by go_num, by rw [H1.out]; go_num⟩
   case measure => simp [intOf]; omega
  ·have e : k = ls.length := by omega
   subst e
   rw [List.take_length]
   go_wp2_with fail
   refine (by_growNil_any (vsums ls) _ hs).mono ?_
   rintro e w1 ⟨v1, rfl, hown1, hb1⟩
   go_wp2
   go_loopw [6, 27] (fun v i wr => ∃ k : Nat, k ≤ ls.length ∧ i = .int .i64 k ∧ OwnV wr w.heap.size 5 v (ls.take k).flatten ∧ Below w.heap.size w wr) (fun _ i _ => ls.length - (intOf i).toNat)
   case atStart => exact ⟨0, Nat.zero_le _, rfl, by simpa using hown1, hb1⟩
   case round =>
    obtain ⟨k, hk2, rfl, hown, hb⟩ := hrel
    by_cases hlt2 : k < ls.length
    ·obtain ⟨b, off, B, d, rfl, hbl, hc, hld, hB⟩ := (h.below hb) k hlt2
     have h2 := vsums_le ls k hlt2
     have h1 : (ls.take (k + 1)).flatten = (ls.take k).flatten ++ ls[k] := by rw [List.take_succ_eq_append_getElem hlt2, List.flatten_append]; simp
     have hML : (ls.take k).flatten.length + (ls[k]).length ≤ 1000000000 := Nat.le_trans h2 hs
     have hu := hone ls[k] (List.getElem_mem hlt2)
     generalize hL : ls[k] = L at *
     generalize hM : (ls.take k).flatten = M at *
     have H1 := Lib.hid h1
     have HL := Lib.hid hL
     have HM := Lib.hid hM
     have HU := Lib.hid hu
     clear hL hM h1 hu
     have hk0 : (k : Int) < (ls.length : Int) := by omega
     have hbs := hb.size
     go_wp2_with (at_builtin; go_must (refine wpList_app_vals Tryz.underlying22 Tryz.infoB rfl (by decide) rfl _ _ rfl w.heap.size _ M L B L.length d rfl rfl rfl hown hB HU.out hML hbs ?_))
     intro v4 w4 hown4 hg4 _
     have hb4 := hb.grown hg4 hbs (fun x hx => (World.ownsRow.lt hown.row x hx).1)
     go_wp2
     go_roundw
     case rel => exact ⟨k + 1, by omega, by go_num, by rw [H1.out]; exact hown4, hb4⟩
     case measure => simp [intOf]; omega
    ·have e : k = ls.length := by omega
     subst e
     rw [List.take_length] at hown
     go_wp2
     go_ret
     exact ⟨_, rfl, hown, hb⟩
end Go.Proofs.YtaekanhjkpoifaaGreatDoor

namespace Go.Proofs.YtaekanhjkpoifaaGreatDoor
open Go.RowKit P
set_option linter.unusedVariables false
set_option linter.unusedSimpArgs false
set_option maxRecDepth 100000

theorem Bs.vs9 {w : World} {A : Option Addr} {l : List UInt8} (h : Bs w A l) : Vs w A (l.map bV) := by
 intro k hk
 rw [List.length_map] at hk
 obtain ⟨b, off, e, hb, hc⟩ := h k hk
 exact ⟨b, off, e, hb, by rw [hc, List.getElem_map]; rfl⟩

/-- slices.Concat of three slices of bytes. -/
theorem concatBy3_e (A B C : Option Addr) (l m r : List UInt8) (c d f : Nat) (w : World) (h1 : l.length ≤ c) (h2 : m.length ≤ d) (h3 : r.length ≤ f) (hl : l.length + m.length + r.length ≤ 2000000) (hA : Bs w A l) (hB : Bs w B m) (hC : Bs w C r) :
  Calls Tryz.prog 163 #[.slice (some ⟨w.heap.size, 0, none⟩) 3 3] (w.alloc (.cells #[.slice A l.length c, .slice B m.length d, .slice C r.length f] 22)) fun e w' => ∃ v, e = .returned v ∧ Own w' w.heap.size v (l ++ (m ++ r)) ∧ Below w.heap.size w w' := by
 have hal := (Below.refl w.heap.size w).alloc (Nat.le_refl _) (.cells #[.slice A l.length c, .slice B m.length d, .slice C r.length f] 22)
 have bk := Blk.new w #[.slice A l.length c, .slice B m.length d, .slice C r.length f] 22
 have hv : VVs (w.alloc (.cells #[.slice A l.length c, .slice B m.length d, .slice C r.length f] 22)) (some ⟨w.heap.size, 0, none⟩) [l.map bV, m.map bV, r.map bV] := by
  intro k hk
  match k, hk with
  | 0, _ => exact ⟨_, 0, A, c, rfl, bk.lt, by rw [Nat.zero_add, bk.cell]; simp, by simp [h1], (hA.below hal).vs9⟩
  | 1, _ => exact ⟨_, 0, B, d, rfl, bk.lt, by rw [Nat.zero_add, bk.cell]; simp, by simp [h2], (hB.below hal).vs9⟩
  | 2, _ => exact ⟨_, 0, C, f, rfl, bk.lt, by rw [Nat.zero_add, bk.cell]; simp, by simp [h3], (hC.below hal).vs9⟩
 have hs : vsums [l.map bV, m.map bV, r.map bV] ≤ 1000000000 := by unfold vsums; simp; omega
 refine (by_concat_any (some ⟨w.heap.size, 0, none⟩) [l.map bV, m.map bV, r.map bV] 3 _ (by simp) hs (by
  intro q hq u hu
  simp only [List.mem_cons, List.not_mem_nil, or_false] at hq
  have : ∀ t : List UInt8, u ∈ t.map bV → u.oneCell' = true := fun t ht => by obtain ⟨x, _, rfl⟩ := List.mem_map.1 ht; rfl
  rcases hq with rfl | rfl | rfl <;> exact this _ hu) hv).mono ?_
 rintro e w' ⟨v, rfl, hown, hb⟩
 have hflat : [l.map bV, m.map bV, r.map bV].flatten = (l ++ (m ++ r)).map bV := by simp
 have hrow := hown.row
 rw [hflat, List.length_map] at hrow
 refine ⟨v, rfl, ?_, below_then hal hb⟩
 have h9 : Own w' (w.alloc (.cells #[.slice A l.length c, .slice B m.length d, .slice C r.length f] 22)).heap.size v (l ++ (m ++ r)) := hrow
 exact h9.mono (by simp)

end Go.Proofs.YtaekanhjkpoifaaGreatDoor
