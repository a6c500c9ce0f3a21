/-
  Texts of one claim in one: Bs0, Own, App, Lay, Law0, Open0, Sz, Bs, Blk, Snoc, P10, N00, Setrow, P11, P13, Shelf, P12, M01. Own work.
-/
import Derived.Test.YtaekanhjkpoifaaGreatDoorRows
import Derived.Handy
import Derived.WalkSpells
import Derived.Deep.OwnRows
import Derived.Deep.QuietTactic
import Derived.BigQuiet
import Derived.Lib.Hide
import Derived.Maps.AppendAt
import Derived.Deep.AppendLies
import Derived.ProofKit
import Derived.OpenShut
import Derived.ChangeOld
import Derived.Deep.DeepHandedRow
import Derived.Deep.Slices
import Derived.Deep.Fields
import Derived.ChangeSame
import Derived.Shelf.SlGeneric
import Derived.Shelf.Spec.SlicesGrow
import Derived.Test.YtaekanhjkpoifaaGreatDoorProg

/-
 Bytes in memory: the predicate and its frame lemmas. Own work.
-/
namespace Go.Proofs.YtaekanhjkpoifaaGreatDoor
namespace P
end P
open Go.RowKit
set_option linter.unusedVariables false

theorem ret_int {k : IntKind} {a b : Int} (h : a = b) : Ending.returned (.int k a) = .returned (.int k b) := by rw [h]
theorem ret_bool {a b : Bool} (h : a = b) : Ending.returned (.bool a) = .returned (.bool b) := by rw [h]

/-- The slice that starts at A holds the bytes l. -/
def Bs (w : World) (A : Option Addr) (l : List UInt8) : Prop :=
 ∀ k (h : k < l.length), ∃ b off, A = some ⟨b, off, none⟩ ∧ b < w.heap.size ∧ w.cell? ⟨b, off + k, none⟩ = some (.int .u8 ((l[k]).toNat : Int))

theorem Bs.below {w w' : World} {A : Option Addr} {l : List UInt8} (h : Bs w A l) (hb : Below w.heap.size w w') : Bs w' A l := by
 intro k hk
 obtain ⟨b, off, hA, hlt, hc⟩ := h k hk
 exact ⟨b, off, hA, Nat.lt_of_lt_of_le hlt hb.size, (hb.cell (p := ⟨b, off + k, none⟩) hlt).trans hc⟩

/-- Block B is a new row that holds the bytes l. -/
def Row (w : World) (B : Nat) (l : List UInt8) : Prop := w.rowIs B 5 l.length (fun i => .int .u8 ((l.getD i 0).toNat : Int))

theorem Row.bs {w : World} {B : Nat} {l : List UInt8} (h : Row w B l) : Bs w (some ⟨B, 0, none⟩) l := by
 intro k hk
 refine ⟨B, 0, rfl, h.lt, ?_⟩
 have := World.rowIs.cell h hk
 simpa [hk] using this

theorem Tryz.infoB : (Tryz.prog.info? 5).map (fun i => (i.zero, i.size, i.bytes)) = some (some (.int .u8 0), 1, 1) := by kernel_rfl

theorem LX9 : (∀ {α : Type} (l : List α) (i : Nat), l.toArray[i]? = l[i]?) ∧ (∀ {α : Type} (a : α) (l : List α), (a :: l)[0]? = some a) ∧ (∀ {α : Type} (a : α) (l : List α) (i : Nat), (a :: l)[i + 1]? = l[i]?) := ⟨fun l i => List.getElem?_toArray, fun a l => rfl, fun a l i => rfl⟩
theorem LY9 : (∀ (a : Act) (d : Nat) (v : Value), a.put (some d) v = { a with tmps := a.tmps.setIfInBounds d v }) ∧ (∀ (a : Act) (v : Value), a.put none v = a) ∧ (∀ {α : Type} (l : List α) (i : Nat) (x : α), l.toArray.setIfInBounds i x = (l.set i x).toArray) ∧ (∀ {α : Type} (a : α) (l : List α) (b : α), (a :: l).set 0 b = b :: l) ∧ (∀ {α : Type} (a : α) (l : List α) (i : Nat) (b : α), (a :: l).set (i + 1) b = a :: l.set i b) := ⟨fun a d v => rfl, fun a v => rfl, fun l i x => by simp, fun a l b => rfl, fun a l i b => rfl⟩
end Go.Proofs.YtaekanhjkpoifaaGreatDoor

/-
 Slices of bytes that the call itself made. Own work.
-/
namespace Go.Proofs.YtaekanhjkpoifaaGreatDoor
open Go.RowKit P
set_option linter.unusedVariables false

def bV (b : UInt8) : Value := .int .u8 (b.toNat : Int)

/-- v is a slice of the call's own (in blocks from base on, or nil) that holds the bytes l. -/
def Own (w : World) (base : Nat) (v : Value) (l : List UInt8) : Prop := w.ownsRow base 5 1 v l.length (l.map bV)

theorem Own.form {w : World} {base : Nat} {v : Value} {l : List UInt8} (h : Own w base v l) : ∃ A c, v = .slice A l.length c ∧ l.length ≤ c ∧ c ≤ maxLen ∧ Bs w A l := by
 obtain ⟨h1, h2⟩ := h
 rcases h2 with ⟨rfl, h0⟩ | ⟨g, cap, cur, rfl, hb, hh, hn, hc, hs, ht⟩
 ·have : l = [] := List.eq_nil_of_length_eq_zero h0
  subst this
  exact ⟨none, 0, rfl, Nat.le_refl _, by unfold maxLen; omega, fun k hk => by simp at hk⟩
 ·refine ⟨_, cap, rfl, hn, hc, fun k hk => ⟨g, 0, rfl, (Array.getElem?_eq_some_iff.1 hh).1, ?_⟩⟩
  rw [Nat.zero_add, cell_of_row w g k cur _ (0, 0) hh]
  have h3 : (cur.toList.take (l.length * 1))[k]? = (l.map bV)[k]? := by rw [ht]
  rw [List.getElem?_take, if_pos (by omega)] at h3
  simp only [Array.getElem?_toList] at h3
  rw [h3]
  simp [hk, bV]

theorem Own.below {w w' : World} {base : Nat} {v : Value} {l : List UInt8} (h : Own w base v l) (hb : Below w.heap.size w w') : Own w' base v l :=
 World.ownsRow.kept (w' := w') (row := none) h ⟨hb.os, hb.tape, hb.output, hb.size, fun k hk _ => hb.block k hk⟩ (by cases hv : v.ownBlock <;> simp)

theorem Own.mono {w : World} {base base' : Nat} {v : Value} {l : List UInt8} (h : Own w base v l) (hb : base' ≤ base) : Own w base' v l := by
 obtain ⟨h1, h2⟩ := h
 refine ⟨h1, ?_⟩
 rcases h2 with h2 | ⟨g, cap, cur, hv, hg, r⟩
 ·exact .inl h2
 ·exact .inr ⟨g, cap, cur, hv, by omega, r⟩

theorem Own.drewN {w : World} {base : Nat} {v : Value} {l : List UInt8} (h : Own w base v l) (n : Nat) : Own (w.drewN n) base v l := h

theorem Own.nil (w : World) (base : Nat) : Own w base (.slice none 0 0) [] := World.ownsRow_nil w base _ _

theorem Own.new (w : World) (l : List UInt8) (hl : l.length ≤ maxLen) : Own (w.alloc (.cells (l.map bV).toArray 5)) w.heap.size (.slice (some ⟨w.heap.size, 0, none⟩) l.length l.length) l := by
 refine ⟨by simp, .inr ⟨w.heap.size, l.length, _, rfl, Nat.le_refl _, heap_alloc_new w _, Nat.le_refl _, hl, by simp, by simpa using List.take_of_length_le (by simp)⟩⟩

theorem below_drewN {B : Nat} {a w : World} (h : Below B a w) (n : Nat) : Below B a (w.drewN n) := ⟨h.os, h.tape, h.output, h.size, h.block⟩
theorem below_of_drewN (w : World) (n : Nat) : Below w.heap.size w (w.drewN n) := below_drewN (Below.refl _ _) n
/-- Two calls one behind the other. -/
theorem below_then {a b c : World} (h : Below a.heap.size a b) (k : Below b.heap.size b c) : Below a.heap.size a c := h.trans (k.mono h.size)

theorem Row.own {w : World} {l : List UInt8} {B : Nat} (h : Row w B l) (base : Nat) (hb : base ≤ B) (hl : l.length ≤ maxLen) : Own w base (.slice (some ⟨B, 0, none⟩) l.length l.length) l := by
 obtain ⟨c, hh, hs, hc⟩ : ∃ c, w.heap[B]? = some (.cells c 5 (0, 0)) ∧ c.size = l.length ∧ ∀ i, i < l.length → c[i]? = some (bV (l.getD i 0)) := by
  have := h
  unfold Row World.rowIs at this
  obtain ⟨c, h1, h2, h3⟩ := this
  exact ⟨c, h1, h2, h3⟩
 refine ⟨by simp, .inr ⟨B, l.length, c, rfl, hb, hh, Nat.le_refl _, hl, by omega, ?_⟩⟩
 apply List.ext_getElem?
 intro i
 rw [List.getElem?_take]
 by_cases hi : i < l.length
 ·rw [if_pos (by omega), Array.getElem?_toList, hc i hi]
  simp [hi]
 ·rw [if_neg (by omega), List.getElem?_eq_none (by simpa using hi)]

end Go.Proofs.YtaekanhjkpoifaaGreatDoor

/-
 append of bytes onto a slice of the call's own, whatever the source (nil, empty, other). Own work, over the library's law on rows of the call's own.
-/
namespace Go.Proofs.YtaekanhjkpoifaaGreatDoor
open Go.RowKit P
set_option linter.unusedVariables false

theorem add_plain (b off j : Nat) : (⟨b, off, none⟩ : Addr).add j = ⟨b, off + j, none⟩ := by unfold Addr.add; split <;> simp_all

theorem run_app_bytes {w : World} {base : Nat} {v : Value} {l r : List UInt8} {A : Option Addr} (c n : Nat) (ty : TypeId) (hn : n = r.length) (hown : Own w base v l) (hr : Bs w A r)
  (hlen : l.length + r.length ≤ 1000000000) (hbase : base ≤ w.heap.size) :
  ∃ v' w', (Builtin.append_ #[22, 22] ty #[v, .slice A n c]).run Tryz.prog w = .ok v' w' ∧ Own w' base v' (l ++ r) ∧ w.grownBy w' v.ownBlock ∧
   (v'.ownBlock = v.ownBlock ∨ v'.ownBlock = some w.heap.size) := by
 subst hn
 obtain ⟨i, hi, hz, hs, hb⟩ := info_parts Tryz.infoB
 cases A with
 | none =>
  have h0 : r = [] := by
   cases r with
   | nil => rfl
   | cons x t => obtain ⟨b, off, e, _⟩ := hr 0 (by simp); cases e
  subst h0
  refine ⟨v, w, ?_, by simpa using hown, World.grownBy.refl w _, .inl rfl⟩
  rcases hown.2 with ⟨rfl, h1⟩ | ⟨g, cap, cur, rfl, _, _, hnc, _⟩
  ·simp [Builtin.append_, run_underlying Tryz.underlying22, sizeOf, typeInfo, hi, Builtin.lenOf, Builtin.firstCells]
  ·simp [Builtin.append_, run_underlying Tryz.underlying22, sizeOf, typeInfo, hi, Builtin.lenOf, Builtin.firstCells, hnc, storeCells]
 | some a =>
  have hcells : ∀ j u, (r.map bV)[j]? = some u → w.cell? (a.add j) = some u := by
   intro j u hu
   have hj : j < r.length := by
    have := (List.getElem?_eq_some_iff.1 hu).1
    simpa using this
   obtain ⟨b, off, e, _, hc⟩ := hr j hj
   cases e
   rw [add_plain, hc]
   simp [hj, bV] at hu
   rw [← hu]
  obtain ⟨v', w', hrun, h2, h3, _, h5⟩ := run_append_own_at (P := Tryz.prog) w base 22 ty 5 i (.int .u8 0) 1 1 Tryz.underlying22 hi hz hs hb rfl (by omega) v l.length (l.map bV) hown a r.length c (r.map bV)
   (by simp) hcells (by intro u hu; simp only [List.mem_map] at hu; obtain ⟨x, _, rfl⟩ := hu; rfl) (by unfold maxLen; omega) (by omega) hbase
  refine ⟨v', w', hrun, ?_, h3, h5⟩
  unfold Own
  rw [List.length_append, List.map_append]
  exact h2

theorem wpList_app_bytes {w : World} {ops : Array Oper} {rest : List Oper} {o : Oper} {a : Act} {Q : Exit → Act → World → Prop} (hgd : Region.wanted o (yielded ops a.tmps) = true) (s x : Operand)
  (ho : o.op = .call { callee := .builtin .append, args := #[s, x], argTypes := #[22, 22] })
  (base : Nat) (v : Value) (l r : List UInt8) (A : Option Addr) (n c : Nat) (hs : a.eval s = v) (hx : a.eval x = .slice A n c) (hn : n = r.length) (hown : Own w base v l) (hr : Bs w A r)
  (hlen : l.length + r.length ≤ 1000000000) (hbase : base ≤ w.heap.size)
  (h : ∀ v' w', Own w' base v' (l ++ r) → w.grownBy w' v.ownBlock → (v'.ownBlock = v.ownBlock ∨ v'.ownBlock = some w.heap.size) → wpList Tryz.prog ops Q rest (a.put o.dst v') w') : wpList Tryz.prog ops Q (o :: rest) a w := by
 refine BigFrame.wpList_want hgd fun K hK => ?_
 obtain ⟨v', w', hrun, h2, h3, h4⟩ := run_app_bytes c n o.type hn hown hr hlen hbase
 unfold Oper.wp execOp
 simp only [ho, resolve, invoke, builtin, Sem.run_bind, Sem.run_pure, Result.andThen_ok, List.map_toArray, List.map_cons, List.map_nil, hs, hx, hrun]
 exact hK _ _ (h v' w' h2 h3 h4)
end Go.Proofs.YtaekanhjkpoifaaGreatDoor

/-
 How values of Go types lie in cells and what they read as (Lay): reading, owning with the list of blocks, for scalars, byte slices, pairs and slices of anything. Own work.
-/
namespace Go.Proofs.YtaekanhjkpoifaaGreatDoor
open Go.RowKit P
set_option linter.unusedVariables false

theorem Bs.of_heap {w w' : World} {A : Option Addr} {l : List UInt8} (h : Bs w A l) (hs : w.heap.size ≤ w'.heap.size)
  (hk : ∀ b off, A = some ⟨b, off, none⟩ → 0 < l.length → w'.heap[b]? = w.heap[b]?) : Bs w' A l := by
 intro k hkl
 obtain ⟨b, off, hA, hlt, hc⟩ := h k hkl
 exact ⟨b, off, hA, Nat.lt_of_lt_of_le hlt hs, (World.cell?_of_block (w := w) (hk b off hA (by omega))).trans hc⟩

structure Lay (α : Type) where
 sz : Nat
 rd : World → List Value → α → Prop
 ow : World → List Value → α → List Nat → Prop
 len : ∀ {w : World} {cs : List Value} {x : α}, rd w cs x → cs.length = sz
 one : ∀ {w : World} {cs : List Value} {x : α}, rd w cs x → ∀ u ∈ cs, u.oneCell' = true
 below : ∀ {w w' : World} {cs : List Value} {x : α}, rd w cs x → Below w.heap.size w w' → rd w' cs x
 read : ∀ {w : World} {cs : List Value} {x : α} {fp : List Nat}, ow w cs x fp → rd w cs x
 lt : ∀ {w : World} {cs : List Value} {x : α} {fp : List Nat}, ow w cs x fp → ∀ k ∈ fp, k < w.heap.size
 kept : ∀ {w w' : World} {cs : List Value} {x : α} {fp : List Nat}, ow w cs x fp → (∀ k ∈ fp, w'.heap[k]? = w.heap[k]?) → w.heap.size ≤ w'.heap.size → ow w' cs x fp

/-- A slice of bytes. -/
def bRd (w : World) (cs : List Value) (l : List UInt8) : Prop := ∃ A c, cs = [.slice A l.length c] ∧ l.length ≤ c ∧ c ≤ maxLen ∧ Bs w A l
def bOw (w : World) (cs : List Value) (l : List UInt8) (fp : List Nat) : Prop := ∃ v, cs = [v] ∧ Own w 0 v l ∧ fp = v.ownBlock.toList

theorem Own.heap {w w' : World} {base : Nat} {v : Value} {l : List UInt8} (h : Own w base v l) (hk : ∀ k ∈ v.ownBlock.toList, w'.heap[k]? = w.heap[k]?) : Own w' base v l := by
 refine ⟨h.1, ?_⟩
 rcases h.2 with h2 | ⟨g, cap, cur, rfl, hb, hh, r⟩
 ·exact .inl h2
 ·exact .inr ⟨g, cap, cur, rfl, hb, (hk g (by simp [Value.ownBlock])).trans hh, r⟩

def Lay.bytes : Lay (List UInt8) where
 sz := 1
 rd := bRd
 ow := bOw
 len := by rintro w cs x ⟨A, c, rfl, _⟩; rfl
 one := by rintro w cs x ⟨A, c, rfl, _⟩ u hu; simp at hu; subst hu; rfl
 below := by rintro w w' cs x ⟨A, c, rfl, h1, h2, hB⟩ hb; exact ⟨A, c, rfl, h1, h2, hB.below hb⟩
 read := by
  rintro w cs x fp ⟨v, rfl, ho, rfl⟩
  obtain ⟨A, c, rfl, h1, h2, hB⟩ := ho.form
  exact ⟨A, c, rfl, h1, h2, hB⟩
 lt := by
  rintro w cs x fp ⟨v, rfl, ho, rfl⟩ k hk
  exact (World.ownsRow.lt ho k (by simpa using hk)).2
 kept := by
  rintro w w' cs x fp ⟨v, rfl, ho, rfl⟩ hk hs
  exact ⟨v, rfl, ho.heap hk, rfl⟩

/-- An int. -/
def Lay.int : Lay Int where
 sz := 1
 rd := fun _ cs x => cs = [.int .i64 x] ∧ -9223372036854775808 ≤ x ∧ x ≤ 9223372036854775807
 ow := fun _ cs x fp => cs = [.int .i64 x] ∧ (-9223372036854775808 ≤ x ∧ x ≤ 9223372036854775807) ∧ fp = []
 len := by rintro w cs x ⟨rfl, _⟩; rfl
 one := by rintro w cs x ⟨rfl, _⟩ u hu; simp at hu; subst hu; rfl
 below := by rintro w w' cs x h _; exact h
 read := by rintro w cs x fp ⟨h, b, _⟩; exact ⟨h, b⟩
 lt := by rintro w cs x fp ⟨_, _, rfl⟩ k hk; cases hk
 kept := by rintro w w' cs x fp h _ _; exact h

/-- One behind the other. -/
def Lay.pair {α β : Type} (a : Lay α) (b : Lay β) : Lay (α × β) where
 sz := a.sz + b.sz
 rd := fun w cs x => ∃ c1 c2, cs = c1 ++ c2 ∧ a.rd w c1 x.1 ∧ b.rd w c2 x.2
 ow := fun w cs x fp => ∃ c1 c2 f1 f2, cs = c1 ++ c2 ∧ a.ow w c1 x.1 f1 ∧ b.ow w c2 x.2 f2 ∧ fp = f1 ++ f2
 len := by rintro w cs x ⟨c1, c2, rfl, h1, h2⟩; rw [List.length_append, a.len h1, b.len h2]
 one := by
  rintro w cs x ⟨c1, c2, rfl, h1, h2⟩ u hu
  rcases List.mem_append.1 hu with h | h
  ·exact a.one h1 u h
  ·exact b.one h2 u h
 below := by rintro w w' cs x ⟨c1, c2, rfl, h1, h2⟩ hb; exact ⟨c1, c2, rfl, a.below h1 hb, b.below h2 hb⟩
 read := by rintro w cs x fp ⟨c1, c2, f1, f2, rfl, h1, h2, rfl⟩; exact ⟨c1, c2, rfl, a.read h1, b.read h2⟩
 lt := by
  rintro w cs x fp ⟨c1, c2, f1, f2, rfl, h1, h2, rfl⟩ k hk
  rcases List.mem_append.1 hk with h | h
  ·exact a.lt h1 k h
  ·exact b.lt h2 k h
 kept := by
  rintro w w' cs x fp ⟨c1, c2, f1, f2, rfl, h1, h2, rfl⟩ hk hs
  exact ⟨c1, c2, f1, f2, rfl, a.kept h1 (fun k h => hk k (List.mem_append.2 (.inl h))) hs, b.kept h2 (fun k h => hk k (List.mem_append.2 (.inr h))) hs, rfl⟩

/-- The slice that starts at A holds the values l, n cells each. -/
def Sl {α : Type} (n : Nat) (R : World → List Value → α → Prop) (w : World) (A : Option Addr) (l : List α) : Prop :=
 ∀ k (h : k < l.length), ∃ b off us, A = some ⟨b, off, none⟩ ∧ b < w.heap.size ∧ us.length = n ∧ (∀ j (hj : j < us.length), w.cell? ⟨b, off + (k * n + j), none⟩ = some us[j]) ∧ R w us l[k]

theorem Sl.nil {α : Type} (n : Nat) (R : World → List Value → α → Prop) (w : World) (A : Option Addr) : Sl n R w A [] := fun k h => by simp at h

theorem Sl.below {α : Type} {E : Lay α} {w w' : World} {A : Option Addr} {l : List α} (h : Sl E.sz E.rd w A l) (hb : Below w.heap.size w w') : Sl E.sz E.rd w' A l := by
 intro k hk
 obtain ⟨b, off, us, hA, hlt, hl, hc, hr⟩ := h k hk
 exact ⟨b, off, us, hA, Nat.lt_of_lt_of_le hlt hb.size, hl, fun j hj => (hb.cell (p := ⟨b, off + (k * E.sz + j), none⟩) hlt).trans (hc j hj), E.below hr hb⟩

/-- An element of one cell. -/
theorem Sl.at1 {α : Type} {R : World → List Value → α → Prop} {w : World} {A : Option Addr} {l : List α} (h : Sl 1 R w A l) (k : Nat) (hk : k < l.length) :
  ∃ b off v, A = some ⟨b, off, none⟩ ∧ b < w.heap.size ∧ w.cell? ⟨b, off + k, none⟩ = some v ∧ R w [v] l[k] := by
 obtain ⟨b, off, us, hA, hlt, hl, hc, hr⟩ := h k hk
 match us, hl with
 | [v], _ =>
  have := hc 0 (by simp)
  simp only [Nat.mul_one, Nat.add_zero] at this
  exact ⟨b, off, v, hA, hlt, this, hr⟩

theorem flat_get {β : Type} (n : Nat) : ∀ (es : List β) (f : β → List Value), (∀ e ∈ es, (f e).length = n) → ∀ k (hk : k < es.length) j (hj : j < (f es[k]).length), (es.flatMap f)[k * n + j]? = some (f es[k])[j] := by
 intro es f
 induction es with
 | nil => intro _ k hk; simp at hk
 | cons e t ih =>
  intro h k hk j hj
  have hn : (f e).length = n := h e (by simp)
  rw [List.flatMap_cons]
  cases k with
  | zero =>
   simp only [List.getElem_cons_zero] at hj ⊢
   rw [Nat.zero_mul, Nat.zero_add, List.getElem?_append_left hj, List.getElem?_eq_getElem hj]
  | succ k =>
   simp only [List.getElem_cons_succ] at hj ⊢
   rw [List.getElem?_append_right (by rw [hn, Nat.add_mul]; omega), hn, show (k + 1) * n + j - n = k * n + j by rw [Nat.add_mul]; omega]
   exact ih (fun e he => h e (by simp [he])) k (by simpa using hk) j hj

theorem flat_len {β : Type} (n : Nat) : ∀ (es : List β) (f : β → List Value), (∀ e ∈ es, (f e).length = n) → (es.flatMap f).length = es.length * n := by
 intro es f
 induction es with
 | nil => intro _; simp
 | cons e t ih =>
  intro h
  rw [List.flatMap_cons, List.length_append, h e (by simp), ih (fun e he => h e (by simp [he])), List.length_cons, Nat.add_mul]
  omega

/-- An element of a slice of the call's own: its cells, what it reads as, its blocks. -/
abbrev El (α : Type) := List Value × α × List Nat

def sOw {α : Type} (T : TypeId) (E : Lay α) (w : World) (cs : List Value) (l : List α) (fp : List Nat) : Prop :=
 ∃ (v : Value) (es : List (El α)), cs = [v] ∧ l = es.map (·.2.1) ∧ w.ownsRow 0 T E.sz v es.length (es.flatMap (·.1)) ∧ (∀ e ∈ es, E.ow w e.1 e.2.1 e.2.2) ∧ fp = v.ownBlock.toList ++ es.flatMap (·.2.2)

theorem ownsRow_form {w : World} {base : Nat} {T : TypeId} {n : Nat} {v : Value} {m : Nat} {xs : List Value} (h : w.ownsRow base T n v m xs) :
  ∃ A c, v = .slice A m c ∧ m ≤ c ∧ c ≤ maxLen ∧ ∀ i (hi : i < xs.length), ∃ b, A = some ⟨b, 0, none⟩ ∧ b < w.heap.size ∧ w.cell? ⟨b, i, none⟩ = some xs[i] := by
 obtain ⟨h1, h2⟩ := h
 rcases h2 with ⟨rfl, h0⟩ | ⟨g, cap, cur, rfl, hb, hh, hn, hc, hs, ht⟩
 ·subst h0
  exact ⟨none, 0, rfl, Nat.le_refl _, by unfold maxLen; omega, fun i hi => by omega⟩
 ·refine ⟨_, cap, rfl, hn, hc, fun i hi => ⟨g, rfl, (Array.getElem?_eq_some_iff.1 hh).1, ?_⟩⟩
  rw [cell_of_row w g i cur _ (0, 0) hh]
  have h3 : (cur.toList.take (m * n))[i]? = xs[i]? := by rw [ht]
  rw [List.getElem?_take, if_pos (by omega)] at h3
  simp only [Array.getElem?_toList] at h3
  rw [h3]
  simp [hi]

theorem sOw_form {α : Type} {T : TypeId} {E : Lay α} {w : World} {cs : List Value} {l : List α} {fp : List Nat} (h : sOw T E w cs l fp) :
  ∃ A c, cs = [.slice A l.length c] ∧ l.length ≤ c ∧ c ≤ maxLen ∧ Sl E.sz E.rd w A l := by
 obtain ⟨v, es, rfl, rfl, hrow, hes, rfl⟩ := h
 obtain ⟨A, c, rfl, h1, h2, h3⟩ := ownsRow_form hrow
 have hl : ∀ e ∈ es, (e.1 : List Value).length = E.sz := fun e he => E.len (E.read (hes e he))
 refine ⟨A, c, by simp, by simpa using h1, h2, fun k hk => ?_⟩
 rw [List.length_map] at hk
 have hfl := flat_len E.sz es (·.1) hl
 have hek := hes es[k] (List.getElem_mem hk)
 have hlk := hl es[k] (List.getElem_mem hk)
 have key : ∀ j (hj : j < (es[k].1).length), ∃ b, A = some ⟨b, 0, none⟩ ∧ b < w.heap.size ∧ w.cell? ⟨b, k * E.sz + j, none⟩ = some (es[k].1)[j] := by
  intro j hj
  have hg := flat_get E.sz es (·.1) hl k hk j hj
  obtain ⟨hi, hv⟩ := List.getElem?_eq_some_iff.1 hg
  obtain ⟨b, hA, hb, hc⟩ := h3 (k * E.sz + j) hi
  exact ⟨b, hA, hb, by rw [hc, hv]⟩
 rcases hrow.2 with ⟨hv, h0⟩ | ⟨g, cap, cur, hv, _, hh, _⟩
 ·omega
 ·cases hv
  refine ⟨g, 0, es[k].1, rfl, (Array.getElem?_eq_some_iff.1 hh).1, hlk, fun j hj => ?_, by rw [List.getElem_map]; exact E.read hek⟩
  obtain ⟨b, hA, hb, hc⟩ := key j hj
  cases hA
  rw [Nat.zero_add]
  exact hc

/-- A slice of anything. -/
def Lay.slice {α : Type} (T : TypeId) (E : Lay α) : Lay (List α) where
 sz := 1
 rd := fun w cs l => ∃ A c, cs = [.slice A l.length c] ∧ l.length ≤ c ∧ c ≤ maxLen ∧ Sl E.sz E.rd w A l
 ow := sOw T E
 len := by rintro w cs x ⟨A, c, rfl, _⟩; rfl
 one := by rintro w cs x ⟨A, c, rfl, _⟩ u hu; simp at hu; subst hu; rfl
 below := by rintro w w' cs x ⟨A, c, rfl, h1, h2, h3⟩ hb; exact ⟨A, c, rfl, h1, h2, h3.below hb⟩
 read := by rintro w cs x fp h; exact sOw_form h
 lt := by
  rintro w cs x fp ⟨v, es, rfl, rfl, hrow, hes, rfl⟩ k hk
  rcases List.mem_append.1 hk with h | h
  ·exact (World.ownsRow.lt hrow k (by simpa using h)).2
  ·obtain ⟨e, he, hk⟩ := List.mem_flatMap.1 h
   exact E.lt (hes e he) k hk
 kept := by
  rintro w w' cs x fp ⟨v, es, rfl, rfl, hrow, hes, rfl⟩ hk hs
  refine ⟨v, es, rfl, rfl, ⟨hrow.1, ?_⟩, fun e he => E.kept (hes e he) (fun k h => hk k (List.mem_append.2 (.inr (List.mem_flatMap.2 ⟨e, he, h⟩)))) hs, rfl⟩
  rcases hrow.2 with h2 | ⟨g, cap, cur, rfl, hb, hh, r⟩
  ·exact .inl h2
  ·exact .inr ⟨g, cap, cur, rfl, hb, (hk g (List.mem_append.2 (.inl (by simp [Value.ownBlock])))).trans hh, r⟩

/-- What a call ends in that makes a value of its own, in memory from the heap's size at its begin on. -/
def Gives {α : Type} (L : Lay α) (wrap : List Value → Value) (x : α) (w : World) (e : Ending) (w' : World) : Prop :=
 ∃ cs fp, e = .returned (wrap cs) ∧ L.ow w' cs x fp ∧ fp.Nodup ∧ (∀ k ∈ fp, w.heap.size ≤ k) ∧ Below w.heap.size w w'

def wSlice (cs : List Value) : Value := cs.headD (.slice none 0 0)
def wAgg (cs : List Value) : Value := .agg cs.toArray

/-- From w to w' nothing that was there has turned but the blocks of fp. -/
structure Keeps (fp : List Nat) (w w' : World) : Prop where
 os : w'.os = w.os
 tape : w'.tape = w.tape
 output : w'.output = w.output
 size : w.heap.size ≤ w'.heap.size
 block : ∀ k, k < w.heap.size → k ∉ fp → w'.heap[k]? = w.heap[k]?

theorem Keeps.refl (fp : List Nat) (w : World) : Keeps fp w w := ⟨rfl, rfl, rfl, Nat.le_refl _, fun _ _ _ => rfl⟩
theorem Keeps.trans {fp : List Nat} {a b c : World} (h : Keeps fp a b) (k : Keeps fp b c) : Keeps fp a c :=
 ⟨k.os.trans h.os, k.tape.trans h.tape, k.output.trans h.output, Nat.le_trans h.size k.size, fun i hi hn => (k.block i (Nat.lt_of_lt_of_le hi h.size) hn).trans (h.block i hi hn)⟩
theorem Keeps.mono {fp fq : List Nat} {w w' : World} (h : Keeps fp w w') (hs : ∀ k ∈ fp, k ∈ fq) : Keeps fq w w' :=
 ⟨h.os, h.tape, h.output, h.size, fun i hi hn => h.block i hi (fun x => hn (hs i x))⟩
theorem Keeps.of_grown {w w' : World} {row : Option Nat} (h : w.grownBy w' row) : Keeps row.toList w w' :=
 ⟨h.os, h.tape, h.output, h.size, fun i hi hn => h.block i hi (fun e => hn (by simp [← e]))⟩
theorem Keeps.below {fp : List Nat} {w w' : World} (h : Keeps fp w w') {B : Nat} (hB : B ≤ w.heap.size) (hf : ∀ k ∈ fp, B ≤ k) : Below B w w' :=
 ⟨h.os, h.tape, h.output, h.size, fun i hi => h.block i (by omega) (fun x => by have := hf i x; omega)⟩
theorem Keeps.of_below {fp : List Nat} {w w' : World} (h : Below w.heap.size w w') : Keeps fp w w' := ⟨h.os, h.tape, h.output, h.size, fun i hi _ => h.block i hi⟩

theorem Lay.keeps {α : Type} (L : Lay α) {w w' : World} {cs : List Value} {x : α} {fp fq : List Nat} (h : L.ow w cs x fp) (hk : Keeps fq w w') (hd : ∀ k ∈ fp, k ∉ fq) : L.ow w' cs x fp :=
 L.kept h (fun k hkf => hk.block k (L.lt h k hkf) (hd k hkf)) hk.size
theorem Lay.owBelow {α : Type} (L : Lay α) {w w' : World} {cs : List Value} {x : α} {fp : List Nat} (h : L.ow w cs x fp) (hb : Below w.heap.size w w') : L.ow w' cs x fp :=
 L.kept h (fun k hkf => hb.block k (L.lt h k hkf)) hb.size

theorem Own.ow {w : World} {base : Nat} {v : Value} {l : List UInt8} (h : Own w base v l) : Lay.bytes.ow w [v] l v.ownBlock.toList := ⟨v, rfl, h.mono (Nat.zero_le _), rfl⟩
theorem Own.fp {w : World} {base : Nat} {v : Value} {l : List UInt8} (h : Own w base v l) : v.ownBlock.toList.Nodup ∧ ∀ k ∈ v.ownBlock.toList, base ≤ k :=
 ⟨by cases v.ownBlock <;> simp, fun k hk => (World.ownsRow.lt h k (by simpa using hk)).1⟩

theorem ownsRow_of_rowIs {w : World} {g : Nat} {T : TypeId} {m n : Nat} {xs : List Value} {f : Nat → Value} (h : w.rowIs g T (m * n) f) (hl : xs.length = m * n) (hx : ∀ i (hi : i < xs.length), f i = xs[i]) (hm : m ≤ maxLen) (base : Nat) (hb : base ≤ g) :
  w.ownsRow base T n (.slice (some ⟨g, 0, none⟩) m m) m xs := by
 have h' := h
 unfold World.rowIs at h'
 obtain ⟨c, hh, hs, hc⟩ := h'
 refine ⟨hl, .inr ⟨g, m, c, rfl, hb, hh, Nat.le_refl _, hm, hs, ?_⟩⟩
 apply List.ext_getElem?
 intro i
 rw [List.getElem?_take]
 by_cases hi : i < m * n
 ·rw [if_pos hi, Array.getElem?_toList, hc i hi, hx i (by omega), List.getElem?_eq_getElem (by omega)]
 ·rw [if_neg hi, List.getElem?_eq_none (by omega)]

theorem run_mk {P : Program} (t e : TypeId) (z : Value) (size bytes : Nat) (ht : P.underlying t = some (.slice e)) (hinfo : (P.info? e).map (fun i => (i.zero, i.size, i.bytes)) = some (some z, size, bytes))
  (n : Nat) (hbytes : bytes * n ≤ 281474976710656) (h63 : n ≤ 9223372036854775807) (w : World) :
  (Instr.makeSlice t (.int .i64 (n : Int)) (.int .i64 (n : Int))).run P w = .ok (.slice (some ⟨w.heap.size, 0, none⟩) n n) (w.alloc (.cells (madeCells z.cells (n * size)) e)) := by
 obtain ⟨i, hi, hzz⟩ := Option.map_eq_some_iff.1 hinfo
 simp only [Prod.mk.injEq] at hzz
 obtain ⟨hz, hs, hb⟩ := hzz
 have hbb : (i.bytes : Int) * (n : Int) ≤ 281474976710656 := by
  rw [hb]
  have h : ((bytes * n : Nat) : Int) ≤ 281474976710656 := by omega
  rwa [Int.natCast_mul] at h
 have := run_make (P := P) w t e i z ht hi hz .i64 .i64 n n (by omega) (Int.le_refl _) hbb (by omega)
 simpa [hs] using this

theorem bcell {W w1 : World} (hb : Below W.heap.size W w1) : (∀ b o, b < W.heap.size → w1.cell? ⟨b, o, none⟩ = W.cell? ⟨b, o, none⟩) ∧ (∀ b o, b < W.heap.size → w1.frozen? ⟨b, o, none⟩ = W.frozen? ⟨b, o, none⟩) :=
 ⟨fun b o h => hb.cell (p := ⟨b, o, none⟩) h, fun b o h => hb.frozen (p := ⟨b, o, none⟩) h⟩

theorem Own.setBelow {w : World} {base : Nat} {v : Value} {l : List UInt8} (h : Own w base v l) {a : Addr} (ha : a.block < base) (u : Value) : Own (w.setCell a u) base v l := ownsRow_setCell_below h ha u

theorem nodup_snoc {l : List Nat} {k : List Nat} {B : Nat} (h : l.Nodup) (hk : k.Nodup) (hl : ∀ x ∈ l, x < B) (hb : ∀ x ∈ k, B ≤ x) : (l ++ k).Nodup := by
 rw [List.nodup_append]
 exact ⟨h, hk, fun a ha b hb2 e => by have := hl a ha; have := hb b hb2; omega⟩

/-- Block g is a new row of n elements that is being filled: the elements es stand in it, zeros (z) behind them. -/
structure Filling {α : Type} (T : TypeId) (E : Lay α) (z : Nat → Value) (n : Nat) (w : World) (g : Nat) (es : List (El α)) : Prop where
 els : ∀ e ∈ es, E.ow w e.1 e.2.1 e.2.2
 row : w.rowIs g T (n * E.sz) (fun j => ((es.flatMap (·.1))[j]?).getD (z j))
 nodup : (es.flatMap (·.2.2)).Nodup
 bd : ∀ b ∈ es.flatMap (·.2.2), g < b

theorem Filling.made {α : Type} {T : TypeId} {E : Lay α} (zc : Array Value) (n : Nat) (w : World) : Filling T E (fun j => zc[j % zc.size]!) n (w.alloc (.cells (madeCells zc (n * E.sz)) T)) w.heap.size [] :=
 ⟨by simp, ⟨_, heap_alloc_new w _, size_madeCells _ _, fun i hi => by simp [madeCells, hi]⟩, by simp, by simp⟩
theorem Filling.flat {α : Type} {T : TypeId} {E : Lay α} {z : Nat → Value} {n : Nat} {w : World} {g : Nat} {es : List (El α)} (h : Filling T E z n w g es) : (es.flatMap (·.1)).length = es.length * E.sz :=
 flat_len E.sz es (·.1) (fun e he => E.len (E.read (h.els e he)))

theorem Filling.lt {α : Type} {T : TypeId} {E : Lay α} {z : Nat → Value} {n : Nat} {w : World} {g : Nat} {es : List (El α)} (h : Filling T E z n w g es) : ∀ b ∈ es.flatMap (·.2.2), b < w.heap.size := by
 intro b hb
 obtain ⟨e, he, hk⟩ := List.mem_flatMap.1 hb
 exact E.lt (h.els e he) b hk

/-- One element more: made behind all that was there, then stored. -/
theorem Filling.snoc {α : Type} {T : TypeId} {E : Lay α} {z : Nat → Value} {n : Nat} {w w1 w2 : World} {g : Nat} {es : List (El α)} (h : Filling T E z n w g es) (hb : Below w.heap.size w w1) {us : List Value} {x : α} {fp : List Nat}
  (ho : E.ow w1 us x fp) (hn : fp.Nodup) (hf : ∀ k ∈ fp, w.heap.size ≤ k)
  (hr : w2.rowIs g T (n * E.sz) (fun j => if es.length * E.sz ≤ j ∧ j < es.length * E.sz + E.sz then (us[j - es.length * E.sz]?).getD (z j) else ((es.flatMap (·.1))[j]?).getD (z j)))
  (hk : ∀ k, k ≠ g → w2.heap[k]? = w1.heap[k]?) (hs : w1.heap.size ≤ w2.heap.size) : Filling T E z n w2 g (es ++ [(us, x, fp)]) := by
 have hg : g < w.heap.size := h.row.lt
 have hus : us.length = E.sz := E.len (E.read ho)
 have hfl := h.flat
 refine ⟨fun e he => ?_, hr.congr (fun j hj => ?_), ?_, fun b hbm => ?_⟩
 ·rcases List.mem_append.1 he with he | he
  ·refine E.kept (E.owBelow (h.els e he) hb) (fun k hkm => hk k ?_) hs
   intro hkg
   have := h.bd k (List.mem_flatMap.2 ⟨e, he, hkm⟩)
   omega
  ·have : e = (us, x, fp) := by simpa using he
   subst this
   exact E.kept ho (fun k hkm => hk k (by have := hf k hkm; omega)) hs
 ·rw [List.flatMap_append]
  simp only [List.flatMap_cons, List.flatMap_nil, List.append_nil]
  by_cases h1 : j < es.length * E.sz
  ·rw [if_neg (by omega), List.getElem?_append_left (by rw [hfl]; exact h1)]
  ·by_cases h2 : j < es.length * E.sz + E.sz
   ·rw [if_pos ⟨by omega, h2⟩, List.getElem?_append_right (by rw [hfl]; omega), hfl]
   ·rw [if_neg (by omega), List.getElem?_eq_none (l := es.flatMap (·.1)) (by rw [hfl]; omega), List.getElem?_eq_none (by rw [List.length_append, hfl, hus]; omega)]
 ·rw [List.flatMap_append]
  simp only [List.flatMap_cons, List.flatMap_nil, List.append_nil]
  exact nodup_snoc h.nodup hn h.lt hf
 ·rw [List.flatMap_append] at hbm
  simp only [List.flatMap_cons, List.flatMap_nil, List.append_nil] at hbm
  rcases List.mem_append.1 hbm with hbm | hbm
  ·exact h.bd b hbm
  ·have := hf b hbm; omega

theorem Filling.done {α : Type} {T : TypeId} {E : Lay α} {z : Nat → Value} {n : Nat} {w : World} {g : Nat} {es : List (El α)} (h : Filling T E z n w g es) (hn : es.length = n) (hm : n ≤ maxLen) :
  (Lay.slice T E).ow w [.slice (some ⟨g, 0, none⟩) n n] (es.map (·.2.1)) (g :: es.flatMap (·.2.2)) ∧ (g :: es.flatMap (·.2.2)).Nodup ∧ ∀ k ∈ g :: es.flatMap (·.2.2), g ≤ k := by
 refine ⟨⟨_, es, rfl, rfl, ?_, h.els, by simp [Value.ownBlock]⟩, ?_, ?_⟩
 ·subst hn
  refine ownsRow_of_rowIs h.row h.flat (fun i hi => ?_) hm 0 (Nat.zero_le _)
  rw [List.getElem?_eq_getElem hi]
  rfl
 ·rw [List.nodup_cons]
  exact ⟨fun hg => by have := h.bd g hg; omega, h.nodup⟩
 ·intro k hk
  rcases List.mem_cons.1 hk with rfl | hk
  ·exact Nat.le_refl _
  ·exact Nat.le_of_lt (h.bd k hk)


theorem split_at {β : Type} (es : List β) (i : Nat) (hi : i < es.length) : ∃ a e b, es = a ++ e :: b ∧ a.length = i ∧ e = es[i] :=
 ⟨es.take i, es[i], es.drop (i + 1), by rw [← List.drop_eq_getElem_cons hi, List.take_append_drop], by rw [List.length_take]; omega, rfl⟩

/-- One element of an own slice: its cells, its blocks, and the slice again when nothing but this element has turned. -/
theorem Lay.focus {α : Type} {T : TypeId} {E : Lay α} {w : World} {v : Value} {l : List α} {fp : List Nat} (h : (Lay.slice T E).ow w [v] l fp) (hn : fp.Nodup) (i : Nat) (hi : i < l.length) :
  ∃ g c us fi, v = .slice (some ⟨g, 0, none⟩) l.length c ∧ us.length = E.sz ∧ (∀ j (hj : j < us.length), w.cell? ⟨g, i * E.sz + j, none⟩ = some us[j]) ∧ g < w.heap.size ∧ w.frozen? ⟨g, 0, none⟩ = false ∧
   E.ow w us l[i] fi ∧ fi.Nodup ∧ (∀ k ∈ fi, k ∈ fp ∧ k ≠ g) ∧ ∀ w' x', Keeps fi w w' → E.ow w' us x' fi → (Lay.slice T E).ow w' [v] (l.set i x') fp := by
 obtain ⟨v', es, hv, hl, hrow, hes, hfp⟩ := h
 cases hv
 subst hl
 rw [List.length_map] at hi
 obtain ⟨a, e, b, hab, ha, he⟩ := split_at es i hi
 have hlen : ∀ e ∈ es, (e.1 : List Value).length = E.sz := fun e he => E.len (E.read (hes e he))
 have hei : (es.map (·.2.1))[i]'(by rw [List.length_map]; exact hi) = e.2.1 := by rw [List.getElem_map, ← he]
 have heo := hes e (by rw [he]; exact List.getElem_mem hi)
 rcases hrow.2 with ⟨hv, h0⟩ | ⟨g, cap, cur, hv, _, hh, hnc, hcm, hcs, htk⟩
 ·omega
 ·subst hv
  have hg : g < w.heap.size := (Array.getElem?_eq_some_iff.1 hh).1
  rw [hfp, hab, List.flatMap_append, List.flatMap_cons] at hn
  simp only [Value.ownBlock, Option.toList_some, List.singleton_append, List.nodup_cons, List.mem_append, not_or] at hn
  obtain ⟨⟨n1, n2, n3⟩, hn⟩ := hn
  rw [List.nodup_append] at hn
  obtain ⟨na, hn, nd1⟩ := hn
  rw [List.nodup_append] at hn
  obtain ⟨ne, nb, nd2⟩ := hn
  refine ⟨g, cap, e.1, e.2.2, by simp, hlen e (by rw [he]; exact List.getElem_mem hi), fun j hj => ?_, hg, by simp [World.frozen?, hh], by rw [hei]; exact heo, ne, fun k hk => ⟨?_, fun x => n2 (by rw [← x]; exact hk)⟩, fun w' x' hke hox => ?_⟩
  ·have hj' : j < (es[i].1).length := by rw [← he]; exact hj
   have hgt := flat_get E.sz es (·.1) hlen i hi j hj'
   have h3 : (cur.toList.take (es.length * E.sz))[i * E.sz + j]? = (es.flatMap (·.1))[i * E.sz + j]? := by rw [htk]
   rw [hgt, List.getElem?_take] at h3
   rw [cell_of_row w g _ cur _ (0, 0) hh]
   split at h3
   ·simp only [Array.getElem?_toList] at h3
    rw [h3]
    simp only [he]
   ·cases h3
  ·rw [hfp, hab, List.flatMap_append, List.flatMap_cons]
   simp [hk]
  ·have hset : (es.map (·.2.1)).set i x' = (a ++ (e.1, x', e.2.2) :: b).map (·.2.1) := by
    rw [hab, List.map_append, List.map_cons, List.set_append_right _ _ (by rw [List.length_map]; omega), List.length_map, ha, Nat.sub_self, List.set_cons_zero, List.map_append, List.map_cons]
   rw [hset]
   refine ⟨_, a ++ (e.1, x', e.2.2) :: b, rfl, rfl, ?_, ?_, ?_⟩
   ·have e1 : (a ++ (e.1, x', e.2.2) :: b).length = es.length := by rw [hab]; simp
    have e2 : (a ++ (e.1, x', e.2.2) :: b).flatMap (·.1) = es.flatMap (·.1) := by rw [hab]; simp
    rw [e1, e2]
    exact ⟨hrow.1, .inr ⟨g, cap, cur, rfl, Nat.zero_le _, (hke.block g hg (fun x => n2 x)).trans hh, hnc, hcm, hcs, htk⟩⟩
   ·intro f hf
    rcases List.mem_append.1 hf with hf | hf
    ·refine E.keeps (hes f (by rw [hab]; exact List.mem_append.2 (.inl hf))) hke (fun k hk hk2 => ?_)
     exact nd1 k (List.mem_flatMap.2 ⟨f, hf, hk⟩) k (List.mem_append.2 (.inl hk2)) rfl
    ·rcases List.mem_cons.1 hf with rfl | hf
     ·exact hox
     ·refine E.keeps (hes f (by rw [hab]; exact List.mem_append.2 (.inr (List.mem_cons_of_mem _ hf)))) hke (fun k hk hk2 => ?_)
      exact nd2 k hk2 k (List.mem_flatMap.2 ⟨f, hf, hk⟩) rfl
   ·rw [hfp, hab]; simp

end Go.Proofs.YtaekanhjkpoifaaGreatDoor

/-
 What all laws share: the arguments opened into cells. Own work.
-/
namespace Go.Proofs.YtaekanhjkpoifaaGreatDoor
open Go.ChangeShapes Go.WideShapes Go.ChangeAt Go.RowKit P
set_option linter.unusedVariables false

theorem own : ownKnob Tryz.prog.godebug = none := by kernel_rfl
theorem laidOut : laidOutB Tryz.prog = true := by kernel_rfl
/-- What the guide's opening of a slice of bytes gives. -/
def IsRow (k : IntKind) (w : World) (a : Option Addr) (len cap : Nat) (zs : List Int) : Prop :=
 (a = none ∧ len = 0 ∧ cap = 0 ∧ zs = []) ∨
 ∃ x, a = some x ∧ len ≤ cap ∧ cap ≤ maxLen ∧ zs.length = cap ∧ (∀ i, i < zs.length → w.cell? (x.add i) = some (.int k (zs.getD i 0))) ∧ ∀ n ∈ zs, (Lit.int k n).wf = true

theorem bs_of_row {w : World} {a : Option Addr} {len cap : Nat} {zs : List Int} (h : IsRow .u8 w a len cap zs) : ∃ l : List UInt8, l.length = len ∧ len ≤ cap ∧ cap ≤ maxLen ∧ Bs w a l := by
 rcases h with ⟨rfl, rfl, rfl, rfl⟩ | ⟨x, rfl, hl, hm, hz, hc, hw⟩
 ·exact ⟨[], rfl, Nat.le_refl _, by unfold maxLen; omega, fun k hk => by simp at hk⟩
 ·refine ⟨(zs.take len).map fun z => UInt8.ofNat z.toNat, by simp; omega, hl, hm, fun k hk => ?_⟩
  have hk2 : k < len := by simp at hk; omega
  have hk3 : k < zs.length := by omega
  have hcell := hc k hk3
  have hspot := World.cell?_spot (hc 0 (by omega))
  obtain ⟨b, off, spot⟩ := x
  have hs : spot = none := by simpa [Addr.add] using hspot
  subst hs
  have hadd : (⟨b, off, none⟩ : Addr).add k = ⟨b, off + k, none⟩ := by unfold Addr.add; split <;> simp_all
  rw [hadd] at hcell
  refine ⟨b, off, rfl, World.block_lt_of_cell? w _ hcell, ?_⟩
  rw [hcell]
  have hwf := hw (zs[k]) (List.getElem_mem hk3)
  have hx : 0 ≤ zs[k] ∧ zs[k] ≤ 255 := by simpa [Lit.wf, IntKind.min, IntKind.max, IntKind.signed, IntKind.bits] using hwf
  have e1 : zs.getD k 0 = zs[k] := by simp [List.getD, hk3]
  have e2 : (((zs.take len).map fun z => UInt8.ofNat z.toNat)[k]).toNat = (zs[k]).toNat := by
   simp only [List.getElem_map, List.getElem_take, UInt8.toNat_ofNat']
   omega
  rw [e1, e2]
  congr 2
  omega

end Go.Proofs.YtaekanhjkpoifaaGreatDoor

/-
 Arguments opened: what the form's reading of an argument says in the words of the layouts. Own work.
-/
namespace Go.Proofs.YtaekanhjkpoifaaGreatDoor
open Go.ChangeShapes Go.WideShapes Go.ChangeAt Go.RowKit Go.Deep P
set_option linter.unusedVariables false

section
variable {H : Type} {enc : TypeId × Value → H} {w : World} {base : Nat} {spare : Nat → Bool} {held : Bool}

/-- Whatever reads as data of type t reads in layout L. -/
def Reads {α : Type} (enc : TypeId × Value → H) (w : World) (base : Nat) (spare : Nat → Bool) (held : Bool) (t : TypeId) (L : Lay α) : Prop :=
 ∀ (fuel : Nat) (cs : List Value) (x : DataW H × List MemPlace), DataW.trod enc Tryz.prog w base spare held fuel t cs = some x → ∃ d, L.rd w cs d

theorem reads_bytes (hsp : ∀ b, spare b = true) : Reads enc w base spare held 22 Lay.bytes := by
 intro fuel cs x hf
 have hrow : ∃ A len cap zs, cs = [.slice A len cap] ∧ IsRow .u8 w A len cap zs := by
  rcases open_ints Tryz.underlying22 Tryz.underlying5 (by kernel_rfl) hf with ⟨hcs, _⟩ | ⟨x, l, c, zs, hcs, _, hl, hm, hz, _, hcell, hwz⟩
  ·exact ⟨_, _, _, [], hcs, .inl ⟨rfl, rfl, rfl, rfl⟩⟩
  ·exact ⟨_, _, _, zs, hcs, .inr ⟨_, rfl, hl, hm, by rw [hz, if_pos (hsp _)], hcell, hwz⟩⟩
 obtain ⟨A, len, cap, zs, rfl, hr⟩ := hrow
 obtain ⟨l, rfl, h1, h2, h3⟩ := bs_of_row hr
 exact ⟨l, A, cap, rfl, h1, h2, h3⟩

theorem reads_int : Reads enc w base spare held 3 Lay.int := by
 intro fuel cs x hf
 obtain ⟨n, rfl, _, hw⟩ := DataW.trod_int Tryz.underlying3 hf
 exact ⟨n, rfl, by simpa [Lit.wf, IntKind.min, IntKind.max, IntKind.signed, IntKind.bits] using hw⟩

theorem choose_list {α : Type} {Q : Nat → α → Prop} : ∀ n, (∀ i, i < n → ∃ d, Q i d) → ∃ l : List α, l.length = n ∧ ∀ i (h : i < l.length), Q i l[i] := by
 intro n
 induction n with
 | zero => intro _; exact ⟨[], rfl, fun i h => by simp at h⟩
 | succ n ih =>
  intro h
  obtain ⟨l, hl, hq⟩ := ih (fun i hi => h i (by omega))
  obtain ⟨d, hd⟩ := h n (by omega)
  refine ⟨l ++ [d], by simp [hl], fun i hi => ?_⟩
  by_cases e : i < l.length
  ·rw [List.getElem_append_left e]; exact hq i e
  ·have : i = n := by simp at hi; omega
   subst this
   rw [List.getElem_append_right (by omega)]
   simpa [hl] using hd

theorem reads_slice {α : Type} {t e T : TypeId} {E : Lay α} (ht : Tryz.prog.underlying t = some (.slice e)) (hC : Tryz.prog.cellsOf e = E.sz) (hpos : 0 < E.sz) (he : Reads enc w base spare held e E) : Reads enc w base spare held t (Lay.slice T E) := by
 intro fuel cs x hf
 rcases open_slice ht hf with ⟨rfl, _⟩ | ⟨a, len, cap, m, n, D, Pl, rfl, hb, hl, hm, hmm, hx, hi⟩
 ·exact ⟨[], none, 0, rfl, Nat.le_refl _, by unfold maxLen; omega, Sl.nil _ _ _ _⟩
 ·have hlm : len ≤ m := by rw [hmm]; split <;> omega
  have key : ∀ i, i < len → ∃ d, ∃ us : List Value, us.length = E.sz ∧ (∀ j (hj : j < us.length), w.cell? (a.add (i * E.sz + j)) = some us[j]) ∧ E.rd w us d := by
   intro i hil
   obtain ⟨us, hc, ht'⟩ := hi i (by omega)
   rw [hC] at hc
   obtain ⟨_, hcl, hat⟩ := World.cells?_some hc
   obtain ⟨d, hd⟩ := he n us _ ht'
   refine ⟨d, us, hcl, fun j hj => ?_, hd⟩
   have := hat j (by omega)
   rw [add_add] at this
   rw [this, List.getElem?_eq_getElem hj]
  obtain ⟨l, rfl, hl2⟩ := choose_list len key
  refine ⟨l, some a, cap, rfl, hl, hm, fun k hk => ?_⟩
  obtain ⟨us, hus, hc, hr⟩ := hl2 k hk
  have hc0 := hc 0 (by omega)
  obtain ⟨us0, hus0, hc00, _⟩ := hl2 0 (by omega)
  have hspot := World.cell?_spot (hc00 0 (by omega))
  obtain ⟨b, off, spot⟩ := a
  have hs : spot = none := by simpa [Addr.add] using hspot
  subst hs
  refine ⟨b, off, us, rfl, ?_, hus, fun j hj => ?_, hr⟩
  ·rw [add_plain] at hc0
   exact World.block_lt_of_cell? w _ hc0
  ·rw [← add_plain]; exact hc j hj

end
end Go.Proofs.YtaekanhjkpoifaaGreatDoor

/-
 The laws' measure of a slice of bytes: contract. Own work.
-/
namespace Go.Proofs.YtaekanhjkpoifaaGreatDoor
open Go.RowKit P
set_option linter.unusedVariables false

set_option maxHeartbeats 400000 in
theorem szByteS_any (A : Option Addr) (n c : Nat) (left : Int) (w : World) (hn : n ≤ 9223372036854775807) (h0 : 0 ≤ left) (h1 : left ≤ 1048576) :
  Calls Tryz.prog 23 #[.slice A n c, .int .i64 left] w fun e w' => (∃ r : Int, e = .returned (.int .i64 r) ∧ ((r = -1 ∧ left < n) ∨ (0 ≤ r ∧ r = left - n))) ∧ w' = w := by
 by_cases h : left - (n : Int) < 0
 ·go_enter Tryz.func23, Tryz.ntmps23
  go_wp2
  go_ret
  exact ⟨⟨_, rfl, .inl ⟨rfl, by omega⟩⟩, rfl⟩
 ·go_enter Tryz.func23, Tryz.ntmps23
  go_wp2
  go_ret
  exact ⟨⟨_, rfl, .inr ⟨by omega, rfl⟩⟩, rfl⟩

end Go.Proofs.YtaekanhjkpoifaaGreatDoor

/-
 The contracts of the laws' helpers on byte slices. Own work.
-/
namespace Go.Proofs.YtaekanhjkpoifaaGreatDoor
open Go.RowKit
set_option linter.unusedVariables false

set_option maxHeartbeats 400000 in
theorem toByteS_any (A : Option Addr) (l : List UInt8) (c : Nat) (w : World) (hl : l.length ≤ 1048576) (h : Bs w A l) :
  Calls Tryz.prog 30 #[.slice A l.length c] w fun e w' => e = .returned (.slice (some ⟨w.heap.size, 0, none⟩) l.length l.length) ∧ Row w' w.heap.size l ∧ Below w.heap.size w w' := by
 have hmk := fun W => run_make_row' (P := Tryz.prog) 22 5 (.int .u8 0) 1 Tryz.underlying22 Tryz.infoB rfl .i64 .i64 l.length (by omega) (by omega) W
 go_enter Tryz.func30, Tryz.ntmps30
 go_wp2
 go_loopw [4] (fun i wr => ∃ k : Nat, k ≤ l.length ∧ i = .int .i64 k ∧ Below w.heap.size w wr ∧ wr.rowIs w.heap.size 5 l.length (fun j => .int .u8 (if j < k then ((l.getD j 0).toNat : Int) else 0)))
  (fun i _ => l.length - (intOf i).toNat)
 case atStart => exact ⟨0, Nat.zero_le _, rfl, (Below.refl _ _).alloc (Nat.le_refl _) _, (World.rowIs_made w (.int .u8 0) l.length 5).congr (by intro j hj; simp)⟩
 case round =>
  obtain ⟨k, hk, rfl, hbel, hrow⟩ := hrel
  by_cases hlt : k < l.length
  ·obtain ⟨b, off, rfl, hbl, hc⟩ := (h.below hbel) k hlt
   have hc2 := hrow.cell hlt
   have hf := hrow.frozen k
   have hrow2 := hrow.set k (.int .u8 ((l[k]).toNat : Int))
   have hbel2 := hbel.setCell (p := ⟨w.heap.size, k, none⟩) (Nat.le_refl _) (.int .u8 ((l[k]).toNat : Int))
   go_wp2
   go_roundw
   case rel => exact ⟨k + 1, by omega, by go_num, hbel2, hrow2.congr (by
    intro j hj
    by_cases e : j = k
    ·subst e; simp [hlt]
    ·rw [if_neg e]
     have : (j < k + 1) = (j < k) := by simp; omega
     simp only [this])⟩
   case measure => simp [intOf]; omega
  ·go_wp2
   go_ret
   exact ⟨rfl, hrow.congr (by intro j hj; rw [if_pos (by omega)]), hbel⟩

set_option maxHeartbeats 400000 in
theorem eqByteS_any (A B : Option Addr) (l r : List UInt8) (c d : Nat) (w : World) (hl : l.length ≤ 9223372036854775807) (hA : Bs w A l) (hB : Bs w B r) :
  Calls Tryz.prog 39 #[.slice A l.length c, .slice B r.length d] w fun e w' => e = .returned (.bool (decide (l = r))) ∧ ∃ n, w' = w.drewN n := by
 by_cases hlen : l.length = r.length
 ·have hne : ((l.length : Int) != (r.length : Int)) = false := by simp [hlen]
  go_enter Tryz.func39, Tryz.ntmps39
  go_wp2
  go_loopw [5] (fun i wr => ∃ k : Nat, k ≤ l.length ∧ i = .int .i64 k ∧ l.take k = r.take k ∧ ∃ n, wr = w.drewN n)
   (fun i _ => l.length - (intOf i).toNat)
  case atStart => exact ⟨0, Nat.zero_le _, rfl, by simp, 0, rfl⟩
  case round =>
   obtain ⟨k, hk, rfl, htake, n, rfl⟩ := hrel
   by_cases hlt : k < l.length
   ·obtain ⟨b, off, rfl, hbl, hc⟩ := hA k hlt
    obtain ⟨b2, off2, rfl, hbl2, hc2⟩ := hB k (by omega)
    have hlt2 : k < r.length := by omega
    have HT := Lib.hid htake
    clear htake
    by_cases heq : l[k] = r[k]
    ·have hne2 : (((l[k]).toNat : Int) != ((r[k]).toNat : Int)) = false := by simp [heq]
     go_wp2
     go_quiet (fail)
     go_wp2
     go_roundw
     case rel => exact ⟨k + 1, by omega, by go_num, by rw [List.take_succ_eq_append_getElem hlt, List.take_succ_eq_append_getElem hlt2, HT.out, heq], _, rfl⟩
     case measure => simp [intOf]; omega
    ·have hne2 : (((l[k]).toNat : Int) != ((r[k]).toNat : Int)) = true := by
      simp only [bne_iff_ne, ne_eq]
      intro e
      exact heq (UInt8.toNat_inj.1 (by omega))
     have HQ := Lib.hid heq
     clear heq
     go_wp2
     go_quiet (fail)
     go_wp2
     go_ret
     refine ⟨?_, _, World.drewN_drewN _ _ _⟩
     have : l ≠ r := by intro e; subst e; exact HQ.out rfl
     simp [this]
   ·go_wp2
    go_ret
    have e1 : k = l.length := by omega
    subst e1
    rw [List.take_length] at htake
    have e2 : l = r := by rw [htake, hlen, List.take_length]
    exact ⟨by simp [e2], n, rfl⟩
 ·have hne : ((l.length : Int) != (r.length : Int)) = true := by simp; omega
  go_enter Tryz.func39, Tryz.ntmps39
  go_wp2
  go_ret
  exact ⟨by simp; intro e; exact hlen (by rw [e]), 0, rfl⟩
end Go.Proofs.YtaekanhjkpoifaaGreatDoor

/-
 A variable of the call's own in memory (a struct that is built field by field). Own work.
-/
namespace Go.Proofs.YtaekanhjkpoifaaGreatDoor
open Go.RowKit P
set_option linter.unusedVariables false

/-- Block b is a variable of the call's own that holds the cells cs. -/
def Blk (w : World) (b : Nat) (cs : Array Value) (T : TypeId) : Prop := w.heap[b]? = some (.cells cs T (0, 0))
theorem Blk.new (w : World) (cs : Array Value) (T : TypeId) : Blk (w.alloc (.cells cs T)) w.heap.size cs T := heap_alloc_new w (.cells cs T)
theorem Blk.lt {w : World} {b : Nat} {cs : Array Value} {T : TypeId} (h : Blk w b cs T) : b < w.heap.size := (Array.getElem?_eq_some_iff.1 h).1
theorem Blk.below {w w' : World} {b : Nat} {cs : Array Value} {T : TypeId} (h : Blk w b cs T) (hb : Below w.heap.size w w') : Blk w' b cs T := (hb.block b h.lt).trans h
theorem Blk.cell {w : World} {b : Nat} {cs : Array Value} {T : TypeId} (h : Blk w b cs T) (i : Nat) : w.cell? ⟨b, i, none⟩ = cs[i]? := cell_of_row w b i cs T (0, 0) h
theorem Blk.frozen {w : World} {b : Nat} {cs : Array Value} {T : TypeId} (h : Blk w b cs T) (i : Nat) : w.frozen? ⟨b, i, none⟩ = false := by
 unfold Blk at h; simp [World.frozen?, h]
theorem Blk.set {w : World} {b : Nat} {cs : Array Value} {T : TypeId} (h : Blk w b cs T) (i : Nat) (v : Value) : Blk (w.setCell ⟨b, i, none⟩ v) b (cs.setIfInBounds i v) T := by
 unfold Blk at h ⊢; simp [World.setCell, Array.getElem?_modify, h]
theorem Blk.setOther {w : World} {b : Nat} {cs : Array Value} {T : TypeId} (h : Blk w b cs T) {a : Addr} (ha : b ≠ a.block) (v : Value) : Blk (w.setCell a v) b cs T := (Below.heap_setCell w a v b ha).trans h
theorem Blk.alloc {w : World} {b : Nat} {cs : Array Value} {T : TypeId} (h : Blk w b cs T) (o : Obj) : Blk (w.alloc o) b cs T := (heap_alloc_old w o h.lt).trans h
theorem Blk.of_block {w w' : World} {b : Nat} {cs : Array Value} {T : TypeId} (h : Blk w b cs T) (hb : w'.heap[b]? = w.heap[b]?) : Blk w' b cs T := hb.trans h


theorem Own.keeps {w w' : World} {base : Nat} {v : Value} {l : List UInt8} {fp : List Nat} (h : Own w base v l) (hk : Keeps fp w w') (hd : ∀ b ∈ v.ownBlock.toList, b ∉ fp) : Own w' base v l :=
 h.heap (fun b hb => hk.block b (World.ownsRow.lt h b (by simpa using hb)).2 (hd b hb))
theorem Own.range {w : World} {base : Nat} {v : Value} {l : List UInt8} (h : Own w base v l) : ∀ b ∈ v.ownBlock.toList, base ≤ b ∧ b < w.heap.size := fun b hb => World.ownsRow.lt h b (by simpa using hb)
theorem Keeps.bs {fp : List Nat} {w w' : World} {B : Nat} (h : Keeps fp w w') (hf : ∀ k ∈ fp, B ≤ k) (hB : B ≤ w.heap.size) : Below B w w' := h.below hB hf
end Go.Proofs.YtaekanhjkpoifaaGreatDoor

/-
 append of one element, with what it owns, onto a slice of the call's own. Own work, over the library's law on rows of the call's own.
-/
namespace Go.Proofs.YtaekanhjkpoifaaGreatDoor
open Go.RowKit P
set_option linter.unusedVariables false

theorem ow_one {α : Type} {T : TypeId} {E : Lay α} {w : World} {v : Value} {l : List α} {fp : List Nat} (h : (Lay.slice T E).ow w [v] l fp) :
  ∃ es : List (El α), l = es.map (·.2.1) ∧ w.ownsRow 0 T E.sz v es.length (es.flatMap (·.1)) ∧ (∀ e ∈ es, E.ow w e.1 e.2.1 e.2.2) ∧ fp = v.ownBlock.toList ++ es.flatMap (·.2.2) := by
 obtain ⟨v', es, hv, hl, hrow, hes, hfp⟩ := h
 cases hv
 exact ⟨es, hl, hrow, hes, hfp⟩

theorem run_app_one {P : Program} {α : Type} {T : TypeId} {E : Lay α} {w : World} {v : Value} {l : List α} {fp : List Nat} {us : List Value} {x : α} {fx : List Nat} {z : Value} {size bytes : Nat} (t ty : TypeId) (ht : P.underlying t = some (.slice T))
  (hinfo : (P.info? T).map (fun i => (i.zero, i.size, i.bytes)) = some (some z, size, bytes)) (hsz : size = E.sz) (hzs : z.cells.size = size) (hpos : 0 < size)
  (h : (Lay.slice T E).ow w [v] l fp) (hn : fp.Nodup) (hx : E.ow w us x fx) (hnx : fx.Nodup) (B : Nat) (hB : ∀ k ∈ fp, k < B) (hB2 : ∀ k ∈ fx, B ≤ k)
  (a : Addr) (c : Nat) (hc : ∀ j u, us[j]? = some u → w.cell? (a.add j) = some u) (hlen : l.length ≤ 1000000) (hby : bytes ≤ 10000) :
  ∃ v' w' fp', (Builtin.append_ #[t, t] ty #[v, .slice (some a) 1 c]).run P w = .ok v' w' ∧ (Lay.slice T E).ow w' [v'] (l ++ [x]) fp' ∧ fp'.Nodup ∧ (∀ k ∈ fp', k ∈ fp ∨ k ∈ fx ∨ k = w.heap.size) ∧ w.grownBy w' v.ownBlock := by
 obtain ⟨es, rfl, hrow, hes, rfl⟩ := ow_one h
 obtain ⟨i, hi, hz, hs, hb⟩ := info_parts hinfo
 rw [List.length_map] at hlen
 have hus : us.length = E.sz := E.len (E.read hx)
 have hmul : (es.length + 1) * bytes ≤ 140737488355328 := by
  have : (es.length + 1) * bytes ≤ 1000001 * 10000 := Nat.mul_le_mul (by omega) hby
  omega
 obtain ⟨v', w', hrun, h2, h3, _, h5⟩ := run_append_own_at (P := P) w 0 t ty T i z size bytes ht hi hz hs hb hzs hpos v es.length (es.flatMap (·.1)) (by rw [hsz]; exact hrow) a 1 c us
  (by rw [hus, hsz, Nat.one_mul]) hc (E.one (E.read hx)) (by unfold maxLen; omega) hmul (Nat.zero_le _)
 rw [hsz] at h2
 rw [List.nodup_append] at hn
 obtain ⟨n1, n2, n3⟩ := hn
 have hkeep : ∀ k, k < w.heap.size → (∀ g, v.ownBlock = some g → k ≠ g) → w'.heap[k]? = w.heap[k]? := fun k hk hne => h3.block k hk (fun e => hne k e.symm rfl)
 have hsz' := h3.size
 refine ⟨v', w', v'.ownBlock.toList ++ (es.flatMap (·.2.2) ++ fx), hrun, ⟨v', es ++ [(us, x, fx)], rfl, by simp, ?_, ?_, by simp⟩, ?_, ?_, h3⟩
 ·have e1 : (es ++ [(us, x, fx)]).length = es.length + 1 := by simp
  have e2 : (es ++ [(us, x, fx)]).flatMap (·.1) = es.flatMap (·.1) ++ us := by simp
  rw [e1, e2]
  exact h2
 ·intro e he
  rcases List.mem_append.1 he with he | he
  ·refine E.kept (hes e he) (fun k hk => hkeep k (E.lt (hes e he) k hk) (fun g hg hkg => ?_)) hsz'
   subst hkg
   exact n3 k (by rw [hg]; simp) k (List.mem_flatMap.2 ⟨e, he, hk⟩) rfl
  ·have : e = (us, x, fx) := by simpa using he
   subst this
   refine E.kept hx (fun k hk => hkeep k (E.lt hx k hk) (fun g hg hkg => ?_)) hsz'
   subst hkg
   have := hB k (List.mem_append.2 (.inl (by rw [hg]; simp)))
   have := hB2 k hk
   omega
 ·rw [List.nodup_append]
  refine ⟨by cases v'.ownBlock <;> simp, nodup_snoc n2 hnx (fun y hy => hB y (List.mem_append.2 (.inr hy))) hB2, fun p hp q hq hpq => ?_⟩
  subst hpq
  have hlt : p < w.heap.size := by
   rcases List.mem_append.1 hq with hq | hq
   ·obtain ⟨e, he, hk⟩ := List.mem_flatMap.1 hq
    exact E.lt (hes e he) p hk
   ·exact E.lt hx p hq
  have hp' : v'.ownBlock = some p := by simpa using hp
  rcases h5 with h5 | h5
  ·rw [hp'] at h5
   rcases List.mem_append.1 hq with hq | hq
   ·exact n3 p (by rw [← h5]; simp) p hq rfl
   ·have := hB p (List.mem_append.2 (.inl (by rw [← h5]; simp)))
    have := hB2 p hq
    omega
  ·rw [hp'] at h5
   injection h5 with h5
   omega
 ·intro k hk
  rcases List.mem_append.1 hk with hk | hk
  ·have hk' : v'.ownBlock = some k := by simpa using hk
   rcases h5 with h5 | h5
   ·left; exact List.mem_append.2 (.inl (by rw [← h5, hk']; simp))
   ·right; right; rw [hk'] at h5; injection h5
  ·rcases List.mem_append.1 hk with hk | hk
   ·left; exact List.mem_append.2 (.inr hk)
   ·right; left; exact hk

theorem wpList_app_one {P : Program} {w : World} {ops : Array Oper} {rest : List Oper} {o : Oper} {a : Act} {Q : Exit → Act → World → Prop} (hgd : Region.wanted o (yielded ops a.tmps) = true) (s y : Operand) (t : TypeId)
  (ho : o.op = .call { callee := .builtin .append, args := #[s, y], argTypes := #[t, t] })
  {α : Type} (T : TypeId) (E : Lay α) (z : Value) (size bytes : Nat) (ht : P.underlying t = some (.slice T))
  (hinfo : (P.info? T).map (fun i => (i.zero, i.size, i.bytes)) = some (some z, size, bytes)) (hsz : size = E.sz) (hzs : z.cells.size = size) (hpos : 0 < size) (hby : bytes ≤ 10000)
  (v : Value) (l : List α) (fp : List Nat) (us : List Value) (x : α) (fx : List Nat) (ad : Addr) (c : Nat) (hs : a.eval s = v) (hy : a.eval y = .slice (some ad) 1 c)
  (h : (Lay.slice T E).ow w [v] l fp) (hn : fp.Nodup) (hx : E.ow w us x fx) (hnx : fx.Nodup) (B : Nat) (hB : ∀ k ∈ fp, k < B) (hB2 : ∀ k ∈ fx, B ≤ k)
  (hc : ∀ j u, us[j]? = some u → w.cell? (ad.add j) = some u) (hlen : l.length ≤ 1000000)
  (hK : ∀ v' w' fp', (Lay.slice T E).ow w' [v'] (l ++ [x]) fp' → fp'.Nodup → (∀ k ∈ fp', k ∈ fp ∨ k ∈ fx ∨ k = w.heap.size) → w.grownBy w' v.ownBlock → wpList P ops Q rest (a.put o.dst v') w') : wpList P ops Q (o :: rest) a w := by
 refine BigFrame.wpList_want hgd fun K hK2 => ?_
 obtain ⟨v', w', fp', hrun, h2, h3, h4, h5⟩ := run_app_one (P := P) t o.type ht hinfo hsz hzs hpos h hn hx hnx B hB hB2 ad c hc hlen hby
 unfold Oper.wp execOp
 simp only [ho, resolve, invoke, builtin, Sem.run_bind, Sem.run_pure, Result.andThen_ok, List.map_toArray, List.map_cons, List.map_nil, hs, hy, hrun]
 exact hK2 _ _ (hK v' w' fp' h2 h3 h4 h5)

theorem Lay.slice_nil {α : Type} (T : TypeId) (E : Lay α) (w : World) : (Lay.slice T E).ow w [.slice none 0 0] [] [] :=
 ⟨_, [], rfl, rfl, by simpa using World.ownsRow_nil w 0 T E.sz, by simp, rfl⟩
theorem Lay.slice_empty {α : Type} (T : TypeId) (E : Lay α) (w : World) : (Lay.slice T E).ow (w.alloc (.cells #[] T)) [.slice (some ⟨w.heap.size, 0, none⟩) 0 0] [] [w.heap.size] :=
 ⟨_, [], rfl, rfl, by simpa using World.ownsRow_made (base := 0) (e := T) (size := E.sz) w #[] 0 (Nat.zero_le _) (by unfold maxLen; omega) (by simp), by simp, rfl⟩

end Go.Proofs.YtaekanhjkpoifaaGreatDoor

/-
 Chapter 7: leases, plain. Own work.
-/
namespace Go.Proofs.YtaekanhjkpoifaaGreatDoor
open Go.RowKit P
set_option linter.unusedVariables false

/-- A lease: where it begins, where it ends, whose it is, until when. -/
abbrev Le := Int × Int × Int × Int

def leRight (l : Le) : Bool := decide (0 ≤ l.1 ∧ l.1 ≤ l.2.1 ∧ l.2.1 ≤ 400 ∧ 1 ≤ l.2.2.1 ∧ l.2.2.1 ≤ 8 ∧ 1 ≤ l.2.2.2 ∧ l.2.2.2 ≤ 1000)
/-- The order of the keys. -/
def leCmp (a b : Le) : Int :=
 if a.1 < b.1 then -1 else if b.1 < a.1 then 1 else if a.2.1 < b.2.1 then -1 else if b.2.1 < a.2.1 then 1 else if a.2.2.1 < b.2.2.1 then -1 else if b.2.2.1 < a.2.2.1 then 1 else 0
def leLess (a b : Le) : Bool := decide (leCmp a b < 0)
def leSame (a b : Le) : Bool := decide (a.1 = b.1 ∧ a.2.1 = b.2.1 ∧ a.2.2.1 = b.2.2.1)

/-- The lease at j is valid, and behind the one ahead of it. -/
def leGood (es : List Le) (j : Nat) : Bool := leRight (es.getD j (0, 0, 0, 0)) && (decide (j = 0) || leLess (es.getD (j - 1) (0, 0, 0, 0)) (es.getD j (0, 0, 0, 0)))
def leOk (es : List Le) : Bool := decide (es.length ≤ 12) && (List.range es.length).all (leGood es)

theorem leOk_no {es : List Le} {k : Nat} (hk : k < es.length) (h : leGood es k = false) : leOk es = false := by
 unfold leOk
 rw [Bool.and_eq_false_iff]
 right
 rw [List.all_eq_false]
 exact ⟨k, List.mem_range.2 hk, by simp [h]⟩
theorem leOk_big {es : List Le} (h : 12 < es.length) : leOk es = false := by
 unfold leOk
 rw [Bool.and_eq_false_iff]
 left
 exact decide_eq_false (by omega)
theorem leOk_yes {es : List Le} (hl : es.length ≤ 12) (h : ∀ j, j < es.length → leGood es j = true) : leOk es = true := by
 unfold leOk
 rw [Bool.and_eq_true, List.all_eq_true]
 exact ⟨decide_eq_true hl, fun j hj => h j (List.mem_range.1 hj)⟩
theorem leGood_at {es : List Le} {k : Nat} (hk : k < es.length) : leGood es k = (leRight es[k] && (decide (k = 0) || leLess (es.getD (k - 1) (0, 0, 0, 0)) es[k])) := by
 unfold leGood
 rw [List.getD_eq_getElem?_getD, List.getElem?_eq_getElem hk, Option.getD_some]
theorem leGood_at2 {es : List Le} {k : Nat} (hk : k < es.length) (h0 : 0 < k) : leGood es k = (leRight es[k] && leLess es[k - 1] es[k]) := by
 rw [leGood_at hk, decide_eq_false (show ¬ k = 0 by omega), Bool.false_or, List.getD_eq_getElem?_getD, List.getElem?_eq_getElem (show k - 1 < es.length by omega), Option.getD_some]
theorem leGood_0 {es : List Le} (hk : 0 < es.length) : leGood es 0 = leRight es[0] := by
 rw [leGood_at hk]; simp
theorem leOk_len {es : List Le} (h : leOk es = true) : es.length ≤ 12 := by
 unfold leOk at h
 rw [Bool.and_eq_true] at h
 exact of_decide_eq_true h.1
theorem leOk_good {es : List Le} (h : leOk es = true) {j : Nat} (hj : j < es.length) : leGood es j = true := by
 unfold leOk at h
 rw [Bool.and_eq_true, List.all_eq_true] at h
 exact h.2 j (List.mem_range.2 hj)
theorem leRight_of {es : List Le} (h : leOk es = true) {j : Nat} (hj : j < es.length) : leRight es[j] = true := by
 have h1 := leOk_good h hj
 rw [leGood_at hj, Bool.and_eq_true] at h1
 exact h1.1
theorem leLess_of {es : List Le} (h : leOk es = true) {j : Nat} (hj : j + 1 < es.length) : leLess es[j] es[j + 1] = true := by
 have h1 := leOk_good h hj
 rw [leGood_at2 hj (by omega), Bool.and_eq_true] at h1
 exact h1.2

theorem leCmp_cases (a b : Le) : (leCmp a b = -1 ∧ (a.1 < b.1 ∨ a.1 = b.1 ∧ (a.2.1 < b.2.1 ∨ a.2.1 = b.2.1 ∧ a.2.2.1 < b.2.2.1))) ∨ (leCmp a b = 0 ∧ a.1 = b.1 ∧ a.2.1 = b.2.1 ∧ a.2.2.1 = b.2.2.1) ∨ (leCmp a b = 1 ∧ (b.1 < a.1 ∨ a.1 = b.1 ∧ (b.2.1 < a.2.1 ∨ a.2.1 = b.2.1 ∧ b.2.2.1 < a.2.2.1))) := by
 unfold leCmp
 split
 ·exact .inl ⟨rfl, by omega⟩
 split
 ·exact .inr (.inr ⟨rfl, by omega⟩)
 split
 ·exact .inl ⟨rfl, by omega⟩
 split
 ·exact .inr (.inr ⟨rfl, by omega⟩)
 split
 ·exact .inl ⟨rfl, by omega⟩
 split
 ·exact .inr (.inr ⟨rfl, by omega⟩)
 ·exact .inr (.inl ⟨rfl, by omega, by omega, by omega⟩)
theorem leLess_iff (a b : Le) : leLess a b = true ↔ (a.1 < b.1 ∨ a.1 = b.1 ∧ (a.2.1 < b.2.1 ∨ a.2.1 = b.2.1 ∧ a.2.2.1 < b.2.2.1)) := by
 unfold leLess
 rw [decide_eq_true_eq]
 rcases leCmp_cases a b with ⟨h, h2⟩ | ⟨h, h2⟩ | ⟨h, h2⟩ <;> constructor <;> intro h3 <;> omega
theorem leLess_trans {a b c : Le} (h : leLess a b = true) (k : leLess b c = true) : leLess a c = true := by
 rw [leLess_iff] at *
 omega
/-- What stands further ahead has the smaller key. -/
theorem leLess_far {es : List Le} (h : leOk es = true) : ∀ (d i : Nat) (hj : i + d + 1 < es.length), leLess (es[i]'(by omega)) es[i + d + 1] = true
 | 0, i, hj => leLess_of h hj
 | d + 1, i, hj => leLess_trans (leLess_far h d i (by omega)) (by have := leLess_of h (j := i + d + 1) hj; exact this)
theorem leLess_lt {es : List Le} (h : leOk es = true) {i j : Nat} (hij : i < j) (hj : j < es.length) : leLess (es[i]'(by omega)) es[j] = true := by
 obtain ⟨d, rfl⟩ : ∃ d, j = i + d + 1 := ⟨j - i - 1, by omega⟩
 exact leLess_far h d i hj
end Go.Proofs.YtaekanhjkpoifaaGreatDoor

/-
 The program's test of a session's number: contract. Own work.
-/
namespace Go.Proofs.YtaekanhjkpoifaaGreatDoor
open Go.RowKit P
set_option linter.unusedVariables false

set_option maxHeartbeats 400000 in
theorem isSession_any (n : Int) (w : World) : Calls Tryz.prog 100 #[.int .i64 n] w fun e w' => e = .returned (.bool (decide (1 ≤ n ∧ n ≤ 8))) ∧ w' = w := by
 by_cases h : 1 ≤ n
 ·go_enter Tryz.func100, Tryz.ntmps100
  go_wp2
  go_ret
  exact ⟨ret_bool (by simp [h]), rfl⟩
 ·have hf : decide (1 ≤ n ∧ n ≤ 8) = false := by simp; omega
  have HF := Lib.hid hf
  clear hf
  go_enter Tryz.func100, Tryz.ntmps100
  go_wp2
  go_ret
  exact ⟨ret_bool (by simp; omega), rfl⟩
end Go.Proofs.YtaekanhjkpoifaaGreatDoor

/-
 One element of an own slice of anything, put anew: its cells in the row and what it owns. Own work.
-/
namespace Go.Proofs.YtaekanhjkpoifaaGreatDoor
open Go.RowKit P
set_option linter.unusedVariables false
set_option linter.unusedSimpArgs false

theorem Lay.put {α : Type} {T : TypeId} {E : Lay α} {w : World} {v : Value} {l : List α} {fp : List Nat} (h : (Lay.slice T E).ow w [v] l fp) (hn : fp.Nodup) (hpos : 0 < E.sz) (i : Nat) (hi : i < l.length) :
  ∃ g c cur us fi, v = .slice (some ⟨g, 0, none⟩) l.length c ∧ us.length = E.sz ∧ Blk w g cur T ∧ l.length * E.sz ≤ cur.size ∧ (∀ j (hj : j < us.length), cur[i * E.sz + j]? = some us[j]) ∧
   E.ow w us l[i] fi ∧ fi.Nodup ∧ g ∈ fp ∧ (∀ k ∈ fi, k ∈ fp ∧ k ≠ g) ∧ ∀ w' x' us' cur', us'.length = E.sz → Keeps (g :: fi) w w' → Blk w' g cur' T → cur'.size = cur.size → (∀ j (hj : j < us'.length), cur'[i * E.sz + j]? = some us'[j]) →
    (∀ q, q < i * E.sz ∨ i * E.sz + E.sz ≤ q → cur'[q]? = cur[q]?) → E.ow w' us' x' fi → (Lay.slice T E).ow w' [v] (l.set i x') fp := by
 obtain ⟨v', es, hv, hl, hrow, hes, hfp⟩ := h
 cases hv
 subst hl
 rw [List.length_map] at hi
 obtain ⟨a, e, b, hab, ha, he⟩ := split_at es i hi
 have hlen : ∀ e ∈ es, (e.1 : List Value).length = E.sz := fun e he => E.len (E.read (hes e he))
 have hei : (es.map (·.2.1))[i]'(by rw [List.length_map]; exact hi) = e.2.1 := by rw [List.getElem_map, ← he]
 have heo := hes e (by rw [he]; exact List.getElem_mem hi)
 rcases hrow.2 with ⟨hv, h0⟩ | ⟨g, cap, cur, hv, _, hh, hnc, hcm, hcs, htk⟩
 ·omega
 ·subst hv
  have hg : g < w.heap.size := (Array.getElem?_eq_some_iff.1 hh).1
  have hgfp : g ∈ fp := by rw [hfp]; simp [Value.ownBlock]
  rw [hfp, hab, List.flatMap_append, List.flatMap_cons] at hn
  simp only [Value.ownBlock, Option.toList_some, List.singleton_append, List.nodup_cons, List.mem_append, not_or] at hn
  obtain ⟨⟨n1, n2, n3⟩, hn⟩ := hn
  rw [List.nodup_append] at hn
  obtain ⟨na, hn, nd1⟩ := hn
  rw [List.nodup_append] at hn
  obtain ⟨ne, nb, nd2⟩ := hn
  have hcz : es.length * E.sz ≤ cur.size := by rw [hcs]; exact Nat.mul_le_mul_right _ hnc
  refine ⟨g, cap, cur, e.1, e.2.2, by simp, hlen e (by rw [he]; exact List.getElem_mem hi), hh, by rw [List.length_map]; exact hcz, fun j hj => ?_, by rw [hei]; exact heo, ne, hgfp, fun k hk => ⟨?_, fun x => n2 (by rw [← x]; exact hk)⟩, fun w' x' us' cur' hus hke hblk hsz hnew hold hox => ?_⟩
  ·have hj' : j < (es[i].1).length := by rw [← he]; exact hj
   have hgt := flat_get E.sz es (·.1) hlen i hi j hj'
   rw [← htk, List.getElem?_take] at hgt
   split at hgt
   ·simp only [Array.getElem?_toList] at hgt
    rw [hgt]
    simp only [he]
   ·cases hgt
  ·rw [hfp, hab, List.flatMap_append, List.flatMap_cons]
   simp [hk]
  ·have hset : (es.map (·.2.1)).set i x' = (a ++ (us', x', e.2.2) :: b).map (·.2.1) := by
    rw [hab, List.map_append, List.map_cons, List.set_append_right _ _ (by rw [List.length_map]; omega), List.length_map, ha, Nat.sub_self, List.set_cons_zero, List.map_append, List.map_cons]
   rw [hset]
   have e1 : (a ++ (us', x', e.2.2) :: b).length = es.length := by rw [hab]; simp
   have hla : ∀ f ∈ a, (f.1 : List Value).length = E.sz := fun f hf => hlen f (by rw [hab]; exact List.mem_append.2 (.inl hf))
   have hfa := flat_len E.sz a (·.1) hla
   have hle : (e.1 : List Value).length = E.sz := hlen e (by rw [hab]; simp)
   have hfl := flat_len E.sz es (·.1) hlen
   refine ⟨_, a ++ (us', x', e.2.2) :: b, rfl, rfl, ?_, ?_, ?_⟩
   ·rw [e1]
    refine ⟨?_, .inr ⟨g, cap, cur', rfl, Nat.zero_le _, hblk, hnc, hcm, by rw [hsz]; exact hcs, ?_⟩⟩
    ·have h9 := hrow.1
     rw [← h9, hab]
     simp [hus, hle]
    ·apply List.ext_getElem?
     intro q
     have htq : (cur.toList.take (es.length * E.sz))[q]? = (es.flatMap (·.1))[q]? := by rw [htk]
     rw [List.getElem?_take] at htq ⊢
     rw [List.flatMap_append, List.flatMap_cons]
     rw [hab, List.flatMap_append, List.flatMap_cons] at htq
     simp only [Array.getElem?_toList] at htq ⊢
     by_cases h1 : q < i * E.sz
     ·rw [hold q (.inl h1)]
      rw [List.getElem?_append_left (by rw [hfa, ha]; exact h1)] at htq ⊢
      rw [← hab] at htq
      exact htq
     ·by_cases h2 : q < i * E.sz + E.sz
      ·have hq : q = i * E.sz + (q - i * E.sz) := by omega
       have hin : q < es.length * E.sz := by
        have : (i + 1) * E.sz ≤ es.length * E.sz := Nat.mul_le_mul_right _ hi
        rw [Nat.add_mul, Nat.one_mul] at this
        omega
       rw [if_pos hin]
       have h9 := hnew (q - i * E.sz) (by rw [hus]; omega)
       rw [← hq] at h9
       rw [h9, List.getElem?_append_right (by rw [hfa, ha]; omega), hfa, ha, List.getElem?_append_left (by rw [hus]; omega), List.getElem?_eq_getElem]
      ·rw [hold q (.inr (by omega))]
       rw [List.getElem?_append_right (by rw [hfa, ha]; omega), hfa, ha, List.getElem?_append_right (by rw [hle]; omega), hle] at htq
       rw [List.getElem?_append_right (by rw [hfa, ha]; omega), hfa, ha, List.getElem?_append_right (by rw [hus]; omega), hus]
       rw [← hab] at htq
       exact htq
   ·intro f hf
    rcases List.mem_append.1 hf with hf | hf
    ·refine E.keeps (hes f (by rw [hab]; exact List.mem_append.2 (.inl hf))) hke (fun k hk hk2 => ?_)
     rcases List.mem_cons.1 hk2 with e9 | hk2
     ·exact n1 (List.mem_flatMap.2 ⟨f, hf, by rw [← e9]; exact hk⟩)
     ·exact nd1 k (List.mem_flatMap.2 ⟨f, hf, hk⟩) k (List.mem_append.2 (.inl hk2)) rfl
    ·rcases List.mem_cons.1 hf with rfl | hf
     ·exact hox
     ·refine E.keeps (hes f (by rw [hab]; exact List.mem_append.2 (.inr (List.mem_cons_of_mem _ hf)))) hke (fun k hk hk2 => ?_)
      rcases List.mem_cons.1 hk2 with e9 | hk2
      ·exact n3 (List.mem_flatMap.2 ⟨f, hf, by rw [← e9]; exact hk⟩)
      ·exact nd2 k hk2 k (List.mem_flatMap.2 ⟨f, hf, hk⟩) rfl
   ·rw [hfp, hab]; simp
end Go.Proofs.YtaekanhjkpoifaaGreatDoor

/-
 Chapter 7, plain: where the lease with a key stands in a list, and the list without it. Own work.
-/
namespace Go.Proofs.YtaekanhjkpoifaaGreatDoor
open Go.RowKit P
set_option linter.unusedVariables false

theorem leSame_iff (a b : Le) : leSame a b = true ↔ leCmp a b = 0 := by
 unfold leSame
 rw [decide_eq_true_eq]
 rcases leCmp_cases a b with ⟨h, h2⟩ | ⟨h, h2⟩ | ⟨h, h2⟩ <;> constructor <;> intro h3 <;> omega
theorem leSame_no {a b : Le} (h : leCmp a b ≠ 0) : leSame a b = false := by
 cases hs : leSame a b
 ·rfl
 ·exact absurd ((leSame_iff a b).1 hs) h

def keyIx (es : List Le) (l : Le) : Nat := es.findIdx (fun x => leSame x l)
theorem keyIx_some {es : List Le} {l : Le} {k : Nat} (hk : k < es.length) (h : leSame es[k] l = true) (hall : ∀ j (h : j < k), leSame (es[j]'(by omega)) l = false) : keyIx es l = k := (List.findIdx_eq hk).2 ⟨h, hall⟩
theorem keyIx_none {es : List Le} {l : Le} (hall : ∀ j (h : j < es.length), leSame es[j] l = false) : keyIx es l = es.length := by
 unfold keyIx
 rw [List.findIdx_eq_length]
 intro x hx
 obtain ⟨j, hj, rfl⟩ := List.getElem_of_mem hx
 exact hall j hj

/-- The list without the lease with the key of l, and the code. -/
def dropL (es : List Le) (l : Le) : List Le := if (leOk es && leRight l) = true then (if keyIx es l < es.length then es.take (keyIx es l) ++ es.drop (keyIx es l + 1) else []) else []
def dropN (es : List Le) (l : Le) : Int := if (leOk es && leRight l) = true then (if keyIx es l < es.length then 0 else 5) else 1
theorem leCmp_trans {a b c : Le} (h : leLess a b = true) (k : leCmp b c < 0) : leCmp a c < 0 := by
 have h2 : leLess b c = true := decide_eq_true k
 exact of_decide_eq_true (leLess_trans h h2)
/-- A search that has halved: ahead of i all are less, from j on none is. -/
structure Halved (es : List Le) (l : Le) (i j : Nat) : Prop where
 le : i ≤ j
 hi : j ≤ es.length
 lo : ∀ t (h : t < es.length), t < i → leCmp es[t] l < 0
 up : ∀ t (h : t < es.length), j ≤ t → 0 ≤ leCmp es[t] l
theorem Halved.start (es : List Le) (l : Le) : Halved es l 0 es.length := ⟨Nat.zero_le _, Nat.le_refl _, fun t _ h => by omega, fun t h h2 => by omega⟩
theorem Halved.right {es : List Le} {l : Le} {i j h : Nat} (hok : leOk es = true) (H : Halved es l i j) (h1 : i ≤ h) (h2 : h < j) (hc : leCmp (es[h]'(by have := H.hi; omega)) l < 0) : Halved es l (h + 1) j := by
 have hj := H.hi
 refine ⟨by omega, hj, fun t ht hlt => ?_, H.up⟩
 by_cases e : t = h
 ·subst e; exact hc
 ·exact leCmp_trans (leLess_lt hok (i := t) (j := h) (by omega) (by omega)) hc
theorem Halved.left {es : List Le} {l : Le} {i j h : Nat} (hok : leOk es = true) (H : Halved es l i j) (h1 : i ≤ h) (h2 : h < j) (hc : ¬ leCmp (es[h]'(by have := H.hi; omega)) l < 0) : Halved es l i h := by
 have hj := H.hi
 refine ⟨h1, by omega, H.lo, fun t ht hge => ?_⟩
 by_cases e : t = h
 ·subst e; omega
 ·rcases Int.lt_or_le (leCmp es[t] l) 0 with h3 | h3
  ·exact absurd (leCmp_trans (leLess_lt hok (i := h) (j := t) (by omega) ht) h3) hc
  ·exact h3
theorem Halved.found {es : List Le} {l : Le} {i : Nat} (H : Halved es l i i) (hi : i < es.length) (hc : leCmp es[i] l = 0) : keyIx es l = i :=
 keyIx_some hi ((leSame_iff _ _).2 hc) (fun j hj => leSame_no (by have := H.lo j (by omega) hj; omega))
theorem Halved.gone {es : List Le} {l : Le} {i : Nat} (hok : leOk es = true) (H : Halved es l i i) (hc : ∀ h : i < es.length, leCmp es[i] l ≠ 0) : keyIx es l = es.length := by
 refine keyIx_none (fun j hj => leSame_no (fun e => ?_))
 rcases Nat.lt_trichotomy j i with h | h | h
 ·have := H.lo j hj h; omega
 ·subst h; exact hc hj e
 ·have h1 := leLess_lt hok h hj
  have h2 := H.up i (by omega) (Nat.le_refl _)
  have h3 : leCmp (es[i]'(by omega)) l < 0 := by
   rw [leLess_iff] at h1
   rcases leCmp_cases es[j] l with ⟨g, g2⟩ | ⟨g, g2⟩ | ⟨g, g2⟩
   ·omega
   ·rcases leCmp_cases (es[i]'(by omega)) l with ⟨g3, g4⟩ | ⟨g3, g4⟩ | ⟨g3, g4⟩ <;> omega
   ·omega
  omega
end Go.Proofs.YtaekanhjkpoifaaGreatDoor

/-
 Chapter 7, plain: a lease put into a list that is in order; what is left of leases with one key. Own work.
-/
namespace Go.Proofs.YtaekanhjkpoifaaGreatDoor
open Go.RowKit P
set_option linter.unusedVariables false

/-- In strict order of the keys. -/
def Srt (es : List Le) : Prop := es.Pairwise (fun a b => leLess a b = true)
theorem leLess_irr (a : Le) : leLess a a = false := by
 cases h : leLess a a
 ·rfl
 ·rw [leLess_iff] at h; omega
theorem leLess_asym {a b : Le} (h : leLess a b = true) : leLess b a = false := by
 cases h2 : leLess b a
 ·rfl
 ·rw [leLess_iff] at h h2; omega
theorem leSame_eq (a b : Le) : leSame a b = true ↔ (a.1 = b.1 ∧ a.2.1 = b.2.1 ∧ a.2.2.1 = b.2.2.1) := by unfold leSame; rw [decide_eq_true_eq]
theorem leSame_refl (a : Le) : leSame a a = true := (leSame_eq a a).2 ⟨rfl, rfl, rfl⟩
theorem leSame_symm {a b : Le} (h : leSame a b = true) : leSame b a = true := by rw [leSame_eq] at *; omega
theorem leSame_trans {a b c : Le} (h : leSame a b = true) (k : leSame b c = true) : leSame a c = true := by rw [leSame_eq] at *; omega
theorem le_tri (a b : Le) : leLess a b = true ∨ leSame a b = true ∨ leLess b a = true := by rw [leLess_iff, leLess_iff, leSame_eq]; omega
theorem leSame_less {a b : Le} (h : leSame a b = true) : leLess a b = false := by
 cases h2 : leLess a b
 ·rfl
 ·rw [leLess_iff] at h2; rw [leSame_eq] at h; omega
theorem leLess_same {a b : Le} (h : leLess a b = true) : leSame a b = false := by
 cases h2 : leSame a b
 ·rfl
 ·rw [leSame_less h2] at h; cases h
theorem leLess_sameL {a b c : Le} (h : leSame a b = true) : leLess a c = leLess b c := by
 rw [Bool.eq_iff_iff, leLess_iff, leLess_iff]; rw [leSame_eq] at h; omega
theorem leLess_sameR {a b c : Le} (h : leSame a b = true) : leLess c a = leLess c b := by
 rw [Bool.eq_iff_iff, leLess_iff, leLess_iff]; rw [leSame_eq] at h; omega
theorem le_eq {a b : Le} (h : leSame a b = true) (ht : a.2.2.2 = b.2.2.2) : a = b := by
 rw [leSame_eq] at h
 obtain ⟨x, y, s, t⟩ := a
 obtain ⟨x', y', s', t'⟩ := b
 simp only at h ht
 obtain ⟨rfl, rfl, rfl⟩ := h
 rw [ht]

theorem leOk_srt {es : List Le} (h : leOk es = true) : Srt es := List.pairwise_iff_getElem.2 fun i j hi hj hij => leLess_lt h hij hj
theorem leOk_of {es : List Le} (hl : es.length ≤ 12) (hr : ∀ l ∈ es, leRight l = true) (hs : Srt es) : leOk es = true := by
 refine leOk_yes hl (fun j hj => ?_)
 by_cases h0 : j = 0
 ·subst h0; rw [leGood_0 hj]; exact hr _ (List.getElem_mem hj)
 ·rw [leGood_at2 hj (by omega), hr _ (List.getElem_mem hj), Bool.true_and]
  exact List.pairwise_iff_getElem.1 hs (j - 1) j (by omega) hj (by omega)
theorem leOk_right {es : List Le} (h : leOk es = true) : ∀ l ∈ es, leRight l = true := by
 intro l hl
 obtain ⟨j, hj, rfl⟩ := List.getElem_of_mem hl
 exact leRight_of h hj

/-- Two lists in order with the same members are one. -/
theorem Srt.unique : ∀ {a b : List Le}, Srt a → Srt b → (∀ x, x ∈ a ↔ x ∈ b) → a = b
 | [], [], _, _, _ => rfl
 | [], y :: b, _, _, h => nomatch (h y).2 (by simp)
 | x :: a, [], _, _, h => nomatch (h x).1 (by simp)
 | x :: a, y :: b, ha, hb, h => by
  have ha' := List.pairwise_cons.1 ha
  have hb' := List.pairwise_cons.1 hb
  have e : x = y := by
   rcases List.mem_cons.1 ((h x).1 (by simp)) with e | e
   ·exact e
   ·rcases List.mem_cons.1 ((h y).2 (by simp)) with f | f
    ·exact f.symm
    ·have h1 := hb'.1 x e
     have h2 := ha'.1 y f
     rw [leLess_asym h1] at h2
     cases h2
  subst e
  rw [Srt.unique ha'.2 hb'.2 (fun z => ⟨fun hz => ?_, fun hz => ?_⟩)]
  ·rcases List.mem_cons.1 ((h z).1 (List.mem_cons_of_mem _ hz)) with e | e
   ·subst e
    have h1 := ha'.1 _ hz
    rw [leLess_irr] at h1
    cases h1
   ·exact e
  ·rcases List.mem_cons.1 ((h z).2 (List.mem_cons_of_mem _ hz)) with e | e
   ·subst e
    have h1 := hb'.1 _ hz
    rw [leLess_irr] at h1
    cases h1
   ·exact e
theorem Srt.same {es : List Le} (h : Srt es) {a b : Le} (ha : a ∈ es) (hb : b ∈ es) (hs : leSame a b = true) : a = b := by
 obtain ⟨i, hi, rfl⟩ := List.getElem_of_mem ha
 obtain ⟨j, hj, rfl⟩ := List.getElem_of_mem hb
 rcases Nat.lt_trichotomy i j with e | e | e
 ·have h1 := List.pairwise_iff_getElem.1 h i j hi hj e
  rw [leSame_less hs] at h1
  cases h1
 ·subst e; rfl
 ·have h1 := List.pairwise_iff_getElem.1 h j i hj hi e
  rw [leSame_less (leSame_symm hs)] at h1
  cases h1

/-- The list with l in its place. -/
def putL (es : List Le) (l : Le) : List Le := es.filter (fun x => leLess x l) ++ l :: es.filter (fun x => leLess l x)
theorem putL_mem {es : List Le} {l x : Le} : x ∈ putL es l ↔ x = l ∨ (x ∈ es ∧ leSame x l = false) := by
 unfold putL
 rw [List.mem_append, List.mem_cons, List.mem_filter, List.mem_filter]
 constructor
 ·rintro (⟨h1, h2⟩ | h | ⟨h1, h2⟩)
  ·exact .inr ⟨h1, leLess_same h2⟩
  ·exact .inl h
  ·refine .inr ⟨h1, ?_⟩
   cases h3 : leSame x l
   ·rfl
   ·rw [leSame_less (leSame_symm h3)] at h2; cases h2
 ·rintro (h | ⟨h1, h2⟩)
  ·exact .inr (.inl h)
  ·rcases le_tri x l with h3 | h3 | h3
   ·exact .inl ⟨h1, h3⟩
   ·rw [h3] at h2; cases h2
   ·exact .inr (.inr ⟨h1, h3⟩)
theorem putL_srt {es : List Le} {l : Le} (h : Srt es) : Srt (putL es l) := by
 unfold Srt putL
 refine List.pairwise_append.2 ⟨h.filter _, List.pairwise_cons.2 ⟨fun x hx => (List.mem_filter.1 hx).2, h.filter _⟩, fun a ha b hb => ?_⟩
 have h1 := (List.mem_filter.1 ha).2
 rcases List.mem_cons.1 hb with e | e
 ·subst e; exact h1
 ·exact leLess_trans h1 (List.mem_filter.1 e).2
theorem keyIx_no {es : List Le} {l : Le} (h : ¬ keyIx es l < es.length) : ∀ x ∈ es, leSame x l = false := by
 intro x hx
 cases hs : leSame x l
 ·rfl
 ·exact absurd (List.findIdx_lt_length_of_exists ⟨x, hx, hs⟩) h
theorem keyIx_yes {es : List Le} {l : Le} (h : keyIx es l < es.length) : leSame (es[keyIx es l]'h) l = true := List.findIdx_getElem (w := h)

theorem parts_less {es : List Le} {l : Le} {i : Nat} (H : Halved es l i i) : (es.take i).filter (fun x => leLess x l) = es.take i ∧ (es.take i).filter (fun x => leLess l x) = [] := by
 have hall : ∀ x ∈ es.take i, leLess x l = true := by
  intro x hx
  obtain ⟨j, hj, rfl⟩ := List.getElem_of_mem hx
  rw [List.length_take] at hj
  rw [List.getElem_take]
  exact decide_eq_true (H.lo j (by omega) (by omega))
 refine ⟨List.filter_eq_self.2 hall, List.filter_eq_nil_iff.2 fun x hx => ?_⟩
 rw [leLess_asym (hall x hx)]; simp
theorem parts_more {es : List Le} {l : Le} {k : Nat} (h : ∀ x ∈ es.drop k, leLess l x = true) : (es.drop k).filter (fun x => leLess x l) = [] ∧ (es.drop k).filter (fun x => leLess l x) = es.drop k := by
 refine ⟨List.filter_eq_nil_iff.2 fun x hx => ?_, List.filter_eq_self.2 h⟩
 rw [leLess_asym (h x hx)]; simp
theorem behind_more {es : List Le} {l : Le} {i : Nat} (hs : Srt es) (h : ∀ h : i < es.length, leLess es[i] l = false) {k : Nat} (hk : i < k) : ∀ x ∈ es.drop k, leLess l x = true := by
 intro x hx
 obtain ⟨j, hj, rfl⟩ := List.getElem_of_mem hx
 rw [List.length_drop] at hj
 rw [List.getElem_drop]
 have h1 := List.pairwise_iff_getElem.1 hs i (k + j) (by omega) (by omega) (by omega)
 have h2 := h (by omega)
 rcases le_tri l (es[k + j]'(by omega)) with h3 | h3 | h3
 ·exact h3
 ·rw [← leLess_sameR h3, h2] at h1; cases h1
 ·rw [leLess_trans h1 h3] at h2; cases h2
theorem Halved.not_less {es : List Le} {l : Le} {i : Nat} (H : Halved es l i i) : ∀ h : i < es.length, leLess es[i] l = false := by
 intro h
 have h1 := H.up i h (Nat.le_refl _)
 exact decide_eq_false (by omega)
/-- Put where it belongs. -/
theorem putL_at {es : List Le} {l : Le} {i : Nat} (hok : leOk es = true) (H : Halved es l i i) (hno : ¬ keyIx es l < es.length) : putL es l = es.take i ++ l :: es.drop i := by
 have hb : ∀ x ∈ es.drop i, leLess l x = true := by
  intro x hx
  obtain ⟨j, hj, e⟩ := List.getElem_of_mem hx
  rw [List.length_drop] at hj
  rw [List.getElem_drop] at e
  have h2 := keyIx_no hno x (List.mem_of_mem_drop hx)
  by_cases h0 : j = 0
  ·subst h0
   have h3 := H.not_less (by omega)
   simp only [Nat.add_zero] at e
   rw [e] at h3
   rcases le_tri l x with h4 | h4 | h4
   ·exact h4
   ·rw [leSame_symm h4] at h2; cases h2
   ·rw [h4] at h3; cases h3
  ·refine behind_more (leOk_srt hok) H.not_less (k := i + 1) (by omega) x ?_
   rw [List.mem_iff_getElem]
   exact ⟨j - 1, by rw [List.length_drop]; omega, by rw [List.getElem_drop, ← e]; congr 1; omega⟩
 have h1 := parts_less H
 have h2 := parts_more hb
 have e : putL es l = putL (es.take i ++ es.drop i) l := by rw [List.take_append_drop]
 rw [e]
 unfold putL
 rw [List.filter_append, List.filter_append, h1.1, h1.2, h2.1, h2.2, List.append_nil, List.nil_append]
/-- Put in the place of the one with its key. -/
theorem putL_set {es : List Le} {l : Le} {i : Nat} (hok : leOk es = true) (H : Halved es l i i) (hi : i < es.length) (hs : leSame es[i] l = true) : putL es l = es.set i l := by
 have hb := behind_more (leOk_srt hok) (fun _ => leSame_less hs) (k := i + 1) (by omega)
 have h1 := parts_less H
 have h2 := parts_more hb
 have e : putL es l = putL (es.take i ++ (es[i] :: es.drop (i + 1))) l := by rw [← List.drop_eq_getElem_cons hi, List.take_append_drop]
 rw [e, List.set_eq_take_append_cons_drop, if_pos hi]
 unfold putL
 have h3 := leSame_less hs
 have h4 := leSame_less (leSame_symm hs)
 rw [List.filter_append, List.filter_append, List.filter_cons, List.filter_cons, h1.1, h1.2, h2.1, h2.2, h3, h4]
 simp

/-- What is left of D: of each key the one that ends last. -/
structure Book (D E : List Le) : Prop where
 srt : Srt E
 sub : ∀ l ∈ E, l ∈ D
 all : ∀ l ∈ D, ∃ x ∈ E, leSame x l = true ∧ l.2.2.2 ≤ x.2.2.2
theorem Book.nil : Book [] [] := ⟨List.Pairwise.nil, fun _ h => h, fun _ h => nomatch h⟩
theorem Book.self {D : List Le} (h : Srt D) : Book D D := ⟨h, fun _ h => h, fun l hl => ⟨l, hl, leSame_refl l, Int.le_refl _⟩⟩
theorem Book.put {D E : List Le} {l : Le} (h : Book D E) (hl : ∀ d ∈ D, leSame d l = true → d.2.2.2 ≤ l.2.2.2) : Book (D ++ [l]) (putL E l) := by
 refine ⟨putL_srt h.srt, fun x hx => ?_, fun x hx => ?_⟩
 ·rcases putL_mem.1 hx with e | e
  ·subst e; simp
  ·exact List.mem_append.2 (.inl (h.sub x e.1))
 ·rcases List.mem_append.1 hx with e | e
  ·obtain ⟨y, hy, h1, h2⟩ := h.all x e
   cases hs : leSame y l
   ·exact ⟨y, putL_mem.2 (.inr ⟨hy, hs⟩), h1, h2⟩
   ·refine ⟨l, putL_mem.2 (.inl rfl), leSame_trans (leSame_symm hs) h1, ?_⟩
    have := hl y (h.sub y hy) hs
    omega
  ·rw [List.mem_singleton] at e
   subst e
   exact ⟨_, putL_mem.2 (.inl rfl), leSame_refl _, Int.le_refl _⟩
theorem Book.unique {D D' E E' : List Le} (h : Book D E) (h' : Book D' E') (hm : ∀ x, x ∈ D ↔ x ∈ D') : E = E' := by
 have key : ∀ {D D' E E' : List Le}, Book D E → Book D' E' → (∀ x, x ∈ D ↔ x ∈ D') → ∀ x, x ∈ E → x ∈ E' := by
  intro D D' E E' h h' hm x hx
  obtain ⟨y, hy, h1, h2⟩ := h'.all x ((hm x).1 (h.sub x hx))
  obtain ⟨z, hz, h3, h4⟩ := h.all y ((hm y).2 (h'.sub y hy))
  have e := h.srt.same hz hx (leSame_trans h3 h1)
  subst e
  have e2 := le_eq h1 (by omega)
  subst e2
  exact hy
 exact h.srt.unique h'.srt (fun x => ⟨key h h' hm x, key h' h (fun x => (hm x).symm) x⟩)
theorem Book.length {D E : List Le} (h : Book D E) : E.length ≤ D.length := by
 have hn : E.Nodup := h.srt.imp (fun {a b} hab e => by subst e; rw [leLess_irr] at hab; cases hab)
 exact hn.length_le_of_subset h.sub
theorem Book.ok {D E : List Le} (h : Book D E) (hl : D.length ≤ 12) (hr : ∀ l ∈ D, leRight l = true) : leOk E = true :=
 leOk_of (by have := h.length; omega) (fun l hm => hr l (h.sub l hm)) h.srt
end Go.Proofs.YtaekanhjkpoifaaGreatDoor

/-
 DERIVED: THE SHELF's CONTRACTS AT THIS DUMP, IN PLAIN WORDS (tools/lay-plain.mjs out of 'TryzShelf.lean', which tools/lay-shelf.mjs wrote): THE SAME DECLARATIONS UNDER THE SAME NAMES: 'import', 'namespace', 'open', 'def', 'theorem' AND NOTHING ELSE: no command of the shelf's: FOR A HAND-IN. Each laying: the table of numbers ('.._ren') and one theorem, a field a fact of the dump's own or the kernel's comparison; each contract: ONE APPLICATION.
-/
namespace Go.Proofs
open Go.Shelf
def Tryz.growB_ren : Go.Shelf.Ren := ⟨fun | 4 => 173 | n => n, fun | 22 => 22 | 25 => 5 | 3 => 3 | 4 => 4 | 9 => 9 | 20 => 20 | 0 => 0 | n => n, fun | n => n⟩
theorem Tryz.growB : Go.Proofs.Lays8.n4 Tryz.prog Tryz.growB_ren := {
 mixed := by kernel_rfl
 f4 := ⟨Tryz.f173.name, by decide, Tryz.func173.trans (congrArg some (by kernel_rfl))⟩
 t0 := Tryz.underlying0
 a0 := Tryz.isAgg0
 z0 := Tryz.sizeOf0
 v0 := Tryz.zeroValue0
 t3 := Tryz.underlying3
 a3 := Tryz.isAgg3
 z3 := Tryz.sizeOf3
 v3 := Tryz.zeroValue3
 t4 := Tryz.underlying4
 a4 := Tryz.isAgg4
 z4 := Tryz.sizeOf4
 v4 := Tryz.zeroValue4
 t9 := Tryz.underlying9
 a9 := Tryz.isAgg9
 z9 := Tryz.sizeOf9
 v9 := Tryz.zeroValue9
 t20 := Tryz.underlying20
 a20 := Tryz.isAgg20
 z20 := Tryz.sizeOf20
 v20 := Tryz.zeroValue20
 t22 := Tryz.underlying22
 a22 := Tryz.isAgg22
 z22 := Tryz.sizeOf22
 v22 := Tryz.zeroValue22 }
def Tryz.growE_ren : Go.Shelf.Ren := ⟨fun | 4 => 150 | n => n, fun | 22 => 29 | 25 => 71 | 3 => 3 | 4 => 4 | 9 => 9 | 20 => 20 | 0 => 0 | n => n, fun | n => n⟩
theorem Tryz.growE : Go.Proofs.Lays8.n4 Tryz.prog Tryz.growE_ren := {
 mixed := by kernel_rfl
 f4 := ⟨Tryz.f150.name, by decide, Tryz.func150.trans (congrArg some (by kernel_rfl))⟩
 t0 := Tryz.underlying0
 a0 := Tryz.isAgg0
 z0 := Tryz.sizeOf0
 v0 := Tryz.zeroValue0
 t3 := Tryz.underlying3
 a3 := Tryz.isAgg3
 z3 := Tryz.sizeOf3
 v3 := Tryz.zeroValue3
 t4 := Tryz.underlying4
 a4 := Tryz.isAgg4
 z4 := Tryz.sizeOf4
 v4 := Tryz.zeroValue4
 t9 := Tryz.underlying9
 a9 := Tryz.isAgg9
 z9 := Tryz.sizeOf9
 v9 := Tryz.zeroValue9
 t20 := Tryz.underlying20
 a20 := Tryz.isAgg20
 z20 := Tryz.sizeOf20
 v20 := Tryz.zeroValue20
 t22 := Tryz.underlying29
 a22 := Tryz.isAgg29
 z22 := Tryz.sizeOf29
 v22 := Tryz.zeroValue29 }
end Go.Proofs

/-
 Heaps of leases, plain: the one that ends first is on top. Own work.
-/
namespace Go.Proofs.YtaekanhjkpoifaaGreatDoor
open Go.RowKit P
set_option linter.unusedVariables false

/-- When the lease at i ends. -/
def tl (H : List Le) (i : Nat) : Int := (H.getD i (0, 0, 0, 0)).2.2.2
theorem tl_at {H : List Le} {i : Nat} (h : i < H.length) : tl H i = (H[i]).2.2.2 := by unfold tl; rw [List.getD_eq_getElem?_getD, List.getElem?_eq_getElem h]; rfl
/-- i and j exchanged. -/
def sw (H : List Le) (i j : Nat) : List Le := (H.set i (H.getD j (0, 0, 0, 0))).set j (H.getD i (0, 0, 0, 0))
theorem sw_length (H : List Le) (i j : Nat) : (sw H i j).length = H.length := by unfold sw; simp
theorem sw_getD {H : List Le} {i j : Nat} (hi : i < H.length) (hj : j < H.length) (k : Nat) : (sw H i j).getD k (0, 0, 0, 0) = if k = j then H.getD i (0, 0, 0, 0) else if k = i then H.getD j (0, 0, 0, 0) else H.getD k (0, 0, 0, 0) := by
 unfold sw
 simp only [List.getD_eq_getElem?_getD, List.getElem?_set, List.length_set]
 by_cases h1 : k = j
 ·subst h1; simp [hj]
 ·have n1 : ¬ j = k := fun e => h1 e.symm
  by_cases h2 : k = i
  ·subst h2; rw [if_neg n1, if_neg h1, if_pos rfl, if_pos rfl, if_pos hi]; rfl
  ·have n2 : ¬ i = k := fun e => h2 e.symm
   rw [if_neg n1, if_neg n2, if_neg h1, if_neg h2]
theorem tl_sw {H : List Le} {i j : Nat} (hi : i < H.length) (hj : j < H.length) (k : Nat) : tl (sw H i j) k = if k = j then tl H i else if k = i then tl H j else tl H k := by
 unfold tl
 rw [sw_getD hi hj k]
 split
 ·rfl
 ·split <;> rfl
theorem sw_perm {H : List Le} {i j : Nat} (hi : i < H.length) (hj : j < H.length) : (sw H i j).Perm H := by
 rw [List.perm_iff_count]
 intro x
 unfold sw
 rw [List.count_set (by rw [List.length_set]; exact hj), List.count_set hi]
 simp only [List.getD_eq_getElem?_getD, List.getElem?_eq_getElem hi, List.getElem?_eq_getElem hj, Option.getD_some]
 rw [List.getElem_set]
 have c1 : 0 < H.count H[i] := List.count_pos_iff.2 (List.getElem_mem hi)
 have c2 : 0 < H.count H[j] := List.count_pos_iff.2 (List.getElem_mem hj)
 by_cases e : i = j
 ·subst e
  simp only [if_true]
  by_cases h1 : (H[i] == x) = true
  ·have h2 := eq_of_beq h1
   subst h2
   simp
  ·simp [h1]
 ·rw [if_neg e]
  by_cases h1 : (H[i] == x) = true
  ·by_cases h2 : (H[j] == x) = true
   ·have e1 := eq_of_beq h1
    rw [e1] at c1
    simp [h1, h2]
    omega
   ·have e1 := eq_of_beq h1
    rw [e1] at c1
    simp [h1, h2]
    omega
  ·by_cases h2 : (H[j] == x) = true
   ·simp [h1, h2]
   ·simp [h1, h2]

/-- The first n are a heap. -/
def IsHeap (H : List Le) (n : Nat) : Prop := ∀ i, 0 < i → i < n → tl H ((i - 1) / 2) ≤ tl H i
theorem IsHeap.top {H : List Le} {n : Nat} (h : IsHeap H n) : ∀ i, i < n → tl H 0 ≤ tl H i := by
 intro i
 induction i using Nat.strongRecOn with
 | _ i ih =>
  intro hi
  by_cases h0 : i = 0
  ·subst h0; exact Int.le_refl _
  ·exact Int.le_trans (ih ((i - 1) / 2) (by omega) (by omega)) (h i (by omega) hi)

/-- A heap but for the way from j up. -/
structure UpInv (H : List Le) (n j : Nat) : Prop where
 lt : j < n
 a : ∀ i, 0 < i → i < n → i ≠ j → tl H ((i - 1) / 2) ≤ tl H i
 b : ∀ i, 0 < i → i < n → (i - 1) / 2 = j → 0 < j → tl H ((j - 1) / 2) ≤ tl H i
theorem UpInv.done {H : List Le} {n j : Nat} (h : UpInv H n j) (hs : j = 0 ∨ tl H ((j - 1) / 2) ≤ tl H j) : IsHeap H n := by
 intro i h0 hi
 by_cases e : i = j
 ·subst e
  rcases hs with hs | hs
  ·omega
  ·exact hs
 ·exact h.a i h0 hi e
theorem UpInv.step {H : List Le} {n j : Nat} (h : UpInv H n j) (hn : n ≤ H.length) (hj : 0 < j) (hl : tl H j < tl H ((j - 1) / 2)) : UpInv (sw H ((j - 1) / 2) j) n ((j - 1) / 2) := by
 have hlt := h.lt
 obtain ⟨p, hp⟩ : ∃ p, (j - 1) / 2 = p := ⟨_, rfl⟩
 rw [hp] at hl ⊢
 have hpj : p < j := by omega
 have T := fun k => tl_sw (H := H) (i := p) (j := j) (by omega) (by omega) k
 refine ⟨by omega, fun i h0 hi hne => ?_, fun i h0 hi he hp0 => ?_⟩
 ·rw [T, T]
  by_cases e1 : i = j
  ·subst e1
   rw [if_neg (by omega), if_pos hp, if_pos rfl]
   omega
  ·rw [if_neg e1, if_neg hne]
   have h1 := h.a i h0 hi e1
   by_cases e2 : (i - 1) / 2 = j
   ·rw [if_pos e2]
    have h2 := h.b i h0 hi e2 hj
    rw [hp] at h2
    exact h2
   ·rw [if_neg e2]
    by_cases e3 : (i - 1) / 2 = p
    ·rw [if_pos e3]
     rw [e3] at h1
     omega
    ·rw [if_neg e3]
     exact h1
 ·rw [T, T, if_neg (by omega), if_neg (by omega)]
  have h2 := h.a p hp0 (by omega) (by omega)
  by_cases e1 : i = j
  ·rw [if_pos e1]; exact h2
  ·rw [if_neg e1, if_neg (by omega)]
   have h3 := h.a i h0 hi e1
   rw [he] at h3
   omega

/-- A heap but for the way from i down. -/
structure DownInv (H : List Le) (n i : Nat) : Prop where
 a : ∀ k, 0 < k → k < n → (k - 1) / 2 ≠ i → tl H ((k - 1) / 2) ≤ tl H k
 b : ∀ k, 0 < k → k < n → (k - 1) / 2 = i → 0 < i → tl H ((i - 1) / 2) ≤ tl H k
theorem DownInv.done {H : List Le} {n i : Nat} (h : DownInv H n i) (hs : ∀ k, 0 < k → k < n → (k - 1) / 2 = i → tl H i ≤ tl H k) : IsHeap H n := by
 intro k h0 hk
 by_cases e : (k - 1) / 2 = i
 ·rw [e]; exact hs k h0 hk e
 ·exact h.a k h0 hk e
theorem DownInv.step {H : List Le} {n i j : Nat} (h : DownInv H n i) (hn : n ≤ H.length) (hj : j < n) (hj0 : 0 < j) (hp : (j - 1) / 2 = i) (hl : tl H j < tl H i) (hm : ∀ k, 0 < k → k < n → (k - 1) / 2 = i → tl H j ≤ tl H k) : DownInv (sw H i j) n j := by
 have hij : i < j := by omega
 have T := fun k => tl_sw (H := H) (i := i) (j := j) (by omega) (by omega) k
 refine ⟨fun k h0 hk hne => ?_, fun k h0 hk he _ => ?_⟩
 ·rw [T, T, if_neg hne]
  by_cases e1 : k = j
  ·rw [if_pos e1, if_pos (by rw [e1]; exact hp)]
   omega
  ·rw [if_neg e1]
   by_cases e2 : (k - 1) / 2 = i
   ·rw [if_pos e2, if_neg (by omega)]
    exact hm k h0 hk e2
   ·rw [if_neg e2]
    by_cases e3 : k = i
    ·rw [if_pos e3]
     have h2 := h.b j hj0 hj hp (by omega)
     rw [e3]
     exact h2
    ·rw [if_neg e3]
     exact h.a k h0 hk e2
 ·rw [T, T, hp, if_neg (by omega), if_pos rfl, if_neg (by omega), if_neg (by omega)]
  have h2 := h.a k h0 hk (by omega)
  rw [he] at h2
  exact h2
/-- The last one put on top: only the way from the top down is open. -/
theorem IsHeap.down {H : List Le} {m : Nat} (h : IsHeap H (m + 1)) (hn : m + 1 ≤ H.length) : DownInv (sw H 0 m) m 0 := by
 have T := fun k => tl_sw (H := H) (i := 0) (j := m) (by omega) (by omega) k
 refine ⟨fun k h0 hk hne => ?_, fun k _ _ _ h0 => by omega⟩
 rw [T, T, if_neg (by omega), if_neg (by omega), if_neg (by omega), if_neg (by omega)]
 exact h k h0 (by omega)
theorem IsHeap.snoc {H : List Le} {x : Le} (h : IsHeap H H.length) : UpInv (H ++ [x]) (H.length + 1) H.length := by
 have T : ∀ k, k < H.length → tl (H ++ [x]) k = tl H k := fun k hk => by
  unfold tl
  rw [List.getD_eq_getElem?_getD, List.getD_eq_getElem?_getD, List.getElem?_append_left hk]
 refine ⟨by omega, fun i h0 hi hne => ?_, fun i h0 hi he _ => by omega⟩
 rw [T _ (by omega), T _ (by omega)]
 exact h i h0 (by omega)
end Go.Proofs.YtaekanhjkpoifaaGreatDoor

/-
 Chapter 11, events: contracts of the program and of the model. Own work.
-/
namespace Go.Proofs.YtaekanhjkpoifaaGreatDoor
open Go.RowKit P
set_option linter.unusedVariables false
set_option linter.unusedSimpArgs false

/-- Is it an event? -/
def evOk (x s p : Int) (n : Nat) : Bool :=
 if x = 1 then decide (s = 0) && (decide (p = 0) && decide (n ≤ 1000))
 else if x = 2 then decide (1 ≤ s ∧ s ≤ 8) && (decide (p = 0) && decide (n = 0))
 else if x = 3 then decide (s = 0) && (decide (1 ≤ p ∧ p ≤ 1000) && decide (n = 0))
 else false
set_option maxHeartbeats 400000 in
theorem isTick_any (n : Int) (w : World) : Calls Tryz.prog 51 #[.int .i64 n] w fun e w' => e = .returned (.bool (decide (1 ≤ n ∧ n ≤ 1000))) ∧ w' = w := by
 by_cases h : 1 ≤ n
 ·go_enter Tryz.func51, Tryz.ntmps51
  go_wp2
  go_ret
  exact ⟨ret_bool (by simp [h]), rfl⟩
 ·have hf : decide (1 ≤ n ∧ n ≤ 1000) = false := by simp; omega
  have HF := Lib.hid hf
  clear hf
  go_enter Tryz.func51, Tryz.ntmps51
  go_wp2
  go_ret
  exact ⟨ret_bool (by simp; omega), rfl⟩
end Go.Proofs.YtaekanhjkpoifaaGreatDoor
