/-
  How values of Go types lie in cells and what they read as (Lay): reading, owning with the list of blocks, for scalars, byte slices, pairs and slices of anything. Own work.
-/
import Derived.Test.YtgpjjolgpppeeaaDoorApp
namespace Go.Proofs.YtgpjjolgpppeeaaDoor
open Go.RowKit P
set_option linter.unusedVariables false

theorem Bs.of_heap {w w' : World} {A : Option Addr} {l : List UInt8} (h : Bs w A l) (hs : w.heap.size ≤ w'.heap.size)
    (hk : ∀ b off, A = some ⟨b, off, none⟩ → 0 < l.length → w'.heap[b]? = w.heap[b]?) : Bs w' A l := by
  intro k hkl
  obtain ⟨b, off, hA, hlt, hc⟩ := h k hkl
  exact ⟨b, off, hA, Nat.lt_of_lt_of_le hlt hs, (World.cell?_of_block (w := w) (hk b off hA (by omega))).trans hc⟩

structure Lay (α : Type) where
  sz : Nat
  rd : World → List Value → α → Prop
  ow : World → List Value → α → List Nat → Prop
  len : ∀ {w : World} {cs : List Value} {x : α}, rd w cs x → cs.length = sz
  one : ∀ {w : World} {cs : List Value} {x : α}, rd w cs x → ∀ u ∈ cs, u.oneCell' = true
  below : ∀ {w w' : World} {cs : List Value} {x : α}, rd w cs x → Below w.heap.size w w' → rd w' cs x
  read : ∀ {w : World} {cs : List Value} {x : α} {fp : List Nat}, ow w cs x fp → rd w cs x
  lt : ∀ {w : World} {cs : List Value} {x : α} {fp : List Nat}, ow w cs x fp → ∀ k ∈ fp, k < w.heap.size
  kept : ∀ {w w' : World} {cs : List Value} {x : α} {fp : List Nat}, ow w cs x fp → (∀ k ∈ fp, w'.heap[k]? = w.heap[k]?) → w.heap.size ≤ w'.heap.size → ow w' cs x fp

/-- A slice of bytes. -/
def bRd (w : World) (cs : List Value) (l : List UInt8) : Prop := ∃ A c, cs = [.slice A l.length c] ∧ l.length ≤ c ∧ c ≤ maxLen ∧ Bs w A l
def bOw (w : World) (cs : List Value) (l : List UInt8) (fp : List Nat) : Prop := ∃ v, cs = [v] ∧ Own w 0 v l ∧ fp = v.ownBlock.toList

theorem Own.heap {w w' : World} {base : Nat} {v : Value} {l : List UInt8} (h : Own w base v l) (hk : ∀ k ∈ v.ownBlock.toList, w'.heap[k]? = w.heap[k]?) : Own w' base v l := by
  refine ⟨h.1, ?_⟩
  rcases h.2 with h2 | ⟨g, cap, cur, rfl, hb, hh, r⟩
  · exact .inl h2
  · exact .inr ⟨g, cap, cur, rfl, hb, (hk g (by simp [Value.ownBlock])).trans hh, r⟩

theorem Own.lift {w : World} {base base' : Nat} {v : Value} {l : List UInt8} (h : Own w base v l) (hk : ∀ k ∈ v.ownBlock.toList, base' ≤ k) : Own w base' v l := by
  refine ⟨h.1, ?_⟩
  rcases h.2 with h2 | ⟨g, cap, cur, rfl, hb, r⟩
  · exact .inl h2
  · exact .inr ⟨g, cap, cur, rfl, hk g (by simp [Value.ownBlock]), r⟩

def Lay.bytes : Lay (List UInt8) where
  sz := 1
  rd := bRd
  ow := bOw
  len := by rintro w cs x ⟨A, c, rfl, _⟩; rfl
  one := by rintro w cs x ⟨A, c, rfl, _⟩ u hu; simp at hu; subst hu; rfl
  below := by rintro w w' cs x ⟨A, c, rfl, h1, h2, hB⟩ hb; exact ⟨A, c, rfl, h1, h2, hB.below hb⟩
  read := by
    rintro w cs x fp ⟨v, rfl, ho, rfl⟩
    obtain ⟨A, c, rfl, h1, h2, hB⟩ := ho.form
    exact ⟨A, c, rfl, h1, h2, hB⟩
  lt := by
    rintro w cs x fp ⟨v, rfl, ho, rfl⟩ k hk
    exact (World.ownsRow.lt ho k (by simpa using hk)).2
  kept := by
    rintro w w' cs x fp ⟨v, rfl, ho, rfl⟩ hk hs
    exact ⟨v, rfl, ho.heap hk, rfl⟩

/-- An int. -/
def Lay.int : Lay Int where
  sz := 1
  rd := fun _ cs x => cs = [.int .i64 x] ∧ -9223372036854775808 ≤ x ∧ x ≤ 9223372036854775807
  ow := fun _ cs x fp => cs = [.int .i64 x] ∧ (-9223372036854775808 ≤ x ∧ x ≤ 9223372036854775807) ∧ fp = []
  len := by rintro w cs x ⟨rfl, _⟩; rfl
  one := by rintro w cs x ⟨rfl, _⟩ u hu; simp at hu; subst hu; rfl
  below := by rintro w w' cs x h _; exact h
  read := by rintro w cs x fp ⟨h, b, _⟩; exact ⟨h, b⟩
  lt := by rintro w cs x fp ⟨_, _, rfl⟩ k hk; cases hk
  kept := by rintro w w' cs x fp h _ _; exact h

/-- One behind the other. -/
def Lay.pair {α β : Type} (a : Lay α) (b : Lay β) : Lay (α × β) where
  sz := a.sz + b.sz
  rd := fun w cs x => ∃ c1 c2, cs = c1 ++ c2 ∧ a.rd w c1 x.1 ∧ b.rd w c2 x.2
  ow := fun w cs x fp => ∃ c1 c2 f1 f2, cs = c1 ++ c2 ∧ a.ow w c1 x.1 f1 ∧ b.ow w c2 x.2 f2 ∧ fp = f1 ++ f2
  len := by rintro w cs x ⟨c1, c2, rfl, h1, h2⟩; rw [List.length_append, a.len h1, b.len h2]
  one := by
    rintro w cs x ⟨c1, c2, rfl, h1, h2⟩ u hu
    rcases List.mem_append.1 hu with h | h
    · exact a.one h1 u h
    · exact b.one h2 u h
  below := by rintro w w' cs x ⟨c1, c2, rfl, h1, h2⟩ hb; exact ⟨c1, c2, rfl, a.below h1 hb, b.below h2 hb⟩
  read := by rintro w cs x fp ⟨c1, c2, f1, f2, rfl, h1, h2, rfl⟩; exact ⟨c1, c2, rfl, a.read h1, b.read h2⟩
  lt := by
    rintro w cs x fp ⟨c1, c2, f1, f2, rfl, h1, h2, rfl⟩ k hk
    rcases List.mem_append.1 hk with h | h
    · exact a.lt h1 k h
    · exact b.lt h2 k h
  kept := by
    rintro w w' cs x fp ⟨c1, c2, f1, f2, rfl, h1, h2, rfl⟩ hk hs
    exact ⟨c1, c2, f1, f2, rfl, a.kept h1 (fun k h => hk k (List.mem_append.2 (.inl h))) hs, b.kept h2 (fun k h => hk k (List.mem_append.2 (.inr h))) hs, rfl⟩

/-- The slice that starts at A holds the values l, n cells each. -/
def Sl {α : Type} (n : Nat) (R : World → List Value → α → Prop) (w : World) (A : Option Addr) (l : List α) : Prop :=
  ∀ k (h : k < l.length), ∃ b off us, A = some ⟨b, off, none⟩ ∧ b < w.heap.size ∧ us.length = n ∧ (∀ j (hj : j < us.length), w.cell? ⟨b, off + (k * n + j), none⟩ = some us[j]) ∧ R w us l[k]

theorem Sl.nil {α : Type} (n : Nat) (R : World → List Value → α → Prop) (w : World) (A : Option Addr) : Sl n R w A [] := fun k h => by simp at h

theorem Sl.below {α : Type} {E : Lay α} {w w' : World} {A : Option Addr} {l : List α} (h : Sl E.sz E.rd w A l) (hb : Below w.heap.size w w') : Sl E.sz E.rd w' A l := by
  intro k hk
  obtain ⟨b, off, us, hA, hlt, hl, hc, hr⟩ := h k hk
  exact ⟨b, off, us, hA, Nat.lt_of_lt_of_le hlt hb.size, hl, fun j hj => (hb.cell (p := ⟨b, off + (k * E.sz + j), none⟩) hlt).trans (hc j hj), E.below hr hb⟩

/-- An element of one cell. -/
theorem Sl.at1 {α : Type} {R : World → List Value → α → Prop} {w : World} {A : Option Addr} {l : List α} (h : Sl 1 R w A l) (k : Nat) (hk : k < l.length) :
    ∃ b off v, A = some ⟨b, off, none⟩ ∧ b < w.heap.size ∧ w.cell? ⟨b, off + k, none⟩ = some v ∧ R w [v] l[k] := by
  obtain ⟨b, off, us, hA, hlt, hl, hc, hr⟩ := h k hk
  match us, hl with
  | [v], _ =>
    have := hc 0 (by simp)
    simp only [Nat.mul_one, Nat.add_zero] at this
    exact ⟨b, off, v, hA, hlt, this, hr⟩

theorem flat_get {β : Type} (n : Nat) : ∀ (es : List β) (f : β → List Value), (∀ e ∈ es, (f e).length = n) → ∀ k (hk : k < es.length) j (hj : j < (f es[k]).length), (es.flatMap f)[k * n + j]? = some (f es[k])[j] := by
  intro es f
  induction es with
  | nil => intro _ k hk; simp at hk
  | cons e t ih =>
    intro h k hk j hj
    have hn : (f e).length = n := h e (by simp)
    rw [List.flatMap_cons]
    cases k with
    | zero =>
      simp only [List.getElem_cons_zero] at hj ⊢
      rw [Nat.zero_mul, Nat.zero_add, List.getElem?_append_left hj, List.getElem?_eq_getElem hj]
    | succ k =>
      simp only [List.getElem_cons_succ] at hj ⊢
      rw [List.getElem?_append_right (by rw [hn, Nat.add_mul]; omega), hn, show (k + 1) * n + j - n = k * n + j by rw [Nat.add_mul]; omega]
      exact ih (fun e he => h e (by simp [he])) k (by simpa using hk) j hj

theorem flat_len {β : Type} (n : Nat) : ∀ (es : List β) (f : β → List Value), (∀ e ∈ es, (f e).length = n) → (es.flatMap f).length = es.length * n := by
  intro es f
  induction es with
  | nil => intro _; simp
  | cons e t ih =>
    intro h
    rw [List.flatMap_cons, List.length_append, h e (by simp), ih (fun e he => h e (by simp [he])), List.length_cons, Nat.add_mul]
    omega

/-- An element of a slice of the call's own: its cells, what it reads as, its blocks. -/
abbrev El (α : Type) := List Value × α × List Nat

def sOw {α : Type} (T : TypeId) (E : Lay α) (w : World) (cs : List Value) (l : List α) (fp : List Nat) : Prop :=
  ∃ (v : Value) (es : List (El α)), cs = [v] ∧ l = es.map (·.2.1) ∧ w.ownsRow 0 T E.sz v es.length (es.flatMap (·.1)) ∧ (∀ e ∈ es, E.ow w e.1 e.2.1 e.2.2) ∧ fp = v.ownBlock.toList ++ es.flatMap (·.2.2)

theorem ownsRow_form {w : World} {base : Nat} {T : TypeId} {n : Nat} {v : Value} {m : Nat} {xs : List Value} (h : w.ownsRow base T n v m xs) :
    ∃ A c, v = .slice A m c ∧ m ≤ c ∧ c ≤ maxLen ∧ ∀ i (hi : i < xs.length), ∃ b, A = some ⟨b, 0, none⟩ ∧ b < w.heap.size ∧ w.cell? ⟨b, i, none⟩ = some xs[i] := by
  obtain ⟨h1, h2⟩ := h
  rcases h2 with ⟨rfl, h0⟩ | ⟨g, cap, cur, rfl, hb, hh, hn, hc, hs, ht⟩
  · subst h0
    exact ⟨none, 0, rfl, Nat.le_refl _, by unfold maxLen; omega, fun i hi => by omega⟩
  · refine ⟨_, cap, rfl, hn, hc, fun i hi => ⟨g, rfl, (Array.getElem?_eq_some_iff.1 hh).1, ?_⟩⟩
    rw [cell_of_row w g i cur _ (0, 0) hh]
    have h3 : (cur.toList.take (m * n))[i]? = xs[i]? := by rw [ht]
    rw [List.getElem?_take, if_pos (by omega)] at h3
    simp only [Array.getElem?_toList] at h3
    rw [h3]
    simp [hi]

theorem sOw_form {α : Type} {T : TypeId} {E : Lay α} {w : World} {cs : List Value} {l : List α} {fp : List Nat} (h : sOw T E w cs l fp) :
    ∃ A c, cs = [.slice A l.length c] ∧ l.length ≤ c ∧ c ≤ maxLen ∧ Sl E.sz E.rd w A l := by
  obtain ⟨v, es, rfl, rfl, hrow, hes, rfl⟩ := h
  obtain ⟨A, c, rfl, h1, h2, h3⟩ := ownsRow_form hrow
  have hl : ∀ e ∈ es, (e.1 : List Value).length = E.sz := fun e he => E.len (E.read (hes e he))
  refine ⟨A, c, by simp, by simpa using h1, h2, fun k hk => ?_⟩
  rw [List.length_map] at hk
  have hfl := flat_len E.sz es (·.1) hl
  have hek := hes es[k] (List.getElem_mem hk)
  have hlk := hl es[k] (List.getElem_mem hk)
  have key : ∀ j (hj : j < (es[k].1).length), ∃ b, A = some ⟨b, 0, none⟩ ∧ b < w.heap.size ∧ w.cell? ⟨b, k * E.sz + j, none⟩ = some (es[k].1)[j] := by
    intro j hj
    have hg := flat_get E.sz es (·.1) hl k hk j hj
    obtain ⟨hi, hv⟩ := List.getElem?_eq_some_iff.1 hg
    obtain ⟨b, hA, hb, hc⟩ := h3 (k * E.sz + j) hi
    exact ⟨b, hA, hb, by rw [hc, hv]⟩
  rcases hrow.2 with ⟨hv, h0⟩ | ⟨g, cap, cur, hv, _, hh, _⟩
  · omega
  · cases hv
    refine ⟨g, 0, es[k].1, rfl, (Array.getElem?_eq_some_iff.1 hh).1, hlk, fun j hj => ?_, by rw [List.getElem_map]; exact E.read hek⟩
    obtain ⟨b, hA, hb, hc⟩ := key j hj
    cases hA
    rw [Nat.zero_add]
    exact hc

/-- A slice of anything. -/
def Lay.slice {α : Type} (T : TypeId) (E : Lay α) : Lay (List α) where
  sz := 1
  rd := fun w cs l => ∃ A c, cs = [.slice A l.length c] ∧ l.length ≤ c ∧ c ≤ maxLen ∧ Sl E.sz E.rd w A l
  ow := sOw T E
  len := by rintro w cs x ⟨A, c, rfl, _⟩; rfl
  one := by rintro w cs x ⟨A, c, rfl, _⟩ u hu; simp at hu; subst hu; rfl
  below := by rintro w w' cs x ⟨A, c, rfl, h1, h2, h3⟩ hb; exact ⟨A, c, rfl, h1, h2, h3.below hb⟩
  read := by rintro w cs x fp h; exact sOw_form h
  lt := by
    rintro w cs x fp ⟨v, es, rfl, rfl, hrow, hes, rfl⟩ k hk
    rcases List.mem_append.1 hk with h | h
    · exact (World.ownsRow.lt hrow k (by simpa using h)).2
    · obtain ⟨e, he, hk⟩ := List.mem_flatMap.1 h
      exact E.lt (hes e he) k hk
  kept := by
    rintro w w' cs x fp ⟨v, es, rfl, rfl, hrow, hes, rfl⟩ hk hs
    refine ⟨v, es, rfl, rfl, ⟨hrow.1, ?_⟩, fun e he => E.kept (hes e he) (fun k h => hk k (List.mem_append.2 (.inr (List.mem_flatMap.2 ⟨e, he, h⟩)))) hs, rfl⟩
    rcases hrow.2 with h2 | ⟨g, cap, cur, rfl, hb, hh, r⟩
    · exact .inl h2
    · exact .inr ⟨g, cap, cur, rfl, hb, (hk g (List.mem_append.2 (.inl (by simp [Value.ownBlock])))).trans hh, r⟩

/-- What a call ends in that makes a value of its own, in memory from the heap's size at its begin on. -/
def Gives {α : Type} (L : Lay α) (wrap : List Value → Value) (x : α) (w : World) (e : Ending) (w' : World) : Prop :=
  ∃ cs fp, e = .returned (wrap cs) ∧ L.ow w' cs x fp ∧ fp.Nodup ∧ (∀ k ∈ fp, w.heap.size ≤ k) ∧ Below w.heap.size w w'

def wSlice (cs : List Value) : Value := cs.headD (.slice none 0 0)
def wAgg (cs : List Value) : Value := .agg cs.toArray

/-- From w to w' nothing that was there has turned but the blocks of fp. -/
structure Keeps (fp : List Nat) (w w' : World) : Prop where
  os : w'.os = w.os
  tape : w'.tape = w.tape
  output : w'.output = w.output
  size : w.heap.size ≤ w'.heap.size
  block : ∀ k, k < w.heap.size → k ∉ fp → w'.heap[k]? = w.heap[k]?

theorem Keeps.refl (fp : List Nat) (w : World) : Keeps fp w w := ⟨rfl, rfl, rfl, Nat.le_refl _, fun _ _ _ => rfl⟩
theorem Keeps.trans {fp : List Nat} {a b c : World} (h : Keeps fp a b) (k : Keeps fp b c) : Keeps fp a c :=
  ⟨k.os.trans h.os, k.tape.trans h.tape, k.output.trans h.output, Nat.le_trans h.size k.size, fun i hi hn => (k.block i (Nat.lt_of_lt_of_le hi h.size) hn).trans (h.block i hi hn)⟩
theorem Keeps.mono {fp fq : List Nat} {w w' : World} (h : Keeps fp w w') (hs : ∀ k ∈ fp, k ∈ fq) : Keeps fq w w' :=
  ⟨h.os, h.tape, h.output, h.size, fun i hi hn => h.block i hi (fun x => hn (hs i x))⟩
theorem Keeps.of_grown {w w' : World} {row : Option Nat} (h : w.grownBy w' row) : Keeps row.toList w w' :=
  ⟨h.os, h.tape, h.output, h.size, fun i hi hn => h.block i hi (fun e => hn (by simp [← e]))⟩
theorem Keeps.below {fp : List Nat} {w w' : World} (h : Keeps fp w w') {B : Nat} (hB : B ≤ w.heap.size) (hf : ∀ k ∈ fp, B ≤ k) : Below B w w' :=
  ⟨h.os, h.tape, h.output, h.size, fun i hi => h.block i (by omega) (fun x => by have := hf i x; omega)⟩
theorem Keeps.of_below {fp : List Nat} {w w' : World} (h : Below w.heap.size w w') : Keeps fp w w' := ⟨h.os, h.tape, h.output, h.size, fun i hi _ => h.block i hi⟩

theorem Lay.keeps {α : Type} (L : Lay α) {w w' : World} {cs : List Value} {x : α} {fp fq : List Nat} (h : L.ow w cs x fp) (hk : Keeps fq w w') (hd : ∀ k ∈ fp, k ∉ fq) : L.ow w' cs x fp :=
  L.kept h (fun k hkf => hk.block k (L.lt h k hkf) (hd k hkf)) hk.size
theorem Lay.owBelow {α : Type} (L : Lay α) {w w' : World} {cs : List Value} {x : α} {fp : List Nat} (h : L.ow w cs x fp) (hb : Below w.heap.size w w') : L.ow w' cs x fp :=
  L.kept h (fun k hkf => hb.block k (L.lt h k hkf)) hb.size

theorem Own.ow {w : World} {base : Nat} {v : Value} {l : List UInt8} (h : Own w base v l) : Lay.bytes.ow w [v] l v.ownBlock.toList := ⟨v, rfl, h.mono (Nat.zero_le _), rfl⟩
theorem Own.fp {w : World} {base : Nat} {v : Value} {l : List UInt8} (h : Own w base v l) : v.ownBlock.toList.Nodup ∧ ∀ k ∈ v.ownBlock.toList, base ≤ k :=
  ⟨by cases v.ownBlock <;> simp, fun k hk => (World.ownsRow.lt h k (by simpa using hk)).1⟩

theorem ownsRow_of_rowIs {w : World} {g : Nat} {T : TypeId} {m n : Nat} {xs : List Value} {f : Nat → Value} (h : w.rowIs g T (m * n) f) (hl : xs.length = m * n) (hx : ∀ i (hi : i < xs.length), f i = xs[i]) (hm : m ≤ maxLen) (base : Nat) (hb : base ≤ g) :
    w.ownsRow base T n (.slice (some ⟨g, 0, none⟩) m m) m xs := by
  have h' := h
  unfold World.rowIs at h'
  obtain ⟨c, hh, hs, hc⟩ := h'
  refine ⟨hl, .inr ⟨g, m, c, rfl, hb, hh, Nat.le_refl _, hm, hs, ?_⟩⟩
  apply List.ext_getElem?
  intro i
  rw [List.getElem?_take]
  by_cases hi : i < m * n
  · rw [if_pos hi, Array.getElem?_toList, hc i hi, hx i (by omega), List.getElem?_eq_getElem (by omega)]
  · rw [if_neg hi, List.getElem?_eq_none (by omega)]

theorem run_mk {P : Program} (t e : TypeId) (z : Value) (size bytes : Nat) (ht : P.underlying t = some (.slice e)) (hinfo : (P.info? e).map (fun i => (i.zero, i.size, i.bytes)) = some (some z, size, bytes))
    (n : Nat) (hbytes : bytes * n ≤ 281474976710656) (h63 : n ≤ 9223372036854775807) (w : World) :
    (Instr.makeSlice t (.int .i64 (n : Int)) (.int .i64 (n : Int))).run P w = .ok (.slice (some ⟨w.heap.size, 0, none⟩) n n) (w.alloc (.cells (madeCells z.cells (n * size)) e)) := by
  obtain ⟨i, hi, hzz⟩ := Option.map_eq_some_iff.1 hinfo
  simp only [Prod.mk.injEq] at hzz
  obtain ⟨hz, hs, hb⟩ := hzz
  have hbb : (i.bytes : Int) * (n : Int) ≤ 281474976710656 := by
    rw [hb]
    have h : ((bytes * n : Nat) : Int) ≤ 281474976710656 := by omega
    rwa [Int.natCast_mul] at h
  have := run_make (P := P) w t e i z ht hi hz .i64 .i64 n n (by omega) (Int.le_refl _) hbb (by omega)
  simpa [hs] using this

theorem bcell {W w1 : World} (hb : Below W.heap.size W w1) : (∀ b o, b < W.heap.size → w1.cell? ⟨b, o, none⟩ = W.cell? ⟨b, o, none⟩) ∧ (∀ b o, b < W.heap.size → w1.frozen? ⟨b, o, none⟩ = W.frozen? ⟨b, o, none⟩) :=
  ⟨fun b o h => hb.cell (p := ⟨b, o, none⟩) h, fun b o h => hb.frozen (p := ⟨b, o, none⟩) h⟩

theorem Own.setBelow {w : World} {base : Nat} {v : Value} {l : List UInt8} (h : Own w base v l) {a : Addr} (ha : a.block < base) (u : Value) : Own (w.setCell a u) base v l := ownsRow_setCell_below h ha u

theorem nodup_snoc {l : List Nat} {k : List Nat} {B : Nat} (h : l.Nodup) (hk : k.Nodup) (hl : ∀ x ∈ l, x < B) (hb : ∀ x ∈ k, B ≤ x) : (l ++ k).Nodup := by
  rw [List.nodup_append]
  exact ⟨h, hk, fun a ha b hb2 e => by have := hl a ha; have := hb b hb2; omega⟩

/-- Block g is a new row of n elements that is being filled: the elements es stand in it, zeros (z) behind them. -/
structure Filling {α : Type} (T : TypeId) (E : Lay α) (z : Nat → Value) (n : Nat) (w : World) (g : Nat) (es : List (El α)) : Prop where
  els : ∀ e ∈ es, E.ow w e.1 e.2.1 e.2.2
  row : w.rowIs g T (n * E.sz) (fun j => ((es.flatMap (·.1))[j]?).getD (z j))
  nodup : (es.flatMap (·.2.2)).Nodup
  bd : ∀ b ∈ es.flatMap (·.2.2), g < b

theorem Filling.made {α : Type} {T : TypeId} {E : Lay α} (zc : Array Value) (n : Nat) (w : World) : Filling T E (fun j => zc[j % zc.size]!) n (w.alloc (.cells (madeCells zc (n * E.sz)) T)) w.heap.size [] :=
  ⟨by simp, ⟨_, heap_alloc_new w _, size_madeCells _ _, fun i hi => by simp [madeCells, hi]⟩, by simp, by simp⟩
theorem Filling.made1 {α : Type} {T : TypeId} {E : Lay α} (h1 : E.sz = 1) (z : Value) (n : Nat) (w : World) : Filling T E (fun _ => z) n (w.alloc (.cells (madeCells #[z] n) T)) w.heap.size [] := by
  refine ⟨by simp, ?_, by simp, by simp⟩
  rw [h1, Nat.mul_one]
  exact (World.rowIs_made w z n T).congr (fun j hj => rfl)

theorem Filling.flat {α : Type} {T : TypeId} {E : Lay α} {z : Nat → Value} {n : Nat} {w : World} {g : Nat} {es : List (El α)} (h : Filling T E z n w g es) : (es.flatMap (·.1)).length = es.length * E.sz :=
  flat_len E.sz es (·.1) (fun e he => E.len (E.read (h.els e he)))

theorem Filling.lt {α : Type} {T : TypeId} {E : Lay α} {z : Nat → Value} {n : Nat} {w : World} {g : Nat} {es : List (El α)} (h : Filling T E z n w g es) : ∀ b ∈ es.flatMap (·.2.2), b < w.heap.size := by
  intro b hb
  obtain ⟨e, he, hk⟩ := List.mem_flatMap.1 hb
  exact E.lt (h.els e he) b hk

/-- One element more: made behind all that was there, then stored. -/
theorem Filling.snoc {α : Type} {T : TypeId} {E : Lay α} {z : Nat → Value} {n : Nat} {w w1 w2 : World} {g : Nat} {es : List (El α)} (h : Filling T E z n w g es) (hb : Below w.heap.size w w1) {us : List Value} {x : α} {fp : List Nat}
    (ho : E.ow w1 us x fp) (hn : fp.Nodup) (hf : ∀ k ∈ fp, w.heap.size ≤ k)
    (hr : w2.rowIs g T (n * E.sz) (fun j => if es.length * E.sz ≤ j ∧ j < es.length * E.sz + E.sz then (us[j - es.length * E.sz]?).getD (z j) else ((es.flatMap (·.1))[j]?).getD (z j)))
    (hk : ∀ k, k ≠ g → w2.heap[k]? = w1.heap[k]?) (hs : w1.heap.size ≤ w2.heap.size) : Filling T E z n w2 g (es ++ [(us, x, fp)]) := by
  have hg : g < w.heap.size := h.row.lt
  have hus : us.length = E.sz := E.len (E.read ho)
  have hfl := h.flat
  refine ⟨fun e he => ?_, hr.congr (fun j hj => ?_), ?_, fun b hbm => ?_⟩
  · rcases List.mem_append.1 he with he | he
    · refine E.kept (E.owBelow (h.els e he) hb) (fun k hkm => hk k ?_) hs
      intro hkg
      have := h.bd k (List.mem_flatMap.2 ⟨e, he, hkm⟩)
      omega
    · have : e = (us, x, fp) := by simpa using he
      subst this
      exact E.kept ho (fun k hkm => hk k (by have := hf k hkm; omega)) hs
  · rw [List.flatMap_append]
    simp only [List.flatMap_cons, List.flatMap_nil, List.append_nil]
    by_cases h1 : j < es.length * E.sz
    · rw [if_neg (by omega), List.getElem?_append_left (by rw [hfl]; exact h1)]
    · by_cases h2 : j < es.length * E.sz + E.sz
      · rw [if_pos ⟨by omega, h2⟩, List.getElem?_append_right (by rw [hfl]; omega), hfl]
      · rw [if_neg (by omega), List.getElem?_eq_none (l := es.flatMap (·.1)) (by rw [hfl]; omega), List.getElem?_eq_none (by rw [List.length_append, hfl, hus]; omega)]
  · rw [List.flatMap_append]
    simp only [List.flatMap_cons, List.flatMap_nil, List.append_nil]
    exact nodup_snoc h.nodup hn h.lt hf
  · rw [List.flatMap_append] at hbm
    simp only [List.flatMap_cons, List.flatMap_nil, List.append_nil] at hbm
    rcases List.mem_append.1 hbm with hbm | hbm
    · exact h.bd b hbm
    · have := hf b hbm; omega

theorem Filling.snoc1 {α : Type} {T : TypeId} {E : Lay α} {z : Nat → Value} {n : Nat} {w w1 : World} {g : Nat} {es : List (El α)} (h : Filling T E z n w g es) (hb : Below w.heap.size w w1) {v : Value} {x : α} {fp : List Nat} (h1 : E.sz = 1)
    (ho : E.ow w1 [v] x fp) (hn : fp.Nodup) (hf : ∀ k ∈ fp, w.heap.size ≤ k) : Filling T E z n (w1.setCell ⟨g, es.length, none⟩ v) g (es ++ [([v], x, fp)]) := by
  refine h.snoc hb ho hn hf ?_ (fun k hk => Below.heap_setCell _ _ _ _ hk) (by simp [World.setCell])
  refine ((h.row.of_block (hb.block g h.row.lt)).set es.length v).congr (fun j hj => ?_)
  simp only [h1, Nat.mul_one]
  by_cases e : j = es.length
  · subst e
    rw [if_pos rfl, if_pos ⟨Nat.le_refl _, by omega⟩]
    simp
  · rw [if_neg e, if_neg (by omega)]

theorem Filling.done {α : Type} {T : TypeId} {E : Lay α} {z : Nat → Value} {n : Nat} {w : World} {g : Nat} {es : List (El α)} (h : Filling T E z n w g es) (hn : es.length = n) (hm : n ≤ maxLen) :
    (Lay.slice T E).ow w [.slice (some ⟨g, 0, none⟩) n n] (es.map (·.2.1)) (g :: es.flatMap (·.2.2)) ∧ (g :: es.flatMap (·.2.2)).Nodup ∧ ∀ k ∈ g :: es.flatMap (·.2.2), g ≤ k := by
  refine ⟨⟨_, es, rfl, rfl, ?_, h.els, by simp [Value.ownBlock]⟩, ?_, ?_⟩
  · subst hn
    refine ownsRow_of_rowIs h.row h.flat (fun i hi => ?_) hm 0 (Nat.zero_le _)
    rw [List.getElem?_eq_getElem hi]
    rfl
  · rw [List.nodup_cons]
    exact ⟨fun hg => by have := h.bd g hg; omega, h.nodup⟩
  · intro k hk
    rcases List.mem_cons.1 hk with rfl | hk
    · exact Nat.le_refl _
    · exact Nat.le_of_lt (h.bd k hk)


theorem split_at {β : Type} (es : List β) (i : Nat) (hi : i < es.length) : ∃ a e b, es = a ++ e :: b ∧ a.length = i ∧ e = es[i] :=
  ⟨es.take i, es[i], es.drop (i + 1), by rw [← List.drop_eq_getElem_cons hi, List.take_append_drop], by rw [List.length_take]; omega, rfl⟩

/-- One element of an own slice: its cells, its blocks, and the slice again when nothing but this element has turned. -/
theorem Lay.focus {α : Type} {T : TypeId} {E : Lay α} {w : World} {v : Value} {l : List α} {fp : List Nat} (h : (Lay.slice T E).ow w [v] l fp) (hn : fp.Nodup) (i : Nat) (hi : i < l.length) :
    ∃ g c us fi, v = .slice (some ⟨g, 0, none⟩) l.length c ∧ us.length = E.sz ∧ (∀ j (hj : j < us.length), w.cell? ⟨g, i * E.sz + j, none⟩ = some us[j]) ∧ g < w.heap.size ∧ w.frozen? ⟨g, 0, none⟩ = false ∧
      E.ow w us l[i] fi ∧ fi.Nodup ∧ (∀ k ∈ fi, k ∈ fp ∧ k ≠ g) ∧ ∀ w' x', Keeps fi w w' → E.ow w' us x' fi → (Lay.slice T E).ow w' [v] (l.set i x') fp := by
  obtain ⟨v', es, hv, hl, hrow, hes, hfp⟩ := h
  cases hv
  subst hl
  rw [List.length_map] at hi
  obtain ⟨a, e, b, hab, ha, he⟩ := split_at es i hi
  have hlen : ∀ e ∈ es, (e.1 : List Value).length = E.sz := fun e he => E.len (E.read (hes e he))
  have hei : (es.map (·.2.1))[i]'(by rw [List.length_map]; exact hi) = e.2.1 := by rw [List.getElem_map, ← he]
  have heo := hes e (by rw [he]; exact List.getElem_mem hi)
  rcases hrow.2 with ⟨hv, h0⟩ | ⟨g, cap, cur, hv, _, hh, hnc, hcm, hcs, htk⟩
  · omega
  · subst hv
    have hg : g < w.heap.size := (Array.getElem?_eq_some_iff.1 hh).1
    rw [hfp, hab, List.flatMap_append, List.flatMap_cons] at hn
    simp only [Value.ownBlock, Option.toList_some, List.singleton_append, List.nodup_cons, List.mem_append, not_or] at hn
    obtain ⟨⟨n1, n2, n3⟩, hn⟩ := hn
    rw [List.nodup_append] at hn
    obtain ⟨na, hn, nd1⟩ := hn
    rw [List.nodup_append] at hn
    obtain ⟨ne, nb, nd2⟩ := hn
    refine ⟨g, cap, e.1, e.2.2, by simp, hlen e (by rw [he]; exact List.getElem_mem hi), fun j hj => ?_, hg, by simp [World.frozen?, hh], by rw [hei]; exact heo, ne, fun k hk => ⟨?_, fun x => n2 (by rw [← x]; exact hk)⟩, fun w' x' hke hox => ?_⟩
    · have hj' : j < (es[i].1).length := by rw [← he]; exact hj
      have hgt := flat_get E.sz es (·.1) hlen i hi j hj'
      have h3 : (cur.toList.take (es.length * E.sz))[i * E.sz + j]? = (es.flatMap (·.1))[i * E.sz + j]? := by rw [htk]
      rw [hgt, List.getElem?_take] at h3
      rw [cell_of_row w g _ cur _ (0, 0) hh]
      split at h3
      · simp only [Array.getElem?_toList] at h3
        rw [h3]
        simp only [he]
      · cases h3
    · rw [hfp, hab, List.flatMap_append, List.flatMap_cons]
      simp [hk]
    · have hset : (es.map (·.2.1)).set i x' = (a ++ (e.1, x', e.2.2) :: b).map (·.2.1) := by
        rw [hab, List.map_append, List.map_cons, List.set_append_right _ _ (by rw [List.length_map]; omega), List.length_map, ha, Nat.sub_self, List.set_cons_zero, List.map_append, List.map_cons]
      rw [hset]
      refine ⟨_, a ++ (e.1, x', e.2.2) :: b, rfl, rfl, ?_, ?_, ?_⟩
      · have e1 : (a ++ (e.1, x', e.2.2) :: b).length = es.length := by rw [hab]; simp
        have e2 : (a ++ (e.1, x', e.2.2) :: b).flatMap (·.1) = es.flatMap (·.1) := by rw [hab]; simp
        rw [e1, e2]
        exact ⟨hrow.1, .inr ⟨g, cap, cur, rfl, Nat.zero_le _, (hke.block g hg (fun x => n2 x)).trans hh, hnc, hcm, hcs, htk⟩⟩
      · intro f hf
        rcases List.mem_append.1 hf with hf | hf
        · refine E.keeps (hes f (by rw [hab]; exact List.mem_append.2 (.inl hf))) hke (fun k hk hk2 => ?_)
          exact nd1 k (List.mem_flatMap.2 ⟨f, hf, hk⟩) k (List.mem_append.2 (.inl hk2)) rfl
        · rcases List.mem_cons.1 hf with rfl | hf
          · exact hox
          · refine E.keeps (hes f (by rw [hab]; exact List.mem_append.2 (.inr (List.mem_cons_of_mem _ hf)))) hke (fun k hk hk2 => ?_)
            exact nd2 k hk2 k (List.mem_flatMap.2 ⟨f, hf, hk⟩) rfl
      · rw [hfp, hab]; simp

end Go.Proofs.YtgpjjolgpppeeaaDoor
