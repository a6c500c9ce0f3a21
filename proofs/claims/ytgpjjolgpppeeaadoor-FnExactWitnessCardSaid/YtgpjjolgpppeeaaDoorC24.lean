/-
  Chapter 12, the laws' helpers on lists of events and of outputs: layouts and contracts (sizes, copies, equality). Own work.
-/
import Derived.Test.YtgpjjolgpppeeaaDoorKst
import Derived.Test.YtgpjjolgpppeeaaDoorC09
import Derived.Test.YtgpjjolgpppeeaaDoorC13
import Derived.Test.YtgpjjolgpppeeaaDoorC21
import Derived.Deep.RegionWith
import Derived.Deep.RegionHeld3
namespace Go.Proofs.YtgpjjolgpppeeaaDoor
open Go.RowKit P
set_option linter.unusedVariables false
set_option linter.unusedSimpArgs false
set_option maxRecDepth 100000

/-- A request, a reply, an event, an output. -/
abbrev Rq := Int × Int × Int × Int × Int × List UInt8
abbrev Rp := Int × Int × Int × List UInt8
abbrev Evt := Int × Int × Int × List UInt8
abbrev Ot := Int × Int × Rq × Int × Rp
def Lay.rqL : Lay Rq := Lay.pair Lay.int (Lay.pair Lay.int (Lay.pair Lay.int (Lay.pair Lay.int (Lay.pair Lay.int Lay.bytes))))
def Lay.rpL : Lay Rp := Lay.pair Lay.int (Lay.pair Lay.int (Lay.pair Lay.int Lay.bytes))
def Lay.out : Lay Ot := Lay.pair Lay.int (Lay.pair Lay.int (Lay.pair Lay.rqL (Lay.pair Lay.int Lay.rpL)))
def Lay.evts : Lay (List Evt) := Lay.slice 83 Lay.rpL
def Lay.rps : Lay (List Rp) := Lay.slice 60 Lay.rpL
def Lay.outs : Lay (List Ot) := Lay.slice 85 Lay.out
/-- Lists of events (and of replies), of outputs, in memory. -/
def Evs (w : World) (A : Option Addr) (es : List Evt) : Prop := Sl 4 Lay.rpL.rd w A es
def Ots (w : World) (A : Option Addr) (es : List Ot) : Prop := Sl 13 Lay.out.rd w A es
theorem Evs.below {w w' : World} {A : Option Addr} {es : List Evt} (h : Evs w A es) (hb : Below w.heap.size w w') : Evs w' A es := Sl.below (E := Lay.rpL) h hb
theorem Ots.below {w w' : World} {A : Option Addr} {es : List Ot} (h : Ots w A es) (hb : Below w.heap.size w w') : Ots w' A es := Sl.below (E := Lay.out) h hb
/-- What their texts hold. -/
def ebt (e : Evt) : Nat := e.2.2.2.length
def obt (o : Ot) : Nat := o.2.2.1.2.2.2.2.2.length + o.2.2.2.2.2.2.2.length
def sumB {α : Type} (f : α → Nat) (es : List α) : Nat := (es.map f).sum
theorem sumB_take {α : Type} (f : α → Nat) (es : List α) (k : Nat) (hk : k < es.length) : sumB f (es.take (k + 1)) = sumB f (es.take k) + f es[k] := by
  unfold sumB
  rw [List.take_succ_eq_append_getElem hk, List.map_append, List.sum_append]
  simp
theorem sumB_mem {α : Type} (f : α → Nat) (es : List α) (k : Nat) (hk : k < es.length) : f es[k] ≤ sumB f es := by
  unfold sumB
  have h : es = es.take k ++ es[k] :: es.drop (k + 1) := by rw [← List.drop_eq_getElem_cons hk, List.take_append_drop]
  have h2 : (es.map f).sum = ((es.take k).map f).sum + (f es[k] + ((es.drop (k + 1)).map f).sum) := by
    conv => lhs; rw [h]
    rw [List.map_append, List.sum_append, List.map_cons, List.sum_cons]
  omega

theorem Lay.rpL_rd {w : World} {cs : List Value} {x s p : Int} {l : List UInt8} (h : Lay.rpL.rd w cs (x, s, p, l)) : ∃ A c, cs = [.int .i64 x, .int .i64 s, .int .i64 p, .slice A l.length c] ∧ isI x ∧ isI s ∧ isI p ∧ l.length ≤ c ∧ c ≤ maxLen ∧ Bs w A l := by
  obtain ⟨c1, c2, rfl, ⟨rfl, hs⟩, c3, c4, rfl, ⟨rfl, ha⟩, c5, c6, rfl, ⟨rfl, hm⟩, B, d, rfl, h1, h2, hB⟩ := h
  exact ⟨B, d, rfl, hs, ha, hm, h1, h2, hB⟩
theorem Evs.at_ {w : World} {A0 : Option Addr} {es : List Evt} (h : Evs w A0 es) (k : Nat) (hk : k < es.length) :
    ∃ b off x s p A l c, A0 = some ⟨b, off, none⟩ ∧ b < w.heap.size ∧ es[k] = (x, s, p, l) ∧ w.cell? ⟨b, off + k * 4, none⟩ = some (.int .i64 x) ∧ w.cell? ⟨b, off + k * 4 + 1, none⟩ = some (.int .i64 s) ∧ w.cell? ⟨b, off + k * 4 + 2, none⟩ = some (.int .i64 p) ∧ w.cell? ⟨b, off + k * 4 + 3, none⟩ = some (.slice A l.length c) ∧ isI x ∧ isI s ∧ isI p ∧ l.length ≤ c ∧ c ≤ maxLen ∧ Bs w A l := by
  obtain ⟨b, off, us, hA, hlt, hus, hc, hr⟩ := h k hk
  obtain ⟨⟨x, s, p, l⟩, he⟩ : ∃ e, es[k] = e := ⟨_, rfl⟩
  rw [he] at hr
  obtain ⟨A, c, rfl, i0, i1, i2, hl0, hc0, hb0⟩ := Lay.rpL_rd hr
  refine ⟨b, off, x, s, p, A, l, c, hA, hlt, he, ?_, ?_, ?_, ?_, i0, i1, i2, hl0, hc0, hb0⟩
  · have := hc 0 (by simp); simpa using this
  · have := hc 1 (by simp); simpa [Nat.add_assoc] using this
  · have := hc 2 (by simp); simpa [Nat.add_assoc] using this
  · have := hc 3 (by simp); simpa [Nat.add_assoc] using this
theorem Lay.out_rd {w : World} {cs : List Value} {a u x s p q r f y i j : Int} {l m : List UInt8} (h : Lay.out.rd w cs (a, u, (x, s, p, q, r, l), f, (y, i, j, m))) : ∃ A c C d, cs = [.int .i64 a, .int .i64 u, .int .i64 x, .int .i64 s, .int .i64 p, .int .i64 q, .int .i64 r, .slice A l.length c, .int .i64 f, .int .i64 y, .int .i64 i, .int .i64 j, .slice C m.length d] ∧ isI a ∧ isI u ∧ isI x ∧ isI s ∧ isI p ∧ isI q ∧ isI r ∧ isI f ∧ isI y ∧ isI i ∧ isI j ∧ l.length ≤ c ∧ c ≤ maxLen ∧ Bs w A l ∧ m.length ≤ d ∧ d ≤ maxLen ∧ Bs w C m := by
  obtain ⟨_, _, rfl, ⟨rfl, i0⟩, _, _, rfl, ⟨rfl, i1⟩, _, _, rfl, ⟨_, _, rfl, ⟨rfl, i2⟩, _, _, rfl, ⟨rfl, i3⟩, _, _, rfl, ⟨rfl, i4⟩, _, _, rfl, ⟨rfl, i5⟩, _, _, rfl, ⟨rfl, i6⟩, A, c, rfl, h1, h2, hA⟩, _, _, rfl, ⟨rfl, i7⟩, _, _, rfl, ⟨rfl, i8⟩, _, _, rfl, ⟨rfl, i9⟩, _, _, rfl, ⟨rfl, i10⟩, C, d, rfl, h3, h4, hC⟩ := h
  exact ⟨A, c, C, d, rfl, i0, i1, i2, i3, i4, i5, i6, i7, i8, i9, i10, h1, h2, hA, h3, h4, hC⟩
theorem Ots.at_ {w : World} {A0 : Option Addr} {es : List Ot} (h : Ots w A0 es) (k : Nat) (hk : k < es.length) :
    ∃ b off a u x s p q r f y i j A l c C m d, A0 = some ⟨b, off, none⟩ ∧ b < w.heap.size ∧ es[k] = (a, u, (x, s, p, q, r, l), f, (y, i, j, m)) ∧ w.cell? ⟨b, off + k * 13, none⟩ = some (.int .i64 a) ∧ w.cell? ⟨b, off + k * 13 + 1, none⟩ = some (.int .i64 u) ∧ w.cell? ⟨b, off + k * 13 + 2, none⟩ = some (.int .i64 x) ∧ w.cell? ⟨b, off + k * 13 + 3, none⟩ = some (.int .i64 s) ∧ w.cell? ⟨b, off + k * 13 + 4, none⟩ = some (.int .i64 p) ∧ w.cell? ⟨b, off + k * 13 + 5, none⟩ = some (.int .i64 q) ∧ w.cell? ⟨b, off + k * 13 + 6, none⟩ = some (.int .i64 r) ∧ w.cell? ⟨b, off + k * 13 + 7, none⟩ = some (.slice A l.length c) ∧ w.cell? ⟨b, off + k * 13 + 8, none⟩ = some (.int .i64 f) ∧ w.cell? ⟨b, off + k * 13 + 9, none⟩ = some (.int .i64 y) ∧ w.cell? ⟨b, off + k * 13 + 10, none⟩ = some (.int .i64 i) ∧ w.cell? ⟨b, off + k * 13 + 11, none⟩ = some (.int .i64 j) ∧ w.cell? ⟨b, off + k * 13 + 12, none⟩ = some (.slice C m.length d) ∧ isI a ∧ isI u ∧ isI x ∧ isI s ∧ isI p ∧ isI q ∧ isI r ∧ isI f ∧ isI y ∧ isI i ∧ isI j ∧ l.length ≤ c ∧ c ≤ maxLen ∧ Bs w A l ∧ m.length ≤ d ∧ d ≤ maxLen ∧ Bs w C m := by
  obtain ⟨b, off, us, hA, hlt, hus, hc, hr⟩ := h k hk
  obtain ⟨⟨a, u, ⟨x, s, p, q, r, l⟩, f, ⟨y, i, j, m⟩⟩, he⟩ : ∃ e, es[k] = e := ⟨_, rfl⟩
  rw [he] at hr
  obtain ⟨A, c, C, d, rfl, i0, i1, i2, i3, i4, i5, i6, i7, i8, i9, i10, hl0, hc0, hb0, hl1, hc1, hb1⟩ := Lay.out_rd hr
  refine ⟨b, off, a, u, x, s, p, q, r, f, y, i, j, A, l, c, C, m, d, hA, hlt, he, ?_, ?_, ?_, ?_, ?_, ?_, ?_, ?_, ?_, ?_, ?_, ?_, ?_, i0, i1, i2, i3, i4, i5, i6, i7, i8, i9, i10, hl0, hc0, hb0, hl1, hc1, hb1⟩
  · have := hc 0 (by simp); simpa using this
  · have := hc 1 (by simp); simpa [Nat.add_assoc] using this
  · have := hc 2 (by simp); simpa [Nat.add_assoc] using this
  · have := hc 3 (by simp); simpa [Nat.add_assoc] using this
  · have := hc 4 (by simp); simpa [Nat.add_assoc] using this
  · have := hc 5 (by simp); simpa [Nat.add_assoc] using this
  · have := hc 6 (by simp); simpa [Nat.add_assoc] using this
  · have := hc 7 (by simp); simpa [Nat.add_assoc] using this
  · have := hc 8 (by simp); simpa [Nat.add_assoc] using this
  · have := hc 9 (by simp); simpa [Nat.add_assoc] using this
  · have := hc 10 (by simp); simpa [Nat.add_assoc] using this
  · have := hc 11 (by simp); simpa [Nat.add_assoc] using this
  · have := hc 12 (by simp); simpa [Nat.add_assoc] using this
theorem Tryd.infoEvent : (Tryd.prog.info? 83).map (fun i => (i.zero, i.size, i.bytes)) = some (some (.agg #[.int .i64 0, .int .i64 0, .int .i64 0, .slice none 0 0]), 4, 48) := by kernel_rfl
theorem Tryd.infoOut : (Tryd.prog.info? 85).map (fun i => (i.zero, i.size, i.bytes)) = some (some (.agg #[.int .i64 0, .int .i64 0, .int .i64 0, .int .i64 0, .int .i64 0, .int .i64 0, .int .i64 0, .slice none 0 0, .int .i64 0, .int .i64 0, .int .i64 0, .int .i64 0, .slice none 0 0]), 13, 136) := by kernel_rfl
/-- An event, an output of the call's own. -/
structure Own1 (w : World) (base : Nat) (A : Option Addr) (l : List UInt8) (c : Nat) : Prop where
  o : Own w base (.slice A l.length c) l
theorem Own1.nodup {w : World} {base : Nat} {A : Option Addr} {l : List UInt8} {c : Nat} (h : Own1 w base A l c) : (Value.slice A l.length c).ownBlock.toList.Nodup := h.o.fp.1
theorem Own1.lo {w : World} {base : Nat} {A : Option Addr} {l : List UInt8} {c : Nat} (h : Own1 w base A l c) : ∀ k ∈ (Value.slice A l.length c).ownBlock.toList, base ≤ k := h.o.fp.2
theorem own_event {w : World} {base : Nat} {x s p : Int} {A : Option Addr} {l : List UInt8} {c : Nat} (h0 : isI x) (h1 : isI s) (h2 : isI p) (h : Own1 w base A l c) :
    Lay.rpL.ow w [.int .i64 x, .int .i64 s, .int .i64 p, .slice A l.length c] (x, s, p, l) (Value.slice A l.length c).ownBlock.toList :=
  ⟨[.int .i64 x], [.int .i64 s, .int .i64 p, .slice A l.length c], [], _, rfl, ⟨rfl, h0, rfl⟩, ⟨[.int .i64 s], [.int .i64 p, .slice A l.length c], [], _, rfl, ⟨rfl, h1, rfl⟩, ⟨[.int .i64 p], [.slice A l.length c], [], _, rfl, ⟨rfl, h2, rfl⟩, h.o.ow, rfl⟩, rfl⟩, rfl⟩
structure Own2 (w : World) (base : Nat) (A : Option Addr) (l : List UInt8) (c : Nat) (C : Option Addr) (m : List UInt8) (d : Nat) : Prop where
  o : Own w base (.slice A l.length c) l
  p : Own w base (.slice C m.length d) m
  dis : ∀ k ∈ (Value.slice A l.length c).ownBlock.toList, k ∉ (Value.slice C m.length d).ownBlock.toList
theorem Own2.nodup {w : World} {base : Nat} {A : Option Addr} {l : List UInt8} {c : Nat} {C : Option Addr} {m : List UInt8} {d : Nat} (h : Own2 w base A l c C m d) : ((Value.slice A l.length c).ownBlock.toList ++ (Value.slice C m.length d).ownBlock.toList).Nodup := by
  rw [List.nodup_append]
  exact ⟨h.o.fp.1, h.p.fp.1, fun a ha b hb e => h.dis a ha (by rw [e]; exact hb)⟩
theorem Own2.lo {w : World} {base : Nat} {A : Option Addr} {l : List UInt8} {c : Nat} {C : Option Addr} {m : List UInt8} {d : Nat} (h : Own2 w base A l c C m d) : ∀ k ∈ (Value.slice A l.length c).ownBlock.toList ++ (Value.slice C m.length d).ownBlock.toList, base ≤ k := by
  intro k hk
  rcases List.mem_append.1 hk with h1 | h1
  · exact h.o.fp.2 k h1
  · exact h.p.fp.2 k h1
theorem own_rqL {w : World} {base : Nat} {x s p q r : Int} {A : Option Addr} {l : List UInt8} {c : Nat} (h0 : isI x) (h1 : isI s) (h2 : isI p) (h3 : isI q) (h4 : isI r) (h : Own w base (.slice A l.length c) l) :
    Lay.rqL.ow w [.int .i64 x, .int .i64 s, .int .i64 p, .int .i64 q, .int .i64 r, .slice A l.length c] (x, s, p, q, r, l) (Value.slice A l.length c).ownBlock.toList :=
  ⟨[.int .i64 x], [.int .i64 s, .int .i64 p, .int .i64 q, .int .i64 r, .slice A l.length c], [], _, rfl, ⟨rfl, h0, rfl⟩, ⟨[.int .i64 s], [.int .i64 p, .int .i64 q, .int .i64 r, .slice A l.length c], [], _, rfl, ⟨rfl, h1, rfl⟩, ⟨[.int .i64 p], [.int .i64 q, .int .i64 r, .slice A l.length c], [], _, rfl, ⟨rfl, h2, rfl⟩, ⟨[.int .i64 q], [.int .i64 r, .slice A l.length c], [], _, rfl, ⟨rfl, h3, rfl⟩, ⟨[.int .i64 r], [.slice A l.length c], [], _, rfl, ⟨rfl, h4, rfl⟩, h.ow, rfl⟩, rfl⟩, rfl⟩, rfl⟩, rfl⟩
theorem own_out {w : World} {base : Nat} {a u x s p q r f y i j : Int} {A : Option Addr} {l : List UInt8} {c : Nat} {C : Option Addr} {m : List UInt8} {d : Nat} (h0 : isI a) (h1 : isI u) (h2 : isI x) (h3 : isI s) (h4 : isI p) (h5 : isI q) (h6 : isI r) (h7 : isI f) (h8 : isI y) (h9 : isI i) (h10 : isI j) (h : Own2 w base A l c C m d) :
    Lay.out.ow w [.int .i64 a, .int .i64 u, .int .i64 x, .int .i64 s, .int .i64 p, .int .i64 q, .int .i64 r, .slice A l.length c, .int .i64 f, .int .i64 y, .int .i64 i, .int .i64 j, .slice C m.length d] (a, u, (x, s, p, q, r, l), f, (y, i, j, m)) ((Value.slice A l.length c).ownBlock.toList ++ (Value.slice C m.length d).ownBlock.toList) :=
  ⟨[.int .i64 a], [.int .i64 u, .int .i64 x, .int .i64 s, .int .i64 p, .int .i64 q, .int .i64 r, .slice A l.length c, .int .i64 f, .int .i64 y, .int .i64 i, .int .i64 j, .slice C m.length d], [], _, rfl, ⟨rfl, h0, rfl⟩, ⟨[.int .i64 u], [.int .i64 x, .int .i64 s, .int .i64 p, .int .i64 q, .int .i64 r, .slice A l.length c, .int .i64 f, .int .i64 y, .int .i64 i, .int .i64 j, .slice C m.length d], [], _, rfl, ⟨rfl, h1, rfl⟩, ⟨[.int .i64 x, .int .i64 s, .int .i64 p, .int .i64 q, .int .i64 r, .slice A l.length c], [.int .i64 f, .int .i64 y, .int .i64 i, .int .i64 j, .slice C m.length d], _, _, rfl, own_rqL h2 h3 h4 h5 h6 h.o, ⟨[.int .i64 f], [.int .i64 y, .int .i64 i, .int .i64 j, .slice C m.length d], [], _, rfl, ⟨rfl, h7, rfl⟩, own_event h8 h9 h10 ⟨h.p⟩, rfl⟩, rfl⟩, rfl⟩, rfl⟩

theorem szEvent_e (x s p : Int) (A : Option Addr) (l : List UInt8) (c : Nat) (left : Int) (w : World) (hn : l.length ≤ 9223372036854775807) (h0 : 0 ≤ left) (h1 : left ≤ 1048576) :
    Calls Tryd.prog 48 #[.agg #[.int .i64 x, .int .i64 s, .int .i64 p, .slice A l.length c], .int .i64 left] w fun e w' => (∃ r : Int, e = .returned (.int .i64 r) ∧ (r < 0 ∨ (0 ≤ r ∧ r + ebt (x, s, p, l) ≤ left))) ∧ Below w.heap.size w w' := by
  refine (szEvent_any x s p A l.length c left w hn h0 h1).mono ?_
  rintro e w1 ⟨⟨r, rfl, hr⟩, hb⟩
  exact ⟨⟨r, rfl, by unfold ebt; simp only; omega⟩, hb⟩
theorem toEvent_e (x s p : Int) (A : Option Addr) (l : List UInt8) (c : Nat) (w : World) (hl : l.length ≤ 1048576) (h : Bs w A l) :
    Calls Tryd.prog 52 #[.agg #[.int .i64 x, .int .i64 s, .int .i64 p, .slice A l.length c]] w fun e w' => ∃ A' c', e = .returned (.agg #[.int .i64 x, .int .i64 s, .int .i64 p, .slice A' l.length c']) ∧ Own1 w' w.heap.size A' l c' ∧ Below w.heap.size w w' := by
  refine (toEvent_any x s p A l c w hl h).mono ?_
  rintro e w1 ⟨v, rfl, hown, hb⟩
  obtain ⟨A3, c3, e3, _, _, _⟩ := hown.form
  subst e3
  exact ⟨A3, c3, rfl, ⟨hown⟩, hb⟩
theorem eqEvent_e (x s p : Int) (A B : Option Addr) (l : List UInt8) (c d : Nat) (w : World) (hl : l.length ≤ 9223372036854775807) (hA : Bs w A l) (hB : Bs w B l) :
    Calls Tryd.prog 58 #[.agg #[.int .i64 x, .int .i64 s, .int .i64 p, .slice A l.length c], .agg #[.int .i64 x, .int .i64 s, .int .i64 p, .slice B l.length d]] w fun e w' => e = .returned (.bool true) ∧ Below w.heap.size w w' :=
  eqEvent_same x s p A B l c d w hl hA hB


set_option maxHeartbeats 1000000 in
theorem szEventS_any (A0 : Option Addr) (es : List Evt) (c0 : Nat) (left : Int) (w : World) (hn : es.length ≤ 9223372036854775807) (h0 : 0 ≤ left) (h1 : left ≤ 1048576) (hE : Evs w A0 es) :
    Calls Tryd.prog 13 #[.slice A0 es.length c0, .int .i64 left] w fun e w' => (∃ r : Int, e = .returned (.int .i64 r) ∧ (r < 0 ∨ (0 ≤ r ∧ r + es.length + sumB ebt es ≤ left))) ∧ Below w.heap.size w w' := by
  by_cases h : left - (es.length : Int) < 0
  · go_enter Tryd.func13, Tryd.ntmps13
    go_wp2
    go_ret
    exact ⟨⟨_, rfl, .inl (by omega)⟩, Below.refl _ _⟩
  · go_enter Tryd.func13, Tryd.ntmps13
    go_wp2
    go_loopw [1, 5] (fun lf i wr => ∃ k : Nat, ∃ r : Int, k ≤ es.length ∧ i = .int .i64 k ∧ lf = .int .i64 r ∧ 0 ≤ r ∧ r ≤ 1048576 ∧ es.length + sumB ebt (es.take k) + r ≤ left ∧ Below w.heap.size w wr) (fun _ i _ => es.length - (intOf i).toNat)
    case atStart => exact ⟨0, left - es.length, Nat.zero_le _, rfl, rfl, by omega, by omega, by simp [sumB]; omega, Below.refl _ _⟩
    case round =>
      obtain ⟨k, r0, hk, rfl, rfl, hr0, hr1, hr2, hb⟩ := hrel
      by_cases hlt : k < es.length
      · obtain ⟨b, off, x, s, p, A, l, c, rfl, hbl, hek, k0, k1, k2, k3, i0, i1, i2, hl0, hc0, hb0⟩ := (hE.below hb).at_ k hlt
        have htk := sumB_take ebt es k hlt
        rw [hek] at htk
        have HT := Lib.hid htk
        have h90 : l.length ≤ 9223372036854775807 := by unfold maxLen at hc0; omega
        clear htk hek i0 i1 i2
        go_wp2_with fail
        refine (szEvent_e x s p A l c r0 _ h90 hr0 hr1).mono ?_
        rintro e w1 ⟨⟨q', rfl, hq⟩, hb1⟩
        have hb2 := below_then hb hb1
        clear k0 k1 k2 k3
        by_cases hneg : q' < 0
        · go_wp2
          go_ret
          exact ⟨⟨_, rfl, .inl (by omega)⟩, hb2⟩
        · go_wp2
          go_roundw
          case rel => exact ⟨k + 1, q', by omega, by go_num, rfl, by omega, by omega, by rw [HT.out]; omega, hb2⟩
          case measure => simp [intOf]; omega
      · have e : k = es.length := by omega
        subst e
        rw [List.take_length] at hr2
        go_wp2
        go_ret
        exact ⟨⟨_, rfl, .inr ⟨hr0, by omega⟩⟩, hb⟩


set_option maxHeartbeats 8000000 in
theorem toEventS_any (A0 : Option Addr) (es : List Evt) (c0 : Nat) (w : World) (hn : es.length + sumB ebt es ≤ 1048576) (hE : Evs w A0 es) :
    Calls Tryd.prog 16 #[.slice A0 es.length c0] w (Gives Lay.evts wSlice es w) := by
  have hmk : ∀ W, (Instr.makeSlice 40 (.int .i64 (es.length : Int)) (.int .i64 (es.length : Int))).run Tryd.prog W = .ok (.slice (some ⟨W.heap.size, 0, none⟩) es.length es.length) (W.alloc (.cells (madeCells #[.int .i64 0, .int .i64 0, .int .i64 0, .slice none 0 0] (es.length * 4)) 83)) := fun W =>
    run_mk (P := Tryd.prog) 40 83 (.agg #[.int .i64 0, .int .i64 0, .int .i64 0, .slice none 0 0]) 4 48 Tryd.underlying40 Tryd.infoEvent es.length (by omega) (by omega) W
  go_enter Tryd.func16, Tryd.ntmps16
  go_wp2
  go_loopw [4] (fun i wr => ∃ L : List (El Evt), L.length ≤ es.length ∧ i = .int .i64 L.length ∧ es.take L.length = L.map (·.2.1) ∧
      Filling 83 Lay.rpL (fun j => (#[.int .i64 0, .int .i64 0, .int .i64 0, .slice none 0 0] : Array Value)[j % 4]!) es.length wr w.heap.size L ∧ Below w.heap.size w wr)
    (fun i _ => es.length - (intOf i).toNat)
  case atStart => exact ⟨[], Nat.zero_le _, rfl, by simp, Filling.made #[.int .i64 0, .int .i64 0, .int .i64 0, .slice none 0 0] _ _, (Below.refl _ _).alloc (Nat.le_refl _) _⟩
  case round =>
    obtain ⟨L, hk, rfl, htk, hfill, hbel⟩ := hrel
    have HTK := Lib.hid htk
    clear htk
    by_cases hlt : L.length < es.length
    · obtain ⟨b, off, x, s, p, A, l, c, rfl, hbl, hek, k0, k1, k2, k3, i0, i1, i2, hl0, hc0, hb0⟩ := (hE.below hbel).at_ L.length hlt
      have htot := sumB_mem ebt es L.length hlt
      rw [hek] at htot
      have hnext : es.take (L.length + 1) = L.map (·.2.1) ++ [(x, s, p, l)] := by rw [List.take_succ_eq_append_getElem hlt, HTK.out, hek]
      have HN := Lib.hid hnext
      have h40 : l.length ≤ 1048576 := by have h9 : l.length ≤ sumB ebt es := htot; omega
      have I0 := Lib.hid i0
      have I1 := Lib.hid i1
      have I2 := Lib.hid i2
      have HB0 := Lib.hid hb0
      clear hnext hek htot i0 i1 i2 hb0
      obtain ⟨k, hkk⟩ : ∃ k, L.length = k := ⟨_, rfl⟩
      have hlt' := hlt
      rw [hkk] at k0 k1 k2 k3 hlt' hk
      have HK := Lib.hid hkk
      rw [hkk]
      clear hkk
      have hw : w.heap.size < wr.heap.size := hfill.row.lt
      have hki : (k : Int) < (es.length : Int) := by omega
      go_wp2_with fail
      refine (toEvent_e x s p A l c _ h40 (by exact HB0.out)).mono ?_
      rintro e w1 ⟨A', c', rfl, hown, hb1⟩
      have hrow1 := hfill.row.of_block (hb1.block _ hfill.row.lt)
      obtain ⟨u0', hu0⟩ : ∃ u, w1.cell? ⟨w.heap.size, k * 4, none⟩ = some u := ⟨_, hrow1.cell (by show k * 4 < es.length * 4; omega)⟩
      have hfz0 := hrow1.frozen (k * 4)
      obtain ⟨u1', hu1⟩ : ∃ u, w1.cell? ⟨w.heap.size, k * 4 + 1, none⟩ = some u := ⟨_, hrow1.cell (by show k * 4 + 1 < es.length * 4; omega)⟩
      have hfz1 := hrow1.frozen (k * 4 + 1)
      obtain ⟨u2', hu2⟩ : ∃ u, w1.cell? ⟨w.heap.size, k * 4 + 2, none⟩ = some u := ⟨_, hrow1.cell (by show k * 4 + 2 < es.length * 4; omega)⟩
      have hfz2 := hrow1.frozen (k * 4 + 2)
      obtain ⟨u3', hu3⟩ : ∃ u, w1.cell? ⟨w.heap.size, k * 4 + 3, none⟩ = some u := ⟨_, hrow1.cell (by show k * 4 + 3 < es.length * 4; omega)⟩
      have hfz3 := hrow1.frozen (k * 4 + 3)
      have hs1 := hb1.size
      have hr2 := ((((hrow1.set (k * 4) (.int .i64 x)).set (k * 4 + 1) (.int .i64 s)).set (k * 4 + 2) (.int .i64 p)).set (k * 4 + 3) (.slice A' l.length c'))
      have hf2 := hfill.snoc hb1 (own_event I0.out I1.out I2.out hown) hown.nodup hown.lo (hr2.congr (by
        intro j hj
        have hs : Lay.rpL.sz = 4 := rfl
        rw [hs, HK.out]
        by_cases c3' : j = k * 4 + 3
        · subst c3'; simp
        · skip
          by_cases c2' : j = k * 4 + 2
          · subst c2'; simp
          · skip
            by_cases c1' : j = k * 4 + 1
            · subst c1'; simp
            · skip
              by_cases c0' : j = k * 4
              · subst c0'; simp
              · skip
                rw [if_neg c3', if_neg c2', if_neg c1', if_neg c0', if_neg (by omega)])) (fun q hq => by rw [Below.heap_setCell _ _ _ _ hq, Below.heap_setCell _ _ _ _ hq, Below.heap_setCell _ _ _ _ hq, Below.heap_setCell _ _ _ _ hq]) (by simp)
      have HF2 := Lib.hid hf2
      clear hrow1 hf2 hr2 hfill hown k0 k1 k2 k3
      go_wp2
      go_roundw
      case rel =>
        refine ⟨_, ?_, ?_, ?_, by have h9 := HF2.out; exact h9, (((((below_then hbel hb1).setCell (p := ⟨w.heap.size, k * 4, none⟩) (Nat.le_refl _) _).setCell (p := ⟨w.heap.size, k * 4 + 1, none⟩) (Nat.le_refl _) _).setCell (p := ⟨w.heap.size, k * 4 + 2, none⟩) (Nat.le_refl _) _).setCell (p := ⟨w.heap.size, k * 4 + 3, none⟩) (Nat.le_refl _) _)⟩
        · rw [List.length_append]; simp; omega
        · rw [List.length_append, ← HK.out]; simp
        · rw [List.length_append, List.length_singleton, HN.out, List.map_append]; rfl
      case measure => simp [intOf]; have := HK.out; omega
    · have e : L.length = es.length := by omega
      obtain ⟨h1, h2, h3⟩ := hfill.done e (by unfold maxLen; omega)
      have e2 : L.map (·.2.1) = es := by rw [← HTK.out, e, List.take_length]
      rw [e2] at h1
      have H1 := Lib.hid h1
      have HE := Lib.hid e
      clear h1 e e2 hfill
      go_wp2
      go_ret
      exact ⟨_, _, rfl, H1.out, h2, h3, hbel⟩


set_option maxHeartbeats 8000000 in
theorem eqEventS_same (A0 B0 : Option Addr) (es : List Evt) (c0 d0 : Nat) (w : World) (hl : es.length ≤ 9223372036854775807) (hA : Evs w A0 es) (hB : Evs w B0 es) :
    Calls Tryd.prog 19 #[.slice A0 es.length c0, .slice B0 es.length d0] w fun e w' => e = .returned (.bool true) ∧ Below w.heap.size w w' := by
  have hne : ((es.length : Int) != (es.length : Int)) = false := by simp
  go_enter Tryd.func19, Tryd.ntmps19
  go_wp2
  go_loopw [5] (fun i wr => ∃ k : Nat, k ≤ es.length ∧ i = .int .i64 k ∧ Below w.heap.size w wr)
    (fun i _ => es.length - (intOf i).toNat)
  case atStart => exact ⟨0, Nat.zero_le _, rfl, Below.refl _ _⟩
  case round =>
    obtain ⟨k, hk, rfl, hb⟩ := hrel
    by_cases hlt : k < es.length
    · obtain ⟨b1, off1, x, s, p, A, l, c, rfl, hbl1, hek1, k0, k1, k2, k3, i0, i1, i2, hl0, hc0, hb0⟩ := (hA.below hb).at_ k hlt
      obtain ⟨b2, off2, x', s', p', A', l', c', rfl, hbl2, hek2, s0, s1, s2, s3, _, _, _, gl0, gc0, gb0⟩ := (hB.below hb).at_ k hlt
      rw [hek1] at hek2
      simp only [Prod.mk.injEq] at hek2
      obtain ⟨rfl, rfl, rfl, rfl⟩ := hek2
      have hi0 : (0 : Int) ≤ (k : Int) := by omega
      have hi1 : (k : Int) < (es.length : Int) := by omega
      have h90 : l.length ≤ 9223372036854775807 := by unfold maxLen at hc0; omega
      have HX0 := Lib.hid hb0
      have HY0 := Lib.hid gb0
      clear hek1 hb0 gb0 i0 i1 i2
      go_wp2_with fail
      refine wp_region_held_drew (S := (fun V => V.cell? ⟨b1, off1 + k * 4, none⟩ = some (.int .i64 x) ∧ V.cell? ⟨b1, off1 + k * 4 + 1, none⟩ = some (.int .i64 s) ∧ V.cell? ⟨b1, off1 + k * 4 + 2, none⟩ = some (.int .i64 p) ∧ V.cell? ⟨b1, off1 + k * 4 + 3, none⟩ = some (.slice A l.length c) ∧ V.cell? ⟨b2, off2 + k * 4, none⟩ = some (.int .i64 x) ∧ V.cell? ⟨b2, off2 + k * 4 + 1, none⟩ = some (.int .i64 s) ∧ V.cell? ⟨b2, off2 + k * 4 + 2, none⟩ = some (.int .i64 p) ∧ V.cell? ⟨b2, off2 + k * 4 + 3, none⟩ = some (.slice A' l.length c'))) (by kernel_rfl) (by exact ⟨k0, k1, k2, k3, s0, s1, s2, s3⟩) (fun hHeld => ?_)
      refine wpAnyH_take (i := 0) (oi := ?_) (v := ?_) ?_ ?_ ?_ ?_ ?_ ?_ (by exact hHeld) ?_
      rotate_left 2
      · (simp only [List.getElem?_toArray, List.getElem?_cons_zero]; try rfl)
      · kernel_rfl
      · kernel_rfl
      · kernel_rfl
      · exact fun _ _ _ h => h
      · refine Or.inl ⟨by rfl, ?_⟩
        (intro V hSV; (try dsimp only at hSV); obtain ⟨q0, q1, q2, q3, q4, q5, q6, q7⟩ := hSV; go_simp; try with_reducible rfl)
      (try simp only [Act.put, List.setIfInBounds_toArray, List.set_cons_zero, List.set_cons_succ])
      refine wpAnyH_take (i := 1) (oi := ?_) (v := ?_) ?_ ?_ ?_ ?_ ?_ ?_ (by exact hHeld) ?_
      rotate_left 2
      · (simp only [List.getElem?_toArray, List.getElem?_cons_zero, List.getElem?_cons_succ]; try rfl)
      · kernel_rfl
      · kernel_rfl
      · kernel_rfl
      · exact fun _ _ _ h => h
      · refine Or.inl ⟨by rfl, ?_⟩
        (intro V hSV; (try dsimp only at hSV); obtain ⟨q0, q1, q2, q3, q4, q5, q6, q7⟩ := hSV; go_simp; try with_reducible rfl)
      (try simp only [Act.put, List.setIfInBounds_toArray, List.set_cons_zero, List.set_cons_succ])
      refine wpAnyH_take (i := 2) (oi := ?_) (v := ?_) ?_ ?_ ?_ ?_ ?_ ?_ (by exact hHeld) ?_
      rotate_left 2
      · (simp only [List.getElem?_toArray, List.getElem?_cons_zero, List.getElem?_cons_succ]; try rfl)
      · kernel_rfl
      · kernel_rfl
      · kernel_rfl
      · exact fun _ _ _ h => h
      · refine Or.inl ⟨by rfl, ?_⟩
        (intro V hSV; (try dsimp only at hSV); obtain ⟨q0, q1, q2, q3, q4, q5, q6, q7⟩ := hSV; go_simp; try with_reducible rfl)
      (try simp only [Act.put, List.setIfInBounds_toArray, List.set_cons_zero, List.set_cons_succ])
      refine wpAnyH_take (i := 3) (oi := ?_) (v := ?_) ?_ ?_ ?_ ?_ ?_ ?_ (by exact hHeld) ?_
      rotate_left 2
      · (simp only [List.getElem?_toArray, List.getElem?_cons_zero, List.getElem?_cons_succ]; try rfl)
      · kernel_rfl
      · kernel_rfl
      · kernel_rfl
      · exact fun _ _ _ h => h
      · refine Or.inl ⟨by rfl, ?_⟩
        (intro V hSV; (try dsimp only at hSV); obtain ⟨q0, q1, q2, q3, q4, q5, q6, q7⟩ := hSV; go_simp; try with_reducible rfl)
      (try simp only [Act.put, List.setIfInBounds_toArray, List.set_cons_zero, List.set_cons_succ])
      refine wpAnyH_take (i := 4) (oi := ?_) (v := ?_) ?_ ?_ ?_ ?_ ?_ ?_ (by exact hHeld) ?_
      rotate_left 2
      · (simp only [List.getElem?_toArray, List.getElem?_cons_zero, List.getElem?_cons_succ]; try rfl)
      · kernel_rfl
      · kernel_rfl
      · kernel_rfl
      · exact fun _ _ _ h => h
      · refine Or.inl ⟨by rfl, ?_⟩
        (intro V hSV; (try dsimp only at hSV); obtain ⟨q0, q1, q2, q3, q4, q5, q6, q7⟩ := hSV; go_simp; try with_reducible rfl)
      (try simp only [Act.put, List.setIfInBounds_toArray, List.set_cons_zero, List.set_cons_succ])
      refine wpAnyH_take (i := 5) (oi := ?_) (v := ?_) ?_ ?_ ?_ ?_ ?_ ?_ (by exact hHeld) ?_
      rotate_left 2
      · (simp only [List.getElem?_toArray, List.getElem?_cons_zero, List.getElem?_cons_succ]; try rfl)
      · kernel_rfl
      · kernel_rfl
      · kernel_rfl
      · exact fun _ _ _ h => h
      · refine Or.inl ⟨by rfl, ?_⟩
        (intro V hSV; (try dsimp only at hSV); obtain ⟨q0, q1, q2, q3, q4, q5, q6, q7⟩ := hSV; go_simp; try with_reducible rfl)
      (try simp only [Act.put, List.setIfInBounds_toArray, List.set_cons_zero, List.set_cons_succ])
      refine wpAnyH_take (i := 6) (oi := ?_) (v := ?_) ?_ ?_ ?_ ?_ ?_ ?_ (by exact hHeld) ?_
      rotate_left 2
      · (simp only [List.getElem?_toArray, List.getElem?_cons_zero, List.getElem?_cons_succ]; try rfl)
      · kernel_rfl
      · kernel_rfl
      · kernel_rfl
      · exact fun _ _ _ h => h
      · refine Or.inl ⟨by rfl, ?_⟩
        (intro V hSV; (try dsimp only at hSV); obtain ⟨q0, q1, q2, q3, q4, q5, q6, q7⟩ := hSV; go_simp; try with_reducible rfl)
      (try simp only [Act.put, List.setIfInBounds_toArray, List.set_cons_zero, List.set_cons_succ])
      refine wpAnyH_take (i := 7) (oi := ?_) (v := ?_) ?_ ?_ ?_ ?_ ?_ ?_ (by exact hHeld) ?_
      rotate_left 2
      · (simp only [List.getElem?_toArray, List.getElem?_cons_zero, List.getElem?_cons_succ]; try rfl)
      · kernel_rfl
      · kernel_rfl
      · kernel_rfl
      · exact fun _ _ _ h => h
      · refine Or.inl ⟨by rfl, ?_⟩
        (intro V hSV; (try dsimp only at hSV); obtain ⟨q0, q1, q2, q3, q4, q5, q6, q7⟩ := hSV; go_simp; try with_reducible rfl)
      (try simp only [Act.put, List.setIfInBounds_toArray, List.set_cons_zero, List.set_cons_succ])
      refine wpAnyH_ready (rs := [8]) (by kernel_rfl) (by simp) ?_
      refine AllReadyH.cons rfl (fun K hK => ?_) AllReadyH.nil
      go_simp
      refine (eqEvent_e x s p A A' l c c' _ h90 (by have h9 := HX0.out; exact h9) (by have h9 := HY0.out; exact h9)).mono ?_
      rintro e w1 ⟨rfl, hb1⟩
      have hb1 : Below wr.heap.size wr w1 := ⟨hb1.os, hb1.tape, hb1.output, hb1.size, hb1.block⟩
      go_wp2_with fail
      refine hK.out _ _ (by exact ⟨((hb1).cell (p := ⟨b1, off1 + k * 4, none⟩) hbl1).trans k0, ((hb1).cell (p := ⟨b1, off1 + k * 4 + 1, none⟩) hbl1).trans k1, ((hb1).cell (p := ⟨b1, off1 + k * 4 + 2, none⟩) hbl1).trans k2, ((hb1).cell (p := ⟨b1, off1 + k * 4 + 3, none⟩) hbl1).trans k3, ((hb1).cell (p := ⟨b2, off2 + k * 4, none⟩) hbl2).trans s0, ((hb1).cell (p := ⟨b2, off2 + k * 4 + 1, none⟩) hbl2).trans s1, ((hb1).cell (p := ⟨b2, off2 + k * 4 + 2, none⟩) hbl2).trans s2, ((hb1).cell (p := ⟨b2, off2 + k * 4 + 3, none⟩) hbl2).trans s3⟩) (fun hHeld => ?_)
      clear hK K
      (try simp only [Act.put, List.setIfInBounds_toArray, List.set_cons_zero, List.set_cons_succ])
      refine wpAnyH_take (i := 9) (oi := ?_) (v := ?_) ?_ ?_ ?_ ?_ ?_ ?_ (by exact hHeld) ?_
      rotate_left 2
      · (simp only [List.getElem?_toArray, List.getElem?_cons_zero, List.getElem?_cons_succ]; try rfl)
      · kernel_rfl
      · kernel_rfl
      · kernel_rfl
      · exact fun _ _ _ h => h
      · refine Or.inl ⟨by rfl, ?_⟩
        (intro V hSV; (try dsimp only at hSV); obtain ⟨q0, q1, q2, q3, q4, q5, q6, q7⟩ := hSV; go_simp; try with_reducible rfl)
      (try simp only [Act.put, List.setIfInBounds_toArray, List.set_cons_zero, List.set_cons_succ])
      refine wpAnyH_done (by kernel_rfl) ?_ _
      have hb9 := below_then hb hb1
      go_wp2
      go_roundw
      case rel => exact ⟨k + 1, by omega, by go_num, hb9⟩
      case measure => simp [intOf]; omega
    · go_wp2
      go_ret
      exact ⟨rfl, hb⟩

end Go.Proofs.YtgpjjolgpppeeaaDoor

