/-
  Chapter 12, the laws' helpers on lists of events and of outputs: layouts and contracts (sizes, copies, equality). Own work.
-/
import Derived.Test.YtgpjjolgpppeeaaKst
import Derived.Test.YtgpjjolgpppeeaaC09
import Derived.Test.YtgpjjolgpppeeaaC13
import Derived.Test.YtgpjjolgpppeeaaC21
import Derived.Deep.RegionWith
import Derived.Deep.RegionHeld3
namespace Go.Proofs.Ytgpjjolgpppeeaa
open Go.RowKit P
set_option linter.unusedVariables false
set_option linter.unusedSimpArgs false
set_option maxRecDepth 100000

/-- A request, a reply, an event, an output. -/
abbrev Rq := Int × Int × Int × Int × Int × List UInt8
abbrev Rp := Int × Int × Int × List UInt8
abbrev Evt := Int × Int × Int × List UInt8
abbrev Ot := Int × Int × Rq × Int × Rp
def Lay.rqL : Lay Rq := Lay.pair Lay.int (Lay.pair Lay.int (Lay.pair Lay.int (Lay.pair Lay.int (Lay.pair Lay.int Lay.bytes))))
def Lay.rpL : Lay Rp := Lay.pair Lay.int (Lay.pair Lay.int (Lay.pair Lay.int Lay.bytes))
def Lay.out : Lay Ot := Lay.pair Lay.int (Lay.pair Lay.int (Lay.pair Lay.rqL (Lay.pair Lay.int Lay.rpL)))
def Lay.rps : Lay (List Rp) := Lay.slice 83 Lay.rpL
def Lay.outs : Lay (List Ot) := Lay.slice 85 Lay.out
/-- Lists of events (and of replies), of outputs, in memory. -/
def Evs (w : World) (A : Option Addr) (es : List Evt) : Prop := Sl 4 Lay.rpL.rd w A es
def Ots (w : World) (A : Option Addr) (es : List Ot) : Prop := Sl 13 Lay.out.rd w A es
theorem Evs.below {w w' : World} {A : Option Addr} {es : List Evt} (h : Evs w A es) (hb : Below w.heap.size w w') : Evs w' A es := Sl.below (E := Lay.rpL) h hb
theorem Ots.below {w w' : World} {A : Option Addr} {es : List Ot} (h : Ots w A es) (hb : Below w.heap.size w w') : Ots w' A es := Sl.below (E := Lay.out) h hb
/-- What their texts hold. -/
def ebt (e : Evt) : Nat := e.2.2.2.length
def obt (o : Ot) : Nat := o.2.2.1.2.2.2.2.2.length + o.2.2.2.2.2.2.2.length
def sumB {α : Type} (f : α → Nat) (es : List α) : Nat := (es.map f).sum
theorem sumB_take {α : Type} (f : α → Nat) (es : List α) (k : Nat) (hk : k < es.length) : sumB f (es.take (k + 1)) = sumB f (es.take k) + f es[k] := by
  unfold sumB
  rw [List.take_succ_eq_append_getElem hk, List.map_append, List.sum_append]
  simp
theorem sumB_mem {α : Type} (f : α → Nat) (es : List α) (k : Nat) (hk : k < es.length) : f es[k] ≤ sumB f es := by
  unfold sumB
  have h : es = es.take k ++ es[k] :: es.drop (k + 1) := by rw [← List.drop_eq_getElem_cons hk, List.take_append_drop]
  have h2 : (es.map f).sum = ((es.take k).map f).sum + (f es[k] + ((es.drop (k + 1)).map f).sum) := by
    conv => lhs; rw [h]
    rw [List.map_append, List.sum_append, List.map_cons, List.sum_cons]
  omega

theorem Lay.rpL_rd {w : World} {cs : List Value} {x s p : Int} {l : List UInt8} (h : Lay.rpL.rd w cs (x, s, p, l)) : ∃ A c, cs = [.int .i64 x, .int .i64 s, .int .i64 p, .slice A l.length c] ∧ isI x ∧ isI s ∧ isI p ∧ l.length ≤ c ∧ c ≤ maxLen ∧ Bs w A l := by
  obtain ⟨c1, c2, rfl, ⟨rfl, hs⟩, c3, c4, rfl, ⟨rfl, ha⟩, c5, c6, rfl, ⟨rfl, hm⟩, B, d, rfl, h1, h2, hB⟩ := h
  exact ⟨B, d, rfl, hs, ha, hm, h1, h2, hB⟩
theorem Evs.at_ {w : World} {A0 : Option Addr} {es : List Evt} (h : Evs w A0 es) (k : Nat) (hk : k < es.length) :
    ∃ b off x s p A l c, A0 = some ⟨b, off, none⟩ ∧ b < w.heap.size ∧ es[k] = (x, s, p, l) ∧ w.cell? ⟨b, off + k * 4, none⟩ = some (.int .i64 x) ∧ w.cell? ⟨b, off + k * 4 + 1, none⟩ = some (.int .i64 s) ∧ w.cell? ⟨b, off + k * 4 + 2, none⟩ = some (.int .i64 p) ∧ w.cell? ⟨b, off + k * 4 + 3, none⟩ = some (.slice A l.length c) ∧ isI x ∧ isI s ∧ isI p ∧ l.length ≤ c ∧ c ≤ maxLen ∧ Bs w A l := by
  obtain ⟨b, off, us, hA, hlt, hus, hc, hr⟩ := h k hk
  obtain ⟨⟨x, s, p, l⟩, he⟩ : ∃ e, es[k] = e := ⟨_, rfl⟩
  rw [he] at hr
  obtain ⟨A, c, rfl, i0, i1, i2, hl0, hc0, hb0⟩ := Lay.rpL_rd hr
  refine ⟨b, off, x, s, p, A, l, c, hA, hlt, he, ?_, ?_, ?_, ?_, i0, i1, i2, hl0, hc0, hb0⟩
  · have := hc 0 (by simp); simpa using this
  · have := hc 1 (by simp); simpa [Nat.add_assoc] using this
  · have := hc 2 (by simp); simpa [Nat.add_assoc] using this
  · have := hc 3 (by simp); simpa [Nat.add_assoc] using this
theorem Lay.out_rd {w : World} {cs : List Value} {a u x s p q r f y i j : Int} {l m : List UInt8} (h : Lay.out.rd w cs (a, u, (x, s, p, q, r, l), f, (y, i, j, m))) : ∃ A c C d, cs = [.int .i64 a, .int .i64 u, .int .i64 x, .int .i64 s, .int .i64 p, .int .i64 q, .int .i64 r, .slice A l.length c, .int .i64 f, .int .i64 y, .int .i64 i, .int .i64 j, .slice C m.length d] ∧ isI a ∧ isI u ∧ isI x ∧ isI s ∧ isI p ∧ isI q ∧ isI r ∧ isI f ∧ isI y ∧ isI i ∧ isI j ∧ l.length ≤ c ∧ c ≤ maxLen ∧ Bs w A l ∧ m.length ≤ d ∧ d ≤ maxLen ∧ Bs w C m := by
  obtain ⟨_, _, rfl, ⟨rfl, i0⟩, _, _, rfl, ⟨rfl, i1⟩, _, _, rfl, ⟨_, _, rfl, ⟨rfl, i2⟩, _, _, rfl, ⟨rfl, i3⟩, _, _, rfl, ⟨rfl, i4⟩, _, _, rfl, ⟨rfl, i5⟩, _, _, rfl, ⟨rfl, i6⟩, A, c, rfl, h1, h2, hA⟩, _, _, rfl, ⟨rfl, i7⟩, _, _, rfl, ⟨rfl, i8⟩, _, _, rfl, ⟨rfl, i9⟩, _, _, rfl, ⟨rfl, i10⟩, C, d, rfl, h3, h4, hC⟩ := h
  exact ⟨A, c, C, d, rfl, i0, i1, i2, i3, i4, i5, i6, i7, i8, i9, i10, h1, h2, hA, h3, h4, hC⟩
theorem Ots.at_ {w : World} {A0 : Option Addr} {es : List Ot} (h : Ots w A0 es) (k : Nat) (hk : k < es.length) :
    ∃ b off a u x s p q r f y i j A l c C m d, A0 = some ⟨b, off, none⟩ ∧ b < w.heap.size ∧ es[k] = (a, u, (x, s, p, q, r, l), f, (y, i, j, m)) ∧ w.cell? ⟨b, off + k * 13, none⟩ = some (.int .i64 a) ∧ w.cell? ⟨b, off + k * 13 + 1, none⟩ = some (.int .i64 u) ∧ w.cell? ⟨b, off + k * 13 + 2, none⟩ = some (.int .i64 x) ∧ w.cell? ⟨b, off + k * 13 + 3, none⟩ = some (.int .i64 s) ∧ w.cell? ⟨b, off + k * 13 + 4, none⟩ = some (.int .i64 p) ∧ w.cell? ⟨b, off + k * 13 + 5, none⟩ = some (.int .i64 q) ∧ w.cell? ⟨b, off + k * 13 + 6, none⟩ = some (.int .i64 r) ∧ w.cell? ⟨b, off + k * 13 + 7, none⟩ = some (.slice A l.length c) ∧ w.cell? ⟨b, off + k * 13 + 8, none⟩ = some (.int .i64 f) ∧ w.cell? ⟨b, off + k * 13 + 9, none⟩ = some (.int .i64 y) ∧ w.cell? ⟨b, off + k * 13 + 10, none⟩ = some (.int .i64 i) ∧ w.cell? ⟨b, off + k * 13 + 11, none⟩ = some (.int .i64 j) ∧ w.cell? ⟨b, off + k * 13 + 12, none⟩ = some (.slice C m.length d) ∧ isI a ∧ isI u ∧ isI x ∧ isI s ∧ isI p ∧ isI q ∧ isI r ∧ isI f ∧ isI y ∧ isI i ∧ isI j ∧ l.length ≤ c ∧ c ≤ maxLen ∧ Bs w A l ∧ m.length ≤ d ∧ d ≤ maxLen ∧ Bs w C m := by
  obtain ⟨b, off, us, hA, hlt, hus, hc, hr⟩ := h k hk
  obtain ⟨⟨a, u, ⟨x, s, p, q, r, l⟩, f, ⟨y, i, j, m⟩⟩, he⟩ : ∃ e, es[k] = e := ⟨_, rfl⟩
  rw [he] at hr
  obtain ⟨A, c, C, d, rfl, i0, i1, i2, i3, i4, i5, i6, i7, i8, i9, i10, hl0, hc0, hb0, hl1, hc1, hb1⟩ := Lay.out_rd hr
  refine ⟨b, off, a, u, x, s, p, q, r, f, y, i, j, A, l, c, C, m, d, hA, hlt, he, ?_, ?_, ?_, ?_, ?_, ?_, ?_, ?_, ?_, ?_, ?_, ?_, ?_, i0, i1, i2, i3, i4, i5, i6, i7, i8, i9, i10, hl0, hc0, hb0, hl1, hc1, hb1⟩
  · have := hc 0 (by simp); simpa using this
  · have := hc 1 (by simp); simpa [Nat.add_assoc] using this
  · have := hc 2 (by simp); simpa [Nat.add_assoc] using this
  · have := hc 3 (by simp); simpa [Nat.add_assoc] using this
  · have := hc 4 (by simp); simpa [Nat.add_assoc] using this
  · have := hc 5 (by simp); simpa [Nat.add_assoc] using this
  · have := hc 6 (by simp); simpa [Nat.add_assoc] using this
  · have := hc 7 (by simp); simpa [Nat.add_assoc] using this
  · have := hc 8 (by simp); simpa [Nat.add_assoc] using this
  · have := hc 9 (by simp); simpa [Nat.add_assoc] using this
  · have := hc 10 (by simp); simpa [Nat.add_assoc] using this
  · have := hc 11 (by simp); simpa [Nat.add_assoc] using this
  · have := hc 12 (by simp); simpa [Nat.add_assoc] using this
theorem Try.infoOut : (Try.prog.info? 85).map (fun i => (i.zero, i.size, i.bytes)) = some (some (.agg #[.int .i64 0, .int .i64 0, .int .i64 0, .int .i64 0, .int .i64 0, .int .i64 0, .int .i64 0, .slice none 0 0, .int .i64 0, .int .i64 0, .int .i64 0, .int .i64 0, .slice none 0 0]), 13, 136) := by kernel_rfl
/-- An event, an output of the call's own. -/
structure Own1 (w : World) (base : Nat) (A : Option Addr) (l : List UInt8) (c : Nat) : Prop where
  o : Own w base (.slice A l.length c) l
theorem Own1.nodup {w : World} {base : Nat} {A : Option Addr} {l : List UInt8} {c : Nat} (h : Own1 w base A l c) : (Value.slice A l.length c).ownBlock.toList.Nodup := h.o.fp.1
theorem Own1.lo {w : World} {base : Nat} {A : Option Addr} {l : List UInt8} {c : Nat} (h : Own1 w base A l c) : ∀ k ∈ (Value.slice A l.length c).ownBlock.toList, base ≤ k := h.o.fp.2
theorem own_event {w : World} {base : Nat} {x s p : Int} {A : Option Addr} {l : List UInt8} {c : Nat} (h0 : isI x) (h1 : isI s) (h2 : isI p) (h : Own1 w base A l c) :
    Lay.rpL.ow w [.int .i64 x, .int .i64 s, .int .i64 p, .slice A l.length c] (x, s, p, l) (Value.slice A l.length c).ownBlock.toList :=
  ⟨[.int .i64 x], [.int .i64 s, .int .i64 p, .slice A l.length c], [], _, rfl, ⟨rfl, h0, rfl⟩, ⟨[.int .i64 s], [.int .i64 p, .slice A l.length c], [], _, rfl, ⟨rfl, h1, rfl⟩, ⟨[.int .i64 p], [.slice A l.length c], [], _, rfl, ⟨rfl, h2, rfl⟩, h.o.ow, rfl⟩, rfl⟩, rfl⟩
structure Own2 (w : World) (base : Nat) (A : Option Addr) (l : List UInt8) (c : Nat) (C : Option Addr) (m : List UInt8) (d : Nat) : Prop where
  o : Own w base (.slice A l.length c) l
  p : Own w base (.slice C m.length d) m
  dis : ∀ k ∈ (Value.slice A l.length c).ownBlock.toList, k ∉ (Value.slice C m.length d).ownBlock.toList
theorem Own2.nodup {w : World} {base : Nat} {A : Option Addr} {l : List UInt8} {c : Nat} {C : Option Addr} {m : List UInt8} {d : Nat} (h : Own2 w base A l c C m d) : ((Value.slice A l.length c).ownBlock.toList ++ (Value.slice C m.length d).ownBlock.toList).Nodup := by
  rw [List.nodup_append]
  exact ⟨h.o.fp.1, h.p.fp.1, fun a ha b hb e => h.dis a ha (by rw [e]; exact hb)⟩
theorem Own2.lo {w : World} {base : Nat} {A : Option Addr} {l : List UInt8} {c : Nat} {C : Option Addr} {m : List UInt8} {d : Nat} (h : Own2 w base A l c C m d) : ∀ k ∈ (Value.slice A l.length c).ownBlock.toList ++ (Value.slice C m.length d).ownBlock.toList, base ≤ k := by
  intro k hk
  rcases List.mem_append.1 hk with h1 | h1
  · exact h.o.fp.2 k h1
  · exact h.p.fp.2 k h1
theorem own_rqL {w : World} {base : Nat} {x s p q r : Int} {A : Option Addr} {l : List UInt8} {c : Nat} (h0 : isI x) (h1 : isI s) (h2 : isI p) (h3 : isI q) (h4 : isI r) (h : Own w base (.slice A l.length c) l) :
    Lay.rqL.ow w [.int .i64 x, .int .i64 s, .int .i64 p, .int .i64 q, .int .i64 r, .slice A l.length c] (x, s, p, q, r, l) (Value.slice A l.length c).ownBlock.toList :=
  ⟨[.int .i64 x], [.int .i64 s, .int .i64 p, .int .i64 q, .int .i64 r, .slice A l.length c], [], _, rfl, ⟨rfl, h0, rfl⟩, ⟨[.int .i64 s], [.int .i64 p, .int .i64 q, .int .i64 r, .slice A l.length c], [], _, rfl, ⟨rfl, h1, rfl⟩, ⟨[.int .i64 p], [.int .i64 q, .int .i64 r, .slice A l.length c], [], _, rfl, ⟨rfl, h2, rfl⟩, ⟨[.int .i64 q], [.int .i64 r, .slice A l.length c], [], _, rfl, ⟨rfl, h3, rfl⟩, ⟨[.int .i64 r], [.slice A l.length c], [], _, rfl, ⟨rfl, h4, rfl⟩, h.ow, rfl⟩, rfl⟩, rfl⟩, rfl⟩, rfl⟩
theorem own_out {w : World} {base : Nat} {a u x s p q r f y i j : Int} {A : Option Addr} {l : List UInt8} {c : Nat} {C : Option Addr} {m : List UInt8} {d : Nat} (h0 : isI a) (h1 : isI u) (h2 : isI x) (h3 : isI s) (h4 : isI p) (h5 : isI q) (h6 : isI r) (h7 : isI f) (h8 : isI y) (h9 : isI i) (h10 : isI j) (h : Own2 w base A l c C m d) :
    Lay.out.ow w [.int .i64 a, .int .i64 u, .int .i64 x, .int .i64 s, .int .i64 p, .int .i64 q, .int .i64 r, .slice A l.length c, .int .i64 f, .int .i64 y, .int .i64 i, .int .i64 j, .slice C m.length d] (a, u, (x, s, p, q, r, l), f, (y, i, j, m)) ((Value.slice A l.length c).ownBlock.toList ++ (Value.slice C m.length d).ownBlock.toList) :=
  ⟨[.int .i64 a], [.int .i64 u, .int .i64 x, .int .i64 s, .int .i64 p, .int .i64 q, .int .i64 r, .slice A l.length c, .int .i64 f, .int .i64 y, .int .i64 i, .int .i64 j, .slice C m.length d], [], _, rfl, ⟨rfl, h0, rfl⟩, ⟨[.int .i64 u], [.int .i64 x, .int .i64 s, .int .i64 p, .int .i64 q, .int .i64 r, .slice A l.length c, .int .i64 f, .int .i64 y, .int .i64 i, .int .i64 j, .slice C m.length d], [], _, rfl, ⟨rfl, h1, rfl⟩, ⟨[.int .i64 x, .int .i64 s, .int .i64 p, .int .i64 q, .int .i64 r, .slice A l.length c], [.int .i64 f, .int .i64 y, .int .i64 i, .int .i64 j, .slice C m.length d], _, _, rfl, own_rqL h2 h3 h4 h5 h6 h.o, ⟨[.int .i64 f], [.int .i64 y, .int .i64 i, .int .i64 j, .slice C m.length d], [], _, rfl, ⟨rfl, h7, rfl⟩, own_event h8 h9 h10 ⟨h.p⟩, rfl⟩, rfl⟩, rfl⟩, rfl⟩

end Go.Proofs.Ytgpjjolgpppeeaa

