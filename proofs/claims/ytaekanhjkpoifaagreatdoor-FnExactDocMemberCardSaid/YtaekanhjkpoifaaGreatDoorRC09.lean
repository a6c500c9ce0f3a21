/-
 Chapter 7, the laws' helpers on leases: contracts (sizes, copies, equality). Own work.
-/
import Derived.Test.YtaekanhjkpoifaaGreatDoorRp0
import Derived.Test.YtaekanhjkpoifaaGreatDoorRp3
namespace Go.Proofs.YtaekanhjkpoifaaGreatDoor
open Go.RowKit P
set_option linter.unusedVariables false
set_option linter.unusedSimpArgs false
set_option maxRecDepth 100000

def isI (x : Int) : Prop := -9223372036854775808 ≤ x ∧ x ≤ 9223372036854775807
/-- A lease in cells. -/
def Lay.lease : Lay Le := Lay.pair Lay.int (Lay.pair Lay.int (Lay.pair Lay.int Lay.int))
def Lay.leases : Lay (List Le) := Lay.slice 106 Lay.lease
def leC (l : Le) : Array Value := #[.int .i64 l.1, .int .i64 l.2.1, .int .i64 l.2.2.1, .int .i64 l.2.2.2]
def leIn (l : Le) : Prop := isI l.1 ∧ isI l.2.1 ∧ isI l.2.2.1 ∧ isI l.2.2.2

theorem Lay.lease_rd {w : World} {cs : List Value} {l : Le} (h : Lay.lease.rd w cs l) : cs = (leC l).toList ∧ leIn l := by
 obtain ⟨c1, c2, rfl, ⟨rfl, h1⟩, c3, c4, rfl, ⟨rfl, h2⟩, c5, c6, rfl, ⟨rfl, h3⟩, rfl, h4⟩ := h
 exact ⟨rfl, h1, h2, h3, h4⟩
theorem own_lease (w : World) {l : Le} (h : leIn l) : Lay.lease.ow w (leC l).toList l [] :=
 ⟨[.int .i64 l.1], _, [], [], rfl, ⟨rfl, h.1, rfl⟩, ⟨[.int .i64 l.2.1], _, [], [], rfl, ⟨rfl, h.2.1, rfl⟩, ⟨[.int .i64 l.2.2.1], [.int .i64 l.2.2.2], [], [], rfl, ⟨rfl, h.2.2.1, rfl⟩, ⟨rfl, h.2.2.2, rfl⟩, rfl⟩, rfl⟩, rfl⟩
theorem ow_lease {w : World} {cs : List Value} {l : Le} {fp : List Nat} (h : Lay.lease.ow w cs l fp) : cs = (leC l).toList ∧ leIn l ∧ fp = [] := by
 obtain ⟨c1, c2, f1, f2, rfl, ⟨rfl, h1, rfl⟩, ⟨c3, c4, f3, f4, rfl, ⟨rfl, h2, rfl⟩, ⟨c5, c6, f5, f6, rfl, ⟨rfl, h3, rfl⟩, ⟨rfl, h4, rfl⟩, rfl⟩, rfl⟩, rfl⟩ := h
 exact ⟨rfl, ⟨h1, h2, h3, h4⟩, rfl⟩

/-- The slice of leases that starts at A. -/
def Ll (w : World) (A : Option Addr) (es : List Le) : Prop := Sl 4 Lay.lease.rd w A es
theorem Ll.below {w w' : World} {A : Option Addr} {es : List Le} (h : Ll w A es) (hb : Below w.heap.size w w') : Ll w' A es := Sl.below (E := Lay.lease) h hb
theorem Ll.at_ {w : World} {A : Option Addr} {es : List Le} (h : Ll w A es) (k : Nat) (hk : k < es.length) :
  ∃ b off i j s t, A = some ⟨b, off, none⟩ ∧ b < w.heap.size ∧ es[k] = (i, j, s, t) ∧ w.cell? ⟨b, off + k * 4, none⟩ = some (.int .i64 i) ∧ w.cell? ⟨b, off + k * 4 + 1, none⟩ = some (.int .i64 j) ∧ w.cell? ⟨b, off + k * 4 + 2, none⟩ = some (.int .i64 s) ∧ w.cell? ⟨b, off + k * 4 + 3, none⟩ = some (.int .i64 t) ∧ leIn (i, j, s, t) := by
 obtain ⟨b, off, us, hA, hlt, hus, hc, hr⟩ := h k hk
 obtain ⟨⟨i, j, s, t⟩, he⟩ : ∃ e, es[k] = e := ⟨_, rfl⟩
 rw [he] at hr
 obtain ⟨rfl, hin⟩ := Lay.lease_rd hr
 refine ⟨b, off, i, j, s, t, hA, hlt, he, ?_, ?_, ?_, ?_, hin⟩
 ·have := hc 0 (by simp [leC]); simpa [leC] using this
 ·have := hc 1 (by simp [leC]); simpa [leC, Nat.add_assoc] using this
 ·have := hc 2 (by simp [leC]); simpa [leC, Nat.add_assoc] using this
 ·have := hc 3 (by simp [leC]); simpa [leC, Nat.add_assoc] using this

theorem Tryz.infoLe : (Tryz.prog.info? 106).map (fun i => (i.zero, i.size, i.bytes)) = some (some (.agg #[.int .i64 0, .int .i64 0, .int .i64 0, .int .i64 0]), 4, 32) := by kernel_rfl

theorem Keeps.put {fp : List Nat} {w w' : World} (h : Keeps fp w w') {g : Nat} (hg : g ∈ fp) (i : Nat) (u : Value) : Keeps fp w (w'.setCell ⟨g, i, none⟩ u) :=
 ⟨h.os, h.tape, h.output, by simpa using h.size, fun k hk hn => (Below.heap_setCell _ _ _ _ (fun e => hn (by rw [show k = g by simpa using e]; exact hg))).trans (h.block k hk hn)⟩

/-- A list of leases of the call's own, in the blocks fp. -/
structure OwL (w : World) (base : Nat) (A : Option Addr) (es : List Le) (c : Nat) (fp : List Nat) : Prop where
 ow : Lay.leases.ow w [.slice A es.length c] es fp
 nd : fp.Nodup
 lo : ∀ k ∈ fp, base ≤ k
theorem OwL.range {w : World} {base : Nat} {A : Option Addr} {es : List Le} {c : Nat} {fp : List Nat} (h : OwL w base A es c fp) : ∀ k ∈ fp, base ≤ k ∧ k < w.heap.size := fun k hk => ⟨h.lo k hk, Lay.leases.lt h.ow k hk⟩
theorem OwL.below {w w' : World} {base : Nat} {A : Option Addr} {es : List Le} {c : Nat} {fp : List Nat} (h : OwL w base A es c fp) (hb : Below w.heap.size w w') : OwL w' base A es c fp := ⟨Lay.leases.owBelow h.ow hb, h.nd, h.lo⟩
theorem OwL.keeps {w w' : World} {base : Nat} {A : Option Addr} {es : List Le} {c : Nat} {fp fq : List Nat} (h : OwL w base A es c fp) (hk : Keeps fq w w') (hd : ∀ k ∈ fp, k ∉ fq) : OwL w' base A es c fp := ⟨Lay.leases.keeps h.ow hk hd, h.nd, h.lo⟩
theorem OwL.ll {w : World} {base : Nat} {A : Option Addr} {es : List Le} {c : Nat} {fp : List Nat} (h : OwL w base A es c fp) : Ll w A es := by
 obtain ⟨A', c', e, _, _, hs⟩ := Lay.leases.read h.ow
 simp only [List.cons.injEq, Value.slice.injEq, and_true] at e
 rw [e.1]
 exact hs
theorem OwL.cap {w : World} {base : Nat} {A : Option Addr} {es : List Le} {c : Nat} {fp : List Nat} (h : OwL w base A es c fp) : es.length ≤ c ∧ c ≤ maxLen := by
 obtain ⟨A', c', e, h1, h2, hs⟩ := Lay.leases.read h.ow
 simp only [List.cons.injEq, Value.slice.injEq, and_true] at e
 rw [e.2.2]
 exact ⟨h1, h2⟩
set_option maxHeartbeats 400000 in
theorem szLeaseS_any (A : Option Addr) (n c : Nat) (left : Int) (w : World) (hn : n ≤ 9223372036854775807) (h0 : 0 ≤ left) (h1 : left ≤ 1048576) :
  Calls Tryz.prog 26 #[.slice A n c, .int .i64 left] w fun e w' => (∃ r : Int, e = .returned (.int .i64 r) ∧ (r < 0 ∨ (0 ≤ r ∧ r + n = left))) ∧ w' = w := by
 by_cases h : left - (n : Int) < 0
 ·go_enter Tryz.func26, Tryz.ntmps26
  go_wp2
  go_ret
  exact ⟨⟨_, rfl, .inl (by omega)⟩, rfl⟩
 ·go_enter Tryz.func26, Tryz.ntmps26
  go_wp2
  go_ret
  exact ⟨⟨_, rfl, .inr ⟨by omega, by omega⟩⟩, rfl⟩

set_option maxHeartbeats 1000000 in
theorem toLease_any (i j s t : Int) (w : World) :
  Calls Tryz.prog 69 #[.agg #[.int .i64 i, .int .i64 j, .int .i64 s, .int .i64 t]] w fun e w' => e = .returned (.agg #[.int .i64 i, .int .i64 j, .int .i64 s, .int .i64 t]) ∧ Below w.heap.size w w' := by
 go_enter Tryz.func69, Tryz.ntmps69
 go_wp2
 refine bodyPost_ret (v := .agg #[.int .i64 i, .int .i64 j, .int .i64 s, .int .i64 t]) (by simp [results, Tryz.results69, go_sem]) rfl ⟨rfl, ?_⟩
 (repeat (first | exact Below.refl _ _ | assumption | refine Below.setCell ?_ (by first | (simp; done) | (simp; omega) | omega) _ | refine Below.drew ?_ | refine below_drewN ?_ _ | refine Below.alloc ?_ (by first | (simp; done) | (simp; omega) | omega) _))

set_option maxHeartbeats 4000000 in
theorem toLeaseS_any (A : Option Addr) (es : List Le) (c : Nat) (w : World) (hn : es.length ≤ 1048576) (hE : Ll w A es) :
  Calls Tryz.prog 33 #[.slice A es.length c] w (Gives Lay.leases wSlice es w) := by
 have hmk : ∀ W, (Instr.makeSlice 34 (.int .i64 (es.length : Int)) (.int .i64 (es.length : Int))).run Tryz.prog W = .ok (.slice (some ⟨W.heap.size, 0, none⟩) es.length es.length) (W.alloc (.cells (madeCells #[.int .i64 0, .int .i64 0, .int .i64 0, .int .i64 0] (es.length * 4)) 106)) := fun W =>
  run_mk (P := Tryz.prog) 34 106 (.agg #[.int .i64 0, .int .i64 0, .int .i64 0, .int .i64 0]) 4 32 Tryz.underlying34 Tryz.infoLe es.length (by omega) (by omega) W
 go_enter Tryz.func33, Tryz.ntmps33
 go_wp2
 go_loopw [4] (fun i wr => ∃ L : List (El Le), L.length ≤ es.length ∧ i = .int .i64 L.length ∧ es.take L.length = L.map (·.2.1) ∧
   Filling 106 Lay.lease (fun j => (#[.int .i64 0, .int .i64 0, .int .i64 0, .int .i64 0] : Array Value)[j % 4]!) es.length wr w.heap.size L ∧ Below w.heap.size w wr)
  (fun i _ => es.length - (intOf i).toNat)
 case atStart => exact ⟨[], Nat.zero_le _, rfl, by simp, Filling.made #[.int .i64 0, .int .i64 0, .int .i64 0, .int .i64 0] _ _, (Below.refl _ _).alloc (Nat.le_refl _) _⟩
 case round =>
  obtain ⟨L, hk, rfl, htk, hfill, hbel⟩ := hrel
  have HTK := Lib.hid htk
  clear htk
  by_cases hlt : L.length < es.length
  ·obtain ⟨b, off, x, y, s, t, rfl, hbl, hek, k0, k1, k2, k3, hin⟩ := (hE.below hbel).at_ L.length hlt
   have hnext : es.take (L.length + 1) = L.map (·.2.1) ++ [(x, y, s, t)] := by rw [List.take_succ_eq_append_getElem hlt, HTK.out, hek]
   have HN := Lib.hid hnext
   have HIN := Lib.hid hin
   clear hnext hek hin
   obtain ⟨k, hkk⟩ : ∃ k, L.length = k := ⟨_, rfl⟩
   have hlt' := hlt
   rw [hkk] at k0 k1 k2 k3 hlt' hk
   have HK := Lib.hid hkk
   rw [hkk]
   clear hkk
   have hw : w.heap.size < wr.heap.size := hfill.row.lt
   have hki : (k : Int) < (es.length : Int) := by omega
   go_wp2_with fail
   refine (toLease_any x y s t _).mono ?_
   rintro e w1 ⟨rfl, hb1⟩
   have hrow1 := hfill.row.of_block (hb1.block _ hfill.row.lt)
   obtain ⟨u0, hu0⟩ : ∃ u, w1.cell? ⟨w.heap.size, k * 4, none⟩ = some u := ⟨_, hrow1.cell (by show k * 4 < es.length * 4; omega)⟩
   obtain ⟨u1, hu1⟩ : ∃ u, w1.cell? ⟨w.heap.size, k * 4 + 1, none⟩ = some u := ⟨_, hrow1.cell (by show k * 4 + 1 < es.length * 4; omega)⟩
   obtain ⟨u2, hu2⟩ : ∃ u, w1.cell? ⟨w.heap.size, k * 4 + 2, none⟩ = some u := ⟨_, hrow1.cell (by show k * 4 + 2 < es.length * 4; omega)⟩
   obtain ⟨u3, hu3⟩ : ∃ u, w1.cell? ⟨w.heap.size, k * 4 + 3, none⟩ = some u := ⟨_, hrow1.cell (by show k * 4 + 3 < es.length * 4; omega)⟩
   have hfz0 := hrow1.frozen (k * 4)
   have hfz1 := hrow1.frozen (k * 4 + 1)
   have hfz2 := hrow1.frozen (k * 4 + 2)
   have hfz3 := hrow1.frozen (k * 4 + 3)
   have hs1 := hb1.size
   have hr2 := (((hrow1.set (k * 4) (.int .i64 x)).set (k * 4 + 1) (.int .i64 y)).set (k * 4 + 2) (.int .i64 s)).set (k * 4 + 3) (.int .i64 t)
   have hf2 := hfill.snoc hb1 (own_lease w1 HIN.out) List.nodup_nil (fun k hk => nomatch hk) (hr2.congr (by
    intro j hj
    have hs : Lay.lease.sz = 4 := rfl
    rw [hs, HK.out]
    by_cases c3 : j = k * 4 + 3
    ·subst c3; simp [leC]
    ·by_cases c2 : j = k * 4 + 2
     ·subst c2; simp [leC]
     ·by_cases c1 : j = k * 4 + 1
      ·subst c1; simp [leC]
      ·by_cases c0 : j = k * 4
       ·subst c0; simp [leC]
       ·rw [if_neg c3, if_neg c2, if_neg c1, if_neg c0, if_neg (by omega)])) (fun q hq => by rw [Below.heap_setCell _ _ _ _ hq, Below.heap_setCell _ _ _ _ hq, Below.heap_setCell _ _ _ _ hq, Below.heap_setCell _ _ _ _ hq]) (by simp)
   have HF2 := Lib.hid hf2
   clear hrow1 hf2 hr2 hfill k0 k1 k2 k3
   go_wp2
   go_roundw
   case rel =>
    refine ⟨_, ?_, ?_, ?_, by have h9 := HF2.out; exact h9, ((((below_then hbel hb1).setCell (p := ⟨w.heap.size, k * 4, none⟩) (Nat.le_refl _) _).setCell (p := ⟨w.heap.size, k * 4 + 1, none⟩) (Nat.le_refl _) _).setCell (p := ⟨w.heap.size, k * 4 + 2, none⟩) (Nat.le_refl _) _).setCell (p := ⟨w.heap.size, k * 4 + 3, none⟩) (Nat.le_refl _) _⟩
    ·rw [List.length_append]; simp; omega
    ·rw [List.length_append, ← HK.out]; simp
    ·rw [List.length_append, List.length_singleton, HN.out, List.map_append]; rfl
   case measure => simp [intOf]; have := HK.out; omega
  ·have e : L.length = es.length := by omega
   obtain ⟨h1, h2, h3⟩ := hfill.done e (by unfold maxLen; omega)
   have e2 : L.map (·.2.1) = es := by rw [← HTK.out, e, List.take_length]
   rw [e2] at h1
   have H1 := Lib.hid h1
   have HE := Lib.hid e
   clear h1 e e2 hfill
   go_wp2
   go_ret
   exact ⟨_, _, rfl, H1.out, h2, h3, hbel⟩

set_option maxHeartbeats 1000000 in
theorem eqLease_any (i j s t x y u v : Int) (w : World) :
  Calls Tryz.prog 77 #[.agg #[.int .i64 i, .int .i64 j, .int .i64 s, .int .i64 t], .agg #[.int .i64 x, .int .i64 y, .int .i64 u, .int .i64 v]] w fun e w' => e = .returned (.bool (decide (i = x ∧ j = y ∧ s = u ∧ t = v))) ∧ Below w.heap.size w w' := by
 by_cases h1 : i = x
 ·have e1 : (i != x) = false := by simp [h1]
  by_cases h2 : j = y
  ·have e2 : (j != y) = false := by simp [h2]
   by_cases h3 : s = u
   ·have e3 : (s != u) = false := by simp [h3]
    by_cases h4 : t = v
    ·have e4 : (t != v) = false := by simp [h4]
     rw [decide_eq_true ⟨h1, h2, h3, h4⟩]
     clear h1 h2 h3 h4
     go_enter Tryz.func77, Tryz.ntmps77
     go_wp2
     go_ret
     refine ⟨rfl, ?_⟩
     (repeat (first | exact Below.refl _ _ | assumption | refine Below.setCell ?_ (by first | (simp; done) | (simp; omega) | omega) _ | refine Below.drew ?_ | refine below_drewN ?_ _ | refine Below.alloc ?_ (by first | (simp; done) | (simp; omega) | omega) _))
    ·have e4 : (t != v) = true := by simp [h4]
     rw [decide_eq_false (fun h => h4 h.2.2.2)]
     clear h1 h2 h3 h4
     go_enter Tryz.func77, Tryz.ntmps77
     go_wp2
     go_ret
     refine ⟨rfl, ?_⟩
     (repeat (first | exact Below.refl _ _ | assumption | refine Below.setCell ?_ (by first | (simp; done) | (simp; omega) | omega) _ | refine Below.drew ?_ | refine below_drewN ?_ _ | refine Below.alloc ?_ (by first | (simp; done) | (simp; omega) | omega) _))
   ·have e3 : (s != u) = true := by simp [h3]
    rw [decide_eq_false (fun h => h3 h.2.2.1)]
    clear h1 h2 h3
    go_enter Tryz.func77, Tryz.ntmps77
    go_wp2
    go_ret
    refine ⟨rfl, ?_⟩
    (repeat (first | exact Below.refl _ _ | assumption | refine Below.setCell ?_ (by first | (simp; done) | (simp; omega) | omega) _ | refine Below.drew ?_ | refine below_drewN ?_ _ | refine Below.alloc ?_ (by first | (simp; done) | (simp; omega) | omega) _))
  ·have e2 : (j != y) = true := by simp [h2]
   rw [decide_eq_false (fun h => h2 h.2.1)]
   clear h1 h2
   go_enter Tryz.func77, Tryz.ntmps77
   go_wp2
   go_ret
   refine ⟨rfl, ?_⟩
   (repeat (first | exact Below.refl _ _ | assumption | refine Below.setCell ?_ (by first | (simp; done) | (simp; omega) | omega) _ | refine Below.drew ?_ | refine below_drewN ?_ _ | refine Below.alloc ?_ (by first | (simp; done) | (simp; omega) | omega) _))
 ·have e1 : (i != x) = true := by simp [h1]
  rw [decide_eq_false (fun h => h1 h.1)]
  clear h1
  go_enter Tryz.func77, Tryz.ntmps77
  go_wp2
  go_ret
  refine ⟨rfl, ?_⟩
  (repeat (first | exact Below.refl _ _ | assumption | refine Below.setCell ?_ (by first | (simp; done) | (simp; omega) | omega) _ | refine Below.drew ?_ | refine below_drewN ?_ _ | refine Below.alloc ?_ (by first | (simp; done) | (simp; omega) | omega) _))
end Go.Proofs.YtaekanhjkpoifaaGreatDoor
