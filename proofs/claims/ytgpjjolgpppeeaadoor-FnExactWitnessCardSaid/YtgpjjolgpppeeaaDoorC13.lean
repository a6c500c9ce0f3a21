/-
  Chapter 9, the laws' helpers on requests and replies: contracts. Own work.
-/
import Derived.Test.YtgpjjolgpppeeaaDoorSz
import Derived.Test.YtgpjjolgpppeeaaDoorMark
import Derived.Test.YtgpjjolgpppeeaaDoorBs
import Derived.Test.YtgpjjolgpppeeaaDoorBlk
namespace Go.Proofs.YtgpjjolgpppeeaaDoor
open Go.RowKit P
set_option linter.unusedVariables false
set_option linter.unusedSimpArgs false

theorem bsk13 (w : World) (o : Obj) : Below w.heap.size w (w.alloc o) := (Below.refl w.heap.size w).alloc (Nat.le_refl _) o

theorem below_drewN13 {B : Nat} {a w : World} (h : Below B a w) (n : Nat) : Below B a (w.drewN n) := ⟨h.os, h.tape, h.output, h.size, h.block⟩

set_option maxHeartbeats 400000 in
theorem szReq_any (x s p q r : Int) (A : Option Addr) (n c : Nat) (left : Int) (w : World) (hn : n ≤ 9223372036854775807) (h0 : 0 ≤ left) (h1 : left ≤ 1048576) :
    Calls Tryd.prog 42 #[.agg #[.int .i64 x, .int .i64 s, .int .i64 p, .int .i64 q, .int .i64 r, .slice A n c], .int .i64 left] w fun e w' => (∃ r : Int, e = .returned (.int .i64 r) ∧ ((r = -1 ∧ left < n) ∨ (0 ≤ r ∧ r = left - n))) ∧ Below w.heap.size w w' := by
  go_enter Tryd.func42, Tryd.ntmps42
  go_wp2_with fail
  refine (szByteS_any A n c left _ hn h0 h1).mono ?_
  rintro e w1 ⟨⟨r, rfl, hr⟩, rfl⟩
  by_cases hneg : r < 0
  · go_wp2
    go_ret
    exact ⟨⟨_, rfl, .inl ⟨rfl, by omega⟩⟩, bsk13 _ _⟩
  · go_wp2
    go_ret
    exact ⟨⟨_, rfl, by omega⟩, bsk13 _ _⟩

set_option maxHeartbeats 1000000 in
theorem eqReq_same (x s p q r : Int) (A B : Option Addr) (l : List UInt8) (c d : Nat) (w : World) (hl : l.length ≤ 9223372036854775807) (hA : Bs w A l) (hB : Bs w B l) :
    Calls Tryd.prog 47 #[.agg #[.int .i64 x, .int .i64 s, .int .i64 p, .int .i64 q, .int .i64 r, .slice A l.length c], .agg #[.int .i64 x, .int .i64 s, .int .i64 p, .int .i64 q, .int .i64 r, .slice B l.length d]] w fun e w' => e = .returned (.bool true) ∧ Below w.heap.size w w' := by
  have hb0 := (bsk13 w (.cells #[.int .i64 x, .int .i64 s, .int .i64 p, .int .i64 q, .int .i64 r, .slice A l.length c] 29)).alloc (by simp) (.cells #[.int .i64 x, .int .i64 s, .int .i64 p, .int .i64 q, .int .i64 r, .slice B l.length d] 29)
  have hA2 := Lib.hid (hA.below hb0)
  have hB2 := Lib.hid (hB.below hb0)
  have ex : (x != x) = false := by simp
  have es : (s != s) = false := by simp
  have ep : (p != p) = false := by simp
  have eq : (q != q) = false := by simp
  have er : (r != r) = false := by simp
  go_enter Tryd.func47, Tryd.ntmps47
  go_wp2_with fail
  refine (eqByteS_any A B l l c d _ hl (by exact hA2.out) (by exact hB2.out)).mono ?_
  rintro e w1 ⟨rfl, n, rfl⟩
  rw [decide_eq_true (rfl : l = l)]
  have hfin := below_drewN13 hb0 n
  go_wp2
  go_ret
  exact ⟨rfl, hfin⟩

set_option maxHeartbeats 1000000 in
theorem toReq_any (x s p q r : Int) (A : Option Addr) (l : List UInt8) (c : Nat) (w : World) (hl : l.length ≤ 1048576) (h : Bs w A l) :
    Calls Tryd.prog 43 #[.agg #[.int .i64 x, .int .i64 s, .int .i64 p, .int .i64 q, .int .i64 r, .slice A l.length c]] w fun e w' => ∃ v, e = .returned (.agg #[.int .i64 x, .int .i64 s, .int .i64 p, .int .i64 q, .int .i64 r, v]) ∧ Own w' w.heap.size v l ∧ Below w.heap.size w w' := by
  go_enter Tryd.func43, Tryd.ntmps43
  go_wp2_with fail
  refine Calls.mono (toByteS_any A l c _ hl (by exact h.below (by (repeat (first | exact Below.refl _ _ | assumption | refine Below.setCell ?_ (by first | (simp; done) | (simp; omega) | omega) _ | refine Below.drew ?_ | refine below_drewN ?_ _ | refine Below.alloc ?_ (by first | (simp; done) | (simp; omega) | omega) _))))) ?_
  rintro e w1 ⟨rfl, hrow, hb⟩
  have hz := hb.size
  have hbw : Below w.heap.size w w1 := Below.trans (b := _) (by (repeat (first | exact Below.refl _ _ | assumption | refine Below.setCell ?_ (by first | (simp; done) | (simp; omega) | omega) _ | refine Below.drew ?_ | refine below_drewN ?_ _ | refine Below.alloc ?_ (by first | (simp; done) | (simp; omega) | omega) _))) (hb.mono (by simp; omega))
  have hown := Row.own hrow (w.heap.size + 3) (by simp) (by unfold maxLen; omega)
  obtain ⟨hc, hf⟩ := bcell hb
  obtain ⟨g, hg⟩ : ∃ g, (((w.alloc (Obj.cells #[Value.int IntKind.i64 x, Value.int IntKind.i64 s, Value.int IntKind.i64 p, Value.int IntKind.i64 q, Value.int IntKind.i64 r, Value.slice A l.length c] 24)).alloc (Obj.cells #[Value.int IntKind.i64 0, Value.int IntKind.i64 0, Value.int IntKind.i64 0, Value.int IntKind.i64 0, Value.int IntKind.i64 0, Value.slice none 0 0] 29)).alloc (Obj.cells #[Value.int IntKind.i64 x, Value.int IntKind.i64 s, Value.int IntKind.i64 p, Value.int IntKind.i64 q, Value.int IntKind.i64 r, Value.slice none 0 0] 29)).heap.size = g := ⟨_, rfl⟩
  simp at hz
  have hz3 : w.heap.size + 3 ≤ w1.heap.size := by omega
  rw [hg] at hown ⊢
  clear hrow hg
  go_wp2
  refine bodyPost_ret (v := .agg #[.int .i64 x, .int .i64 s, .int .i64 p, .int .i64 q, .int .i64 r, .slice (some ⟨g, 0, none⟩) l.length l.length]) (by simp [results, Tryd.results43, go_sem, hc]) rfl ⟨_, rfl, ?_, ?_⟩
  · have h9 : ∀ (W : World) (i j : Nat) (u : Value), Own W (w.heap.size + 3) (.slice (some ⟨g, 0, none⟩) l.length l.length) l → j < w.heap.size + 3 → Own (W.setCell ⟨j, i, none⟩ u) (w.heap.size + 3) (.slice (some ⟨g, 0, none⟩) l.length l.length) l := fun W i j u h hj => h.setBelow (by simpa using hj) u
    refine Own.mono (base := w.heap.size + 3) ?_ (by omega)
    repeat (first | with_reducible exact hown | (refine h9 _ _ _ _ ?_ (by omega)))
  · iterate 7 (refine Below.setCell ?_ (by first | omega | (simp; done) | (simp; omega)) _)
    exact hbw

set_option maxHeartbeats 400000 in
theorem szReply_any (x p q : Int) (A : Option Addr) (n c : Nat) (left : Int) (w : World) (hn : n ≤ 9223372036854775807) (h0 : 0 ≤ left) (h1 : left ≤ 1048576) :
    Calls Tryd.prog 91 #[.agg #[.int .i64 x, .int .i64 p, .int .i64 q, .slice A n c], .int .i64 left] w fun e w' => (∃ r : Int, e = .returned (.int .i64 r) ∧ ((r = -1 ∧ left < n) ∨ (0 ≤ r ∧ r = left - n))) ∧ Below w.heap.size w w' := by
  go_enter Tryd.func91, Tryd.ntmps91
  go_wp2_with fail
  refine (szByteS_any A n c left _ hn h0 h1).mono ?_
  rintro e w1 ⟨⟨r, rfl, hr⟩, rfl⟩
  by_cases hneg : r < 0
  · go_wp2
    go_ret
    exact ⟨⟨_, rfl, .inl ⟨rfl, by omega⟩⟩, bsk13 _ _⟩
  · go_wp2
    go_ret
    exact ⟨⟨_, rfl, by omega⟩, bsk13 _ _⟩

set_option maxHeartbeats 1000000 in
theorem eqReply_same (x p q : Int) (A B : Option Addr) (l : List UInt8) (c d : Nat) (w : World) (hl : l.length ≤ 9223372036854775807) (hA : Bs w A l) (hB : Bs w B l) :
    Calls Tryd.prog 96 #[.agg #[.int .i64 x, .int .i64 p, .int .i64 q, .slice A l.length c], .agg #[.int .i64 x, .int .i64 p, .int .i64 q, .slice B l.length d]] w fun e w' => e = .returned (.bool true) ∧ Below w.heap.size w w' := by
  have hb0 := (bsk13 w (.cells #[.int .i64 x, .int .i64 p, .int .i64 q, .slice A l.length c] 60)).alloc (by simp) (.cells #[.int .i64 x, .int .i64 p, .int .i64 q, .slice B l.length d] 60)
  have hA2 := Lib.hid (hA.below hb0)
  have hB2 := Lib.hid (hB.below hb0)
  have ex : (x != x) = false := by simp
  have ep : (p != p) = false := by simp
  have eq : (q != q) = false := by simp
  go_enter Tryd.func96, Tryd.ntmps96
  go_wp2_with fail
  refine (eqByteS_any A B l l c d _ hl (by exact hA2.out) (by exact hB2.out)).mono ?_
  rintro e w1 ⟨rfl, n, rfl⟩
  rw [decide_eq_true (rfl : l = l)]
  have hfin := below_drewN13 hb0 n
  go_wp2
  go_ret
  exact ⟨rfl, hfin⟩

set_option maxHeartbeats 1000000 in
theorem toReply_any (x p q : Int) (A : Option Addr) (l : List UInt8) (c : Nat) (w : World) (hl : l.length ≤ 1048576) (h : Bs w A l) :
    Calls Tryd.prog 94 #[.agg #[.int .i64 x, .int .i64 p, .int .i64 q, .slice A l.length c]] w fun e w' => ∃ v, e = .returned (.agg #[.int .i64 x, .int .i64 p, .int .i64 q, v]) ∧ Own w' w.heap.size v l ∧ Below w.heap.size w w' := by
  go_enter Tryd.func94, Tryd.ntmps94
  go_wp2_with fail
  refine Calls.mono (toByteS_any A l c _ hl (by exact h.below (by (repeat (first | exact Below.refl _ _ | assumption | refine Below.setCell ?_ (by first | (simp; done) | (simp; omega) | omega) _ | refine Below.drew ?_ | refine below_drewN ?_ _ | refine Below.alloc ?_ (by first | (simp; done) | (simp; omega) | omega) _))))) ?_
  rintro e w1 ⟨rfl, hrow, hb⟩
  have hz := hb.size
  have hbw : Below w.heap.size w w1 := Below.trans (b := _) (by (repeat (first | exact Below.refl _ _ | assumption | refine Below.setCell ?_ (by first | (simp; done) | (simp; omega) | omega) _ | refine Below.drew ?_ | refine below_drewN ?_ _ | refine Below.alloc ?_ (by first | (simp; done) | (simp; omega) | omega) _))) (hb.mono (by simp; omega))
  have hown := Row.own hrow (w.heap.size + 3) (by simp) (by unfold maxLen; omega)
  obtain ⟨hc, hf⟩ := bcell hb
  obtain ⟨g, hg⟩ : ∃ g, (((w.alloc (Obj.cells #[Value.int IntKind.i64 x, Value.int IntKind.i64 p, Value.int IntKind.i64 q, Value.slice A l.length c] 79)).alloc (Obj.cells #[Value.int IntKind.i64 0, Value.int IntKind.i64 0, Value.int IntKind.i64 0, Value.slice none 0 0] 60)).alloc (Obj.cells #[Value.int IntKind.i64 x, Value.int IntKind.i64 p, Value.int IntKind.i64 q, Value.slice none 0 0] 60)).heap.size = g := ⟨_, rfl⟩
  simp at hz
  have hz3 : w.heap.size + 3 ≤ w1.heap.size := by omega
  rw [hg] at hown ⊢
  clear hrow hg
  go_wp2
  refine bodyPost_ret (v := .agg #[.int .i64 x, .int .i64 p, .int .i64 q, .slice (some ⟨g, 0, none⟩) l.length l.length]) (by simp [results, Tryd.results94, go_sem, hc]) rfl ⟨_, rfl, ?_, ?_⟩
  · have h9 : ∀ (W : World) (i j : Nat) (u : Value), Own W (w.heap.size + 3) (.slice (some ⟨g, 0, none⟩) l.length l.length) l → j < w.heap.size + 3 → Own (W.setCell ⟨j, i, none⟩ u) (w.heap.size + 3) (.slice (some ⟨g, 0, none⟩) l.length l.length) l := fun W i j u h hj => h.setBelow (by simpa using hj) u
    refine Own.mono (base := w.heap.size + 3) ?_ (by omega)
    repeat (first | with_reducible exact hown | (refine h9 _ _ _ _ ?_ (by omega)))
  · iterate 5 (refine Below.setCell ?_ (by first | omega | (simp; done) | (simp; omega)) _)
    exact hbw

end Go.Proofs.YtgpjjolgpppeeaaDoor
