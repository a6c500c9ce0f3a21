/-
  Chapter 11, the laws' helpers on events: contracts. Own work.
-/
import Derived.Test.YtgpjjolgpppeeaaDoorSz
import Derived.Test.YtgpjjolgpppeeaaDoorMark
import Derived.Test.YtgpjjolgpppeeaaDoorBs
import Derived.Test.YtgpjjolgpppeeaaDoorBlk
import Derived.Test.YtgpjjolgpppeeaaDoorC13
namespace Go.Proofs.YtgpjjolgpppeeaaDoor
open Go.RowKit P
set_option linter.unusedVariables false
set_option linter.unusedSimpArgs false


set_option maxHeartbeats 400000 in
theorem szEvent_any (x s p : Int) (A : Option Addr) (n c : Nat) (left : Int) (w : World) (hn : n ≤ 9223372036854775807) (h0 : 0 ≤ left) (h1 : left ≤ 1048576) :
    Calls Tryd.prog 48 #[.agg #[.int .i64 x, .int .i64 s, .int .i64 p, .slice A n c], .int .i64 left] w fun e w' => (∃ r : Int, e = .returned (.int .i64 r) ∧ ((r = -1 ∧ left < n) ∨ (0 ≤ r ∧ r = left - n))) ∧ Below w.heap.size w w' := by
  go_enter Tryd.func48, Tryd.ntmps48
  go_wp2_with fail
  refine (szByteS_any A n c left _ hn h0 h1).mono ?_
  rintro e w1 ⟨⟨r, rfl, hr⟩, rfl⟩
  by_cases hneg : r < 0
  · go_wp2
    go_ret
    exact ⟨⟨_, rfl, .inl ⟨rfl, by omega⟩⟩, bsk13 _ _⟩
  · go_wp2
    go_ret
    exact ⟨⟨_, rfl, by omega⟩, bsk13 _ _⟩

set_option maxHeartbeats 1000000 in
theorem eqEvent_same (x s p : Int) (A B : Option Addr) (l : List UInt8) (c d : Nat) (w : World) (hl : l.length ≤ 9223372036854775807) (hA : Bs w A l) (hB : Bs w B l) :
    Calls Tryd.prog 58 #[.agg #[.int .i64 x, .int .i64 s, .int .i64 p, .slice A l.length c], .agg #[.int .i64 x, .int .i64 s, .int .i64 p, .slice B l.length d]] w fun e w' => e = .returned (.bool true) ∧ Below w.heap.size w w' := by
  have hb0 := (bsk13 w (.cells #[.int .i64 x, .int .i64 s, .int .i64 p, .slice A l.length c] 83)).alloc (by simp) (.cells #[.int .i64 x, .int .i64 s, .int .i64 p, .slice B l.length d] 83)
  have hA2 := Lib.hid (hA.below hb0)
  have hB2 := Lib.hid (hB.below hb0)
  have ex : (x != x) = false := by simp
  have es : (s != s) = false := by simp
  have ep : (p != p) = false := by simp
  go_enter Tryd.func58, Tryd.ntmps58
  go_wp2_with fail
  refine (eqByteS_any A B l l c d _ hl (by exact hA2.out) (by exact hB2.out)).mono ?_
  rintro e w1 ⟨rfl, n, rfl⟩
  rw [decide_eq_true (rfl : l = l)]
  have hfin := below_drewN13 hb0 n
  go_wp2
  go_ret
  exact ⟨rfl, hfin⟩

set_option maxHeartbeats 1000000 in
theorem toEvent_any (x s p : Int) (A : Option Addr) (l : List UInt8) (c : Nat) (w : World) (hl : l.length ≤ 1048576) (h : Bs w A l) :
    Calls Tryd.prog 52 #[.agg #[.int .i64 x, .int .i64 s, .int .i64 p, .slice A l.length c]] w fun e w' => ∃ v, e = .returned (.agg #[.int .i64 x, .int .i64 s, .int .i64 p, v]) ∧ Own w' w.heap.size v l ∧ Below w.heap.size w w' := by
  go_enter Tryd.func52, Tryd.ntmps52
  go_wp2_with fail
  refine Calls.mono (toByteS_any A l c _ hl (by exact h.below (by (repeat (first | exact Below.refl _ _ | assumption | refine Below.setCell ?_ (by first | (simp; done) | (simp; omega) | omega) _ | refine Below.drew ?_ | refine below_drewN ?_ _ | refine Below.alloc ?_ (by first | (simp; done) | (simp; omega) | omega) _))))) ?_
  rintro e w1 ⟨rfl, hrow, hb⟩
  have hz := hb.size
  have hbw : Below w.heap.size w w1 := Below.trans (b := _) (by (repeat (first | exact Below.refl _ _ | assumption | refine Below.setCell ?_ (by first | (simp; done) | (simp; omega) | omega) _ | refine Below.drew ?_ | refine below_drewN ?_ _ | refine Below.alloc ?_ (by first | (simp; done) | (simp; omega) | omega) _))) (hb.mono (by simp; omega))
  have hown := Row.own hrow (w.heap.size + 3) (by simp) (by unfold maxLen; omega)
  obtain ⟨hc, hf⟩ := bcell hb
  obtain ⟨g, hg⟩ : ∃ g, (((w.alloc (Obj.cells #[Value.int IntKind.i64 x, Value.int IntKind.i64 s, Value.int IntKind.i64 p, Value.slice A l.length c] 77)).alloc (Obj.cells #[Value.int IntKind.i64 0, Value.int IntKind.i64 0, Value.int IntKind.i64 0, Value.slice none 0 0] 83)).alloc (Obj.cells #[Value.int IntKind.i64 x, Value.int IntKind.i64 s, Value.int IntKind.i64 p, Value.slice none 0 0] 83)).heap.size = g := ⟨_, rfl⟩
  simp at hz
  have hz3 : w.heap.size + 3 ≤ w1.heap.size := by omega
  rw [hg] at hown ⊢
  clear hrow hg
  go_wp2
  refine bodyPost_ret (v := .agg #[.int .i64 x, .int .i64 s, .int .i64 p, .slice (some ⟨g, 0, none⟩) l.length l.length]) (by simp [results, Tryd.results52, go_sem, hc]) rfl ⟨_, rfl, ?_, ?_⟩
  · have h9 : ∀ (W : World) (i j : Nat) (u : Value), Own W (w.heap.size + 3) (.slice (some ⟨g, 0, none⟩) l.length l.length) l → j < w.heap.size + 3 → Own (W.setCell ⟨j, i, none⟩ u) (w.heap.size + 3) (.slice (some ⟨g, 0, none⟩) l.length l.length) l := fun W i j u h hj => h.setBelow (by simpa using hj) u
    refine Own.mono (base := w.heap.size + 3) ?_ (by omega)
    repeat (first | with_reducible exact hown | (refine h9 _ _ _ _ ?_ (by omega)))
  · iterate 5 (refine Below.setCell ?_ (by first | omega | (simp; done) | (simp; omega)) _)
    exact hbw

end Go.Proofs.YtgpjjolgpppeeaaDoor
