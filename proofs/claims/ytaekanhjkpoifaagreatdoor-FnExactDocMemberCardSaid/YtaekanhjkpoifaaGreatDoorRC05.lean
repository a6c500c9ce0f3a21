/-
 Chapter 5, the laws' helpers on edits: contracts. Own work.
-/
import Derived.Test.YtaekanhjkpoifaaGreatDoorRp0
import Derived.Test.YtaekanhjkpoifaaGreatDoorRp3
namespace Go.Proofs.YtaekanhjkpoifaaGreatDoor
open Go.RowKit P
set_option linter.unusedVariables false

/-- An edit in cells: where, how many, what. -/
def Lay.edit : Lay (Int × Int × List UInt8) := Lay.pair Lay.int (Lay.pair Lay.int Lay.bytes)

/-- The cells of an edit. -/
def edC (a m : Int) (A : Option Addr) (n c : Nat) : Array Value := #[.int .i64 a, .int .i64 m, .slice A n c]

theorem bsk1 (w : World) (o : Obj) : Below w.heap.size w (w.alloc o) := (Below.refl w.heap.size w).alloc (Nat.le_refl _) o
theorem bsk4 (w : World) : Below w.heap.size w w.drew := (Below.refl w.heap.size w).drew
theorem below_skip {w w' : World} {o : Obj} (h : Below (w.alloc o).heap.size (w.alloc o) w') : Below w.heap.size w w' := below_then (bsk1 w o) h
theorem own_bs9 {w : World} {base : Nat} {A : Option Addr} {n c : Nat} {l : List UInt8} (h : Own w base (.slice A n c) l) : Bs w A l := by
 obtain ⟨A', c', e, _, _, hB⟩ := h.form
 simp only [Value.slice.injEq] at e
 rw [e.1]
 exact hB

set_option maxHeartbeats 400000 in
theorem szEdit_any (a m : Int) (A : Option Addr) (n c : Nat) (left : Int) (w : World) (hn : n ≤ 9223372036854775807) (h0 : 0 ≤ left) (h1 : left ≤ 1048576) :
  Calls Tryz.prog 93 #[.agg #[.int .i64 a, .int .i64 m, .slice A n c], .int .i64 left] w fun e w' => (∃ r : Int, e = .returned (.int .i64 r) ∧ ((r = -1 ∧ left < n) ∨ (0 ≤ r ∧ r = left - n))) ∧ Below w.heap.size w w' := by
 go_enter Tryz.func93, Tryz.ntmps93
 go_wp2_with fail
 refine (szByteS_any A n c left _ hn h0 h1).mono ?_
 rintro e w1 ⟨⟨r, rfl, hr⟩, rfl⟩
 by_cases hneg : r < 0
 ·go_wp2
  go_ret
  exact ⟨⟨_, rfl, .inl ⟨rfl, by omega⟩⟩, (Below.refl _ _).alloc (Nat.le_refl _) _⟩
 ·go_wp2
  go_ret
  exact ⟨⟨_, rfl, by omega⟩, (Below.refl _ _).alloc (Nat.le_refl _) _⟩

set_option maxHeartbeats 1000000 in
theorem eqEdit_any (a m a' m' : Int) (A B : Option Addr) (l r : List UInt8) (c d : Nat) (w : World) (hl : l.length ≤ 9223372036854775807) (hA : Bs w A l) (hB : Bs w B r) :
  Calls Tryz.prog 38 #[.agg #[.int .i64 a, .int .i64 m, .slice A l.length c], .agg #[.int .i64 a', .int .i64 m', .slice B r.length d]] w fun e w' => e = .returned (.bool (decide (a = a' ∧ m = m' ∧ l = r))) ∧ Below w.heap.size w w' := by
 have hb0 := (((Below.refl w.heap.size w).alloc (Nat.le_refl _) (.cells #[.int .i64 a, .int .i64 m, .slice A l.length c] 71))).alloc (by simp) (.cells #[.int .i64 a', .int .i64 m', .slice B r.length d] 71)
 have hA2 := hA.below hb0
 have hB2 := hB.below hb0
 by_cases h1 : a = a'
 ·by_cases h2 : m = m'
  ·subst h1; subst h2
   have e1 : (a != a) = false := by simp
   have e2 : (m != m) = false := by simp
   generalize hq : decide (l = r) = q
   have HQ := Lib.hid hq
   have HR : Hid (decide (a = a ∧ m = m ∧ l = r) = q) := Lib.hid (by rw [← hq]; simp)
   clear hq
   go_enter Tryz.func38, Tryz.ntmps38
   go_wp2_with fail
   refine (eqByteS_any A B l r c d _ hl (by exact hA2) (by exact hB2)).mono ?_
   rintro e w1 ⟨rfl, n, rfl⟩
   rw [HQ.out]
   have hfin := below_drewN hb0 n
   cases q
   all_goals
    go_wp2
    go_ret
    exact ⟨ret_bool HR.out.symm, hfin⟩
  ·have HR : Hid (decide (a = a' ∧ m = m' ∧ l = r) = false) := Lib.hid (by simp [h2])
   subst h1
   have e1 : (a != a) = false := by simp
   have e2 : (m != m') = true := by simpa using h2
   have H2 := Lib.hid h2
   clear h2
   go_enter Tryz.func38, Tryz.ntmps38
   go_wp2
   go_ret
   exact ⟨ret_bool (by simp [H2.out]), hb0⟩
 ·have HR : Hid (decide (a = a' ∧ m = m' ∧ l = r) = false) := Lib.hid (by simp [h1])
  have e1 : (a != a') = true := by simpa using h1
  go_enter Tryz.func38, Tryz.ntmps38
  go_wp2
  go_ret
  exact ⟨ret_bool HR.out.symm, hb0⟩

set_option maxHeartbeats 1000000 in
theorem toEdit_any (a m : Int) (A : Option Addr) (l : List UInt8) (c : Nat) (w : World) (hl : l.length ≤ 1048576) (h : Bs w A l) :
  Calls Tryz.prog 95 #[.agg #[.int .i64 a, .int .i64 m, .slice A l.length c]] w fun e w' => ∃ v, e = .returned (.agg #[.int .i64 a, .int .i64 m, v]) ∧ Own w' w.heap.size v l ∧ Below w.heap.size w w' := by
 go_enter Tryz.func95, Tryz.ntmps95
 go_wp2_with fail
 refine Calls.mono (toByteS_any A l c _ hl (by exact h.below (by (repeat (first | exact Below.refl _ _ | assumption | refine Below.setCell ?_ (by first | (simp; done) | (simp; omega) | omega) _ | refine Below.drew ?_ | refine below_drewN ?_ _ | refine Below.alloc ?_ (by first | (simp; done) | (simp; omega) | omega) _))))) ?_
 rintro e w1 ⟨rfl, hrow, hb⟩
 have hz := hb.size
 have hbw : Below w.heap.size w w1 := Below.trans (b := _) (by (repeat (first | exact Below.refl _ _ | assumption | refine Below.setCell ?_ (by first | (simp; done) | (simp; omega) | omega) _ | refine Below.drew ?_ | refine below_drewN ?_ _ | refine Below.alloc ?_ (by first | (simp; done) | (simp; omega) | omega) _))) (hb.mono (by simp; omega))
 have hown := Row.own hrow (w.heap.size + 3) (by simp) (by unfold maxLen; omega)
 obtain ⟨hc, hf⟩ := bcell hb
 obtain ⟨g, hg⟩ : ∃ g, (((w.alloc (Obj.cells #[Value.int IntKind.i64 a, Value.int IntKind.i64 m, Value.slice A l.length c] 90)).alloc (Obj.cells #[Value.int IntKind.i64 0, Value.int IntKind.i64 0, Value.slice none 0 0] 71)).alloc (Obj.cells #[Value.int IntKind.i64 a, Value.int IntKind.i64 m, Value.slice none 0 0] 71)).heap.size = g := ⟨_, rfl⟩
 simp at hz
 have hz3 : w.heap.size + 3 ≤ w1.heap.size := by omega
 rw [hg] at hown ⊢
 clear hrow hg
 go_wp2
 refine bodyPost_ret (v := .agg #[.int .i64 a, .int .i64 m, .slice (some ⟨g, 0, none⟩) l.length l.length]) (by simp [results, Tryz.results95, go_sem, hc]) rfl ⟨_, rfl, ?_, ?_⟩
 ·have h9 : ∀ (W : World) (i j : Nat) (u : Value), Own W (w.heap.size + 3) (.slice (some ⟨g, 0, none⟩) l.length l.length) l → j < w.heap.size + 3 → Own (W.setCell ⟨j, i, none⟩ u) (w.heap.size + 3) (.slice (some ⟨g, 0, none⟩) l.length l.length) l := fun W i j u h hj => h.setBelow (by simpa using hj) u
  refine Own.mono (base := w.heap.size + 3) ?_ (by omega)
  repeat (first | exact hown | (refine h9 _ _ _ _ ?_ (by omega)))
 ·(repeat (first | exact Below.refl _ _ | assumption | refine Below.setCell ?_ (by first | (simp; done) | (simp; omega) | omega) _ | refine Below.drew ?_ | refine below_drewN ?_ _ | refine Below.alloc ?_ (by first | (simp; done) | (simp; omega) | omega) _))

end Go.Proofs.YtaekanhjkpoifaaGreatDoor
