/-
  The draws' cursor: what holds of it, and its methods' contracts: what comes out is in range; nothing but the cursor has turned. Own work.
  The draws' cursor, its smaller methods: contracts. Own work.
  The draws' cursor: letters, places, texts: contracts. Own work.
  The draws' cursor: texts, texts with faults, and the draws of chapter 1: contracts. Own work.
  The draws' cursor: texts with faults, and the draws of chapter 1: contracts. Own work.
-/
import Derived.Test.YtgpjjolgpppeeaaOwn
import Derived.Test.YtgpjjolgpppeeaaI01f
import Derived.Test.YtgpjjolgpppeeaaApp
import Derived.Test.YtgpjjolgpppeeaaMark
namespace Go.Proofs.Ytgpjjolgpppeeaa
open Go.RowKit P
set_option linter.unusedVariables false

/-- Block g is a cursor over a code of at most 2^20 bytes, moved on at most N times. -/
def Cur (w : World) (g N : Nat) : Prop :=
  ∃ (A : Option Addr) (l : List UInt8) (c : Nat) (at_ seed : Int), w.heap[g]? = some (.cells #[.slice A l.length c, .int .i64 at_, .int .i64 seed] 146 (0, 0)) ∧
    0 ≤ at_ ∧ at_ ≤ N ∧ 0 ≤ seed ∧ seed ≤ 65520 ∧ l.length ≤ 1048576 ∧ Bs w A l ∧ ∀ b off, A = some ⟨b, off, none⟩ → 0 < l.length → b < g

/-- From w to w' only block g has turned; what is new lies behind. -/
def Only (g : Nat) (w w' : World) : Prop := w.grownBy w' (some g)

theorem Only.refl (g : Nat) (w : World) : Only g w w := World.grownBy.refl w _
theorem Only.drewN {g : Nat} {a w : World} (h : Only g a w) (n : Nat) : Only g a (w.drewN n) := ⟨h.os, h.tape, h.output, h.size, h.block⟩
theorem Only.setCell {g : Nat} {a w : World} (h : Only g a w) (i : Nat) (u : Value) : Only g a (w.setCell ⟨g, i, none⟩ u) :=
  ⟨h.os, h.tape, h.output, by simpa [World.setCell] using h.size, fun k hk hne => (Below.heap_setCell w ⟨g, i, none⟩ u k (fun e => hne (by rw [e]))).trans (h.block k hk hne)⟩
theorem Only.trans {g : Nat} {a b c : World} (h : Only g a b) (k : Only g b c) : Only g a c :=
  ⟨k.os.trans h.os, k.tape.trans h.tape, k.output.trans h.output, Nat.le_trans h.size k.size, fun i hi hne => (k.block i (Nat.lt_of_lt_of_le hi h.size) hne).trans (h.block i hi hne)⟩
theorem Only.of_below {g : Nat} {a b : World} (h : Below a.heap.size a b) : Only g a b := ⟨h.os, h.tape, h.output, h.size, fun k hk _ => h.block k hk⟩
theorem Only.below {g : Nat} {a b : World} (h : Only g a b) (B : Nat) (hB : B ≤ g) (hs : B ≤ a.heap.size) : Below B a b := ⟨h.os, h.tape, h.output, h.size, fun k hk => h.block k (by omega) (fun e => by injection e; omega)⟩
theorem Only.bs {g : Nat} {w w' : World} {A : Option Addr} {l : List UInt8} (h : Only g w w') (hB : Bs w A l) (hne : ∀ b off, A = some ⟨b, off, none⟩ → 0 < l.length → b ≠ g) : Bs w' A l := by
  intro k hk
  obtain ⟨b, off, e, hlt, hc⟩ := hB k hk
  refine ⟨b, off, e, Nat.lt_of_lt_of_le hlt h.size, ?_⟩
  rw [World.cell?_of_block (w := w) (h.block b hlt (fun x => hne b off e (by omega) (by injection x)))]
  exact hc

theorem Cur.only_new {w w' : World} {g N : Nat} (h : Cur w g N) (hb : Below w.heap.size w w') : Cur w' g N := by
  obtain ⟨A, l, c, at_, seed, hg, h1, h2, h3, h4, h5, h6, h7⟩ := h
  exact ⟨A, l, c, at_, seed, (hb.block g (Array.getElem?_eq_some_iff.1 hg).1).trans hg, h1, h2, h3, h4, h5, h6.below hb, h7⟩

theorem Cur.keep {w w' : World} {g N : Nat} (h : Cur w g N) (hk : ∀ k, k ≤ g → w'.heap[k]? = w.heap[k]?) (hs : w.heap.size ≤ w'.heap.size) : Cur w' g N := by
  obtain ⟨A, l, c, at_, seed, hg, h1, h2, h3, h4, h5, h6, h7⟩ := h
  refine ⟨A, l, c, at_, seed, (hk g (Nat.le_refl _)).trans hg, h1, h2, h3, h4, h5, fun k hkl => ?_, h7⟩
  obtain ⟨b, off, e, hlt, hc⟩ := h6 k hkl
  have hb := h7 b off e (by omega)
  exact ⟨b, off, e, Nat.lt_of_lt_of_le hlt hs, (World.cell?_of_block (w := w) (hk b (by omega))).trans hc⟩

theorem Cur.mono {w : World} {g N M : Nat} (h : Cur w g N) (hM : N ≤ M) : Cur w g M := by
  obtain ⟨A, l, c, at_, seed, hg, h1, h2, h3, h4, h5, h6, h7⟩ := h
  exact ⟨A, l, c, at_, seed, hg, h1, by omega, h3, h4, h5, h6, h7⟩

/-- What a draw of a number below n ends in. -/
def Picks (g N : Nat) (n : Int) (w : World) (e : Ending) (w' : World) : Prop := ∃ x : Int, e = .returned (.int .i64 x) ∧ 0 ≤ x ∧ (x < n ∨ (n < 2 ∧ x = 0)) ∧ Cur w' g (N + 1) ∧ Only g w w'

theorem emod_bd (x n : Int) (h : 2 ≤ n) : 0 ≤ x % n ∧ x % n < n := ⟨Int.emod_nonneg _ (by omega), Int.emod_lt_of_pos _ (by omega)⟩

set_option maxHeartbeats 2000000 in
theorem pick_any (g N : Nat) (n : Int) (w : World) (hn : n ≤ 1000000000) (hN : N ≤ 1000000000000) (h : Cur w g N) :
    Calls Try.prog 60 #[.pointer (some ⟨g, 0, none⟩), .int .i64 n] w (Picks g N n w) := by
  obtain ⟨A, l, c, at_, seed, hg, h1, h2, h3, h4, h5, h6, h7⟩ := h
  by_cases hlt : n < 2
  · go_enter Try.func60, Try.ntmps60
    go_wp2
    go_ret
    exact ⟨0, rfl, by omega, .inr ⟨hlt, rfl⟩, ⟨A, l, c, at_, seed, hg, h1, by omega, h3, h4, h5, h6, h7⟩, Only.refl _ _⟩
  · have c0 : w.cell? ⟨g, 0, none⟩ = some (.slice A l.length c) := by rw [cell_of_row w g 0 _ _ _ hg]; rfl
    have c1 : w.cell? ⟨g, 1, none⟩ = some (.int .i64 at_) := by rw [cell_of_row w g 1 _ _ _ hg]; rfl
    have c2 : w.cell? ⟨g, 2, none⟩ = some (.int .i64 seed) := by rw [cell_of_row w g 2 _ _ _ hg]; rfl
    have f1 : w.frozen? ⟨g, 1, none⟩ = false := by simp [World.frozen?, hg]
    have f2 : w.frozen? ⟨g, 2, none⟩ = false := by simp [World.frozen?, hg]
    obtain ⟨k, rfl⟩ := Int.eq_ofNat_of_zero_le h1
    have hg1 : (w.setCell ⟨g, 1, none⟩ (.int .i64 ((k : Int) + 1))).heap[g]? = some (.cells #[.slice A l.length c, .int .i64 ((k : Int) + 1), .int .i64 seed] 146 (0, 0)) := by
      simp [World.setCell, Array.getElem?_modify, hg]
    by_cases hk : k < l.length
    · obtain ⟨b, off, rfl, hbl, hc⟩ := h6 k hk
      have hbg := Nat.ne_of_lt (h7 b off rfl (by omega))
      have hu := (l[k]).toNat_lt
      have hkl : (k : Int) < (l.length : Int) := by omega
      have hbd := emod_bd ((l[k]).toNat : Int) n (by omega)
      have hcur : Cur (w.setCell ⟨g, 1, none⟩ (.int .i64 ((k : Int) + 1))) g (N + 1) :=
        ⟨_, l, c, _, seed, hg1, by omega, by omega, h3, h4, h5, (Only.refl g w |>.setCell 1 _).bs h6 (fun b off e h => Nat.ne_of_lt (h7 b off e h)), h7⟩
      have HC := Lib.hid hcur
      clear hcur hg1 hg h7 h6
      go_enter Try.func60, Try.ntmps60
      go_wp2
      go_quiet (fail)
      go_wp2
      go_quiet (fail)
      go_wp2
      go_ret
      exact ⟨_, rfl, hbd.1, .inl hbd.2, HC.out, ((Only.refl g w).drewN _).setCell 1 _⟩
    · have hkl : ¬ (k : Int) < (l.length : Int) := by omega
      obtain ⟨s2, hs2⟩ : ∃ s2 : Int, (seed * 1103 + 12345) % 65521 = s2 := ⟨_, rfl⟩
      have hb2 := emod_bd (seed * 1103 + 12345) 65521 (by omega)
      rw [hs2] at hb2
      have hg2 : ((w.setCell ⟨g, 2, none⟩ (.int .i64 s2)).setCell ⟨g, 1, none⟩ (.int .i64 ((k : Int) + 1))).heap[g]? = some (.cells #[.slice A l.length c, .int .i64 ((k : Int) + 1), .int .i64 s2] 146 (0, 0)) := by
        simp [World.setCell, Array.getElem?_modify, hg]
      have hcur : Cur ((w.setCell ⟨g, 2, none⟩ (.int .i64 s2)).setCell ⟨g, 1, none⟩ (.int .i64 ((k : Int) + 1))) g (N + 1) :=
        ⟨A, l, c, _, s2, hg2, by omega, by omega, by omega, by omega, h5, (((Only.refl g w).setCell 2 _).setCell 1 _).bs h6 (fun b off e h => Nat.ne_of_lt (h7 b off e h)), h7⟩
      have HC := Lib.hid hcur
      by_cases h0 : l.length = 0
      · have h00 : ¬ 0 < (l.length : Int) := by omega
        have hz : (0 : Int) % n = 0 := Int.zero_emod n
        clear hcur hg1 hg2 hg h7 h6 h0
        go_enter Try.func60, Try.ntmps60
        go_wp2
        go_quiet (fail)
        go_wp2
        go_ret
        exact ⟨0, rfl, by omega, .inl (by omega), HC.out, (((Only.refl g w).drewN _).setCell 2 _).setCell 1 _⟩
      · have hpos : 0 < (l.length : Int) := by omega
        have hm := emod_bd (k : Int) (l.length : Int)
        obtain ⟨m, hme, hml⟩ : ∃ m : Nat, (k : Int) % (l.length : Int) = (m : Int) ∧ m < l.length := by
          refine ⟨k % l.length, by omega, Nat.mod_lt _ (by omega)⟩
        obtain ⟨b, off, rfl, hbl, hc⟩ := h6 m hml
        have hbg := Nat.ne_of_lt (h7 b off rfl (by omega))
        have hu := (l[m]).toNat_lt
        obtain ⟨bn, hbn⟩ : ∃ bn : Int, bn = (l[m]).toNat := ⟨_, rfl⟩
        rw [← hbn] at hc
        have hbn1 : 0 ≤ bn ∧ bn ≤ 255 := by omega
        have hbd := emod_bd (s2 / 7 + bn) n (by omega)
        have hsum : IntKind.i64.wrap (s2 / 7 + bn) = s2 / 7 + bn := IntWalk.i64_in _ ⟨by omega, by omega⟩
        have hml' : (m : Int) < (l.length : Int) := by omega
        have hx0 : 0 ≤ s2 / 7 + bn := by omega
        have hne : ¬ (l.length : Int) = 0 := by omega
        clear hcur hg1 hg2 hg h7 h6 h0 hbn hu hm
        go_enter Try.func60, Try.ntmps60
        go_wp2
        go_quiet (fail)
        go_wp2
        go_quiet (fail)
        go_wp2
        go_ret
        exact ⟨_, rfl, hbd.1, .inl hbd.2, HC.out, ((((Only.refl g w).drewN _).setCell 2 _).drewN _).setCell 1 _⟩
end Go.Proofs.Ytgpjjolgpppeeaa

namespace Go.Proofs.Ytgpjjolgpppeeaa
open Go.RowKit P
set_option linter.unusedVariables false

/-- What a draw of a number from a to b ends in. -/
def Draws (g N : Nat) (a b : Int) (w : World) (e : Ending) (w' : World) : Prop := ∃ x : Int, e = .returned (.int .i64 x) ∧ a ≤ x ∧ x ≤ b ∧ Cur w' g N ∧ Only g w w'

theorem pick_draws (g N : Nat) (n : Int) (w : World) (h1 : 1 ≤ n) (hn : n ≤ 1000000000) (hN : N ≤ 1000000000000) (h : Cur w g N) :
    Calls Try.prog 60 #[.pointer (some ⟨g, 0, none⟩), .int .i64 n] w (Draws g (N + 1) 0 (n - 1) w) :=
  (pick_any g N n w hn hN h).mono fun e w' ⟨x, he, h0, h1', hc, ho⟩ => ⟨x, he, h0, by omega, hc, ho⟩

set_option maxHeartbeats 1000000 in
theorem size_any (g N : Nat) (n : Int) (w : World) (h0 : 0 ≤ n) (hn : n ≤ 1000) (hN : N ≤ 100000000000) (h : Cur w g N) :
    Calls Try.prog 120 #[.pointer (some ⟨g, 0, none⟩), .int .i64 n] w (Draws g (N + 1) 0 n w) := by
  have h' := h
  obtain ⟨A, l, c, at_, seed, hg, h1, h2, h3, h4, h5, h6, h7⟩ := h
  have c0 : w.cell? ⟨g, 0, none⟩ = some (.slice A l.length c) := by rw [cell_of_row w g 0 _ _ _ hg]; rfl
  clear hg h6 h7 h1 h2 h3 h4
  go_enter Try.func120, Try.ntmps120
  go_wp2_with (go_at_call 60; refine (pick_any g N _ _ (by omega) (by omega) (by exact h')).mono ?_; rintro e w1 ⟨x, rfl, hx0, hx1, hc, ho⟩)
  all_goals go_ret
  all_goals exact ⟨_, rfl, by assumption, by omega, by assumption, by assumption⟩

set_option maxHeartbeats 400000 in
theorem once_any (g N : Nat) (n : Int) (w : World) (h0 : 1 ≤ n) (hn : n ≤ 1000) (hN : N ≤ 100000000000) (h : Cur w g N) :
    Calls Try.prog 72 #[.pointer (some ⟨g, 0, none⟩), .int .i64 n] w fun e w' => ∃ b : Bool, e = .returned (.bool b) ∧ Cur w' g (N + 1) ∧ Only g w w' := by
  go_enter Try.func72, Try.ntmps72
  go_wp2_with fail
  refine (pick_any g N _ _ (by omega) (by omega) (by exact h)).mono ?_
  rintro e w1 ⟨x, rfl, hx0, hx1, hc, ho⟩
  go_wp2
  go_ret
  exact ⟨_, rfl, hc, ho⟩

theorem Cur.lt {w : World} {g N : Nat} (h : Cur w g N) : g < w.heap.size := by
  obtain ⟨A, l, c, at_, seed, hg, _⟩ := h
  exact (Array.getElem?_eq_some_iff.1 hg).1

/-- A row that was laid ahead of a draw reads as it was laid. -/
theorem Only.row {w1 w2 : World} {g : Nat} {cs : Array Value} {t : TypeId} (ho : Only g (w1.alloc (.cells cs t)) w2) (hg : g < w1.heap.size) (k : Nat) : w2.cell? ⟨w1.heap.size, k, none⟩ = cs[k]? := by
  have h := ho.block w1.heap.size (by simp) (fun e => by injection e; omega)
  rw [heap_alloc_new] at h
  exact cell_of_row w2 _ k cs t (0, 0) h

theorem Only.of_alloc {w1 w2 : World} {g : Nat} {o : Obj} (ho : Only g (w1.alloc o) w2) : Only g w1 w2 :=
  (Only.of_below ((Below.refl _ _).alloc (Nat.le_refl _) o)).trans ho
theorem Cur.alloc {w : World} {g N : Nat} (h : Cur w g N) (o : Obj) : Cur (w.alloc o) g N := h.only_new ((Below.refl _ _).alloc (Nat.le_refl _) o)

set_option maxHeartbeats 2000000 in
theorem raw_any (g N : Nat) (w : World) (hN : N ≤ 100000000000) (h : Cur w g N) :
    Calls Try.prog 61 #[.pointer (some ⟨g, 0, none⟩)] w (Draws g (N + 2) (-9223372036854775808) 9223372036854775807 w) := by
  go_enter Try.func61, Try.ntmps61
  go_wp2_with fail
  refine (pick_draws g N _ _ (by omega) (by omega) (by omega) (by exact h)).mono ?_
  rintro e w1 ⟨x, rfl, hx0, hx1, hc1, ho1⟩
  by_cases hx2 : x = 1
  · subst hx2
    go_wp2_with fail
    refine (pick_draws g (N + 1) _ _ (by omega) (by omega) (by omega) (by exact hc1.alloc _)).mono ?_
    rintro e w2 ⟨y, rfl, hy0, hy1, hc2, ho2⟩
    obtain ⟨k, rfl⟩ := Int.eq_ofNat_of_zero_le hy0
    have hrow := ho2.row hc1.lt k
    obtain ⟨v, hv, v1, v2⟩ : ∃ v : Int, w2.cell? ⟨w1.heap.size, k, none⟩ = some (.int .i64 v) ∧ -9223372036854775808 ≤ v ∧ v ≤ 9223372036854775807 := by
      rw [hrow]
      match k, (show k < 8 by omega) with
      | 0, _ => exact ⟨_, rfl, by decide, by decide⟩
      | 1, _ => exact ⟨_, rfl, by decide, by decide⟩
      | 2, _ => exact ⟨_, rfl, by decide, by decide⟩
      | 3, _ => exact ⟨_, rfl, by decide, by decide⟩
      | 4, _ => exact ⟨_, rfl, by decide, by decide⟩
      | 5, _ => exact ⟨_, rfl, by decide, by decide⟩
      | 6, _ => exact ⟨_, rfl, by decide, by decide⟩
      | 7, _ => exact ⟨_, rfl, by decide, by decide⟩
    clear hrow
    have ho3 := ho1.trans ho2.of_alloc
    go_wp2
    go_ret
    exact ⟨v, rfl, v1, v2, hc2, ho3⟩
  · have hx3 : (x == 1) = false := by simp [hx2]
    go_wp2_with (go_at_call 60; refine (pick_draws g (N + 1) _ _ (by omega) (by omega) (by omega) (by exact hc1)).mono ?_; rintro e w2 ⟨y, rfl, hy0, hy1, hc2, ho2⟩; have ho3 := ho1.trans ho2)
    all_goals go_ret
    all_goals exact ⟨_, rfl, by omega, by omega, by assumption, by assumption⟩
end Go.Proofs.Ytgpjjolgpppeeaa

namespace Go.Proofs.Ytgpjjolgpppeeaa
open Go.RowKit P
set_option linter.unusedVariables false

set_option maxHeartbeats 2000000 in
theorem rune_any (g N : Nat) (w : World) (hN : N ≤ 10000000000) (h : Cur w g N) :
    Calls Try.prog 156 #[.pointer (some ⟨g, 0, none⟩)] w (Draws g (N + 3) 0 200000 w) := by
  go_enter Try.func156, Try.ntmps156
  go_wp2_with fail
  refine (pick_draws g N _ _ (by omega) (by omega) (by omega) (by exact h)).mono ?_
  rintro e w1 ⟨x, rfl, hx0, hx1, hc1, ho1⟩
  go_wp2_with fail
  refine (pick_draws g (N + 1) _ _ (by omega) (by omega) (by omega) (by exact hc1)).mono ?_
  rintro e w2 ⟨y, rfl, hy0, hy1, hc2, ho2⟩
  have ho2 := ho1.trans ho2
  go_wp2_with fail
  refine (pick_draws g (N + 2) _ _ (by omega) (by omega) (by omega) (by exact hc2.alloc _)).mono ?_
  rintro e w3 ⟨z, rfl, hz0, hz1, hc3, ho3⟩
  obtain ⟨k, rfl⟩ := Int.eq_ofNat_of_zero_le hz0
  have hrow := ho3.row hc2.lt k
  obtain ⟨v, hv, v1, v2⟩ : ∃ v : Int, w3.cell? ⟨w2.heap.size, k, none⟩ = some (.int .i64 v) ∧ 0 ≤ v ∧ v ≤ 200000 := by
    rw [hrow]
    match k, (show k < 14 by omega) with
    | 0, _ => exact ⟨_, rfl, by omega, by omega⟩
    | 1, _ => exact ⟨_, rfl, by omega, by omega⟩
    | 2, _ => exact ⟨_, rfl, by omega, by omega⟩
    | 3, _ => exact ⟨_, rfl, by omega, by omega⟩
    | 4, _ => exact ⟨_, rfl, by omega, by omega⟩
    | 5, _ => exact ⟨_, rfl, by omega, by omega⟩
    | 6, _ => exact ⟨_, rfl, by omega, by omega⟩
    | 7, _ => exact ⟨_, rfl, by omega, by omega⟩
    | 8, _ => exact ⟨_, rfl, by omega, by omega⟩
    | 9, _ => exact ⟨_, rfl, by omega, by omega⟩
    | 10, _ => exact ⟨_, rfl, by omega, by omega⟩
    | 11, _ => exact ⟨_, rfl, by omega, by omega⟩
    | 12, _ => exact ⟨_, rfl, by omega, by omega⟩
    | 13, _ => exact ⟨_, rfl, by omega, by omega⟩
  clear hrow
  have ho4 := ho2.trans ho3.of_alloc
  go_wp2
  go_ret
  exact ⟨v, rfl, v1, v2, hc3, ho4⟩

/-- Where a cursor is opened. -/
def Opens (w : World) (e : Ending) (w' : World) : Prop := e = .returned (.pointer (some ⟨w.heap.size, 0, none⟩)) ∧ Cur w' w.heap.size 0 ∧ Below w.heap.size w w'

set_option maxHeartbeats 1000000 in
theorem l01Open_any (A : Option Addr) (l : List UInt8) (c : Nat) (w : World) (hl : l.length ≤ 1048576) (hA : Bs w A l) :
    Calls Try.prog 58 #[.slice A l.length c] w (Opens w) := by
  have hm : ((l.length : Int) % 1000) = ((l.length % 1000 : Nat) : Int) := by omega
  have HM := Lib.hid hm
  clear hm
  go_enter Try.func58, Try.ntmps58
  go_wp2
  go_ret
  refine ⟨rfl, ⟨A, l, c, 0, 97 + (l.length : Int) % 1000, ?_, Int.le_refl _, Int.le_refl _, by omega, by omega, hl, ?_, ?_⟩, (Below.refl _ _).alloc (Nat.le_refl _) _⟩
  · exact heap_alloc_new w _
  · exact hA.below ((Below.refl _ _).alloc (Nat.le_refl _) _)
  · intro b off e h0
    obtain ⟨b', off', e', hlt, _⟩ := hA 0 h0
    rw [e] at e'
    cases e'
    omega

end Go.Proofs.Ytgpjjolgpppeeaa

namespace Go.Proofs.Ytgpjjolgpppeeaa
open Go.RowKit P
set_option linter.unusedVariables false

/-- What a draw of bytes ends in: a new slice of at most n bytes. -/
def DrawsB (g N : Nat) (n : Nat) (w : World) (e : Ending) (w' : World) : Prop :=
  ∃ v l, e = .returned v ∧ Own w' w.heap.size v l ∧ l.length ≤ n ∧ Cur w' g N ∧ Only g w w'

theorem Own.only {w w' : World} {g base : Nat} {v : Value} {l : List UInt8} (h : Own w base v l) (ho : Only g w w') (hb : g < base) : Own w' base v l := by
  refine World.ownsRow.kept (w' := w') (row := some g) h ho ?_
  cases hv : v.ownBlock with
  | none => exact .inl rfl
  | some k =>
    have := (World.ownsRow.lt h k hv).1
    right
    intro e
    injection e with e
    omega

/-- A row of the call's own has grown: of what was there before nothing has turned. -/
theorem Only.grown {g base : Nat} {a w w' : World} {v : Value} {l : List UInt8} (h : Only g a w) (hown : Own w base v l) (hg : w.grownBy w' v.ownBlock) (hb : a.heap.size ≤ base) : Only g a w' :=
  ⟨hg.os.trans h.os, hg.tape.trans h.tape, hg.output.trans h.output, Nat.le_trans h.size hg.size, fun k hk hne =>
    (hg.block k (Nat.lt_of_lt_of_le hk h.size) (fun e => by have := (World.ownsRow.lt hown k e.symm).1; omega)).trans (h.block k hk hne)⟩

theorem Cur.grown {g N base : Nat} {w w' : World} {v : Value} {l : List UInt8} (h : Cur w g N) (hown : Own w base v l) (hg : w.grownBy w' v.ownBlock) (hb : g < base) : Cur w' g N :=
  h.keep (fun k hk => hg.block k (by have := h.lt; omega) (fun e => by have := (World.ownsRow.lt hown k e.symm).1; omega)) hg.size

theorem enc_le (x : Int) : (enc x).length ≤ 4 := by rw [enc_length]; exact codeSz_le x

set_option maxHeartbeats 2000000 in
theorem text_any (g N n : Nat) (w : World) (hn : n ≤ 1000) (hN : N ≤ 100000) (h : Cur w g N) :
    Calls Try.prog 122 #[.pointer (some ⟨g, 0, none⟩), .int .i64 n] w (DrawsB g (N + 1 + 3 * n) n w) := by
  have hglt := h.lt
  go_enter Try.func122, Try.ntmps122
  go_wp2_with fail
  refine (size_any g N _ _ (by omega) (by omega) (by omega) (by exact h.alloc _)).mono ?_
  rintro e w1 ⟨x, rfl, hx0, hx1, hc1, ho1⟩
  obtain ⟨j0, rfl⟩ := Int.eq_ofNat_of_zero_le hx0
  have hj0 : j0 ≤ n := by omega
  have hown0 : Own (w.alloc (.cells #[] 5)) w.heap.size (.slice (some ⟨w.heap.size, 0, none⟩) 0 0) [] := World.ownsRow_made w #[] 0 (Nat.le_refl _) (by unfold maxLen; omega) rfl
  have hown1 := hown0.only ho1 hglt
  have ho1' := ho1.of_alloc
  clear hown0 ho1 hx0 hx1
  go_wp2
  go_loopw [5, 6] (fun out kk wr => ∃ (j : Nat) (L : List UInt8), kk = .int .i64 j ∧ j ≤ n ∧ Own wr w.heap.size out L ∧ L.length ≤ 4 * (n - j) ∧ Cur wr g (N + 1 + 3 * (n - j)) ∧ Only g w wr) (fun _ kk _ => (intOf kk).toNat)
  case atStart => exact ⟨j0, [], rfl, hj0, hown1, by simp, hc1.mono (by omega), ho1'⟩
  case round =>
    obtain ⟨j, L, rfl, hjn, hown, hL, hcur, honly⟩ := hrel
    by_cases hj : 0 < j
    · go_wp2_with fail
      refine (rune_any g (N + 1 + 3 * (n - j)) _ (by omega) (by exact hcur)).mono ?_
      rintro e w2 ⟨x, rfl, hx0, hx1, hc2, ho2⟩
      have hown2 := hown.only ho2 hglt
      have ho2 := honly.trans ho2
      go_wp2_with fail
      refine (specRuneBytes_any x _).mono ?_
      rintro e w3 ⟨v3, rfl, hown3, hb3⟩
      have hown23 := hown2.below hb3
      have hc3 := hc2.only_new hb3
      have ho3 := ho2.trans (Only.of_below hb3)
      have hle := enc_le x
      obtain ⟨A3, c3, rfl, _, _, hB3⟩ := hown3.form
      generalize enc x = E at *
      have hs3 := ho3.size
      clear hown hown2 hown3 hb3 ho2 honly hc2 hcur hc1 ho1' hown1
      go_wp2_with (at_builtin; go_must (refine wpList_app_bytes rfl _ _ rfl w.heap.size _ L E A3 _ c3 rfl rfl rfl hown23 hB3 ?c1 ?c2 ?_))
      case c1 => omega
      case c2 => exact hs3
      intro v4 w4 hown4 hg4 _
      have hc4 := hc3.grown hown23 hg4 hglt
      have ho4 := ho3.grown hown23 hg4 (Nat.le_refl _)
      go_wp2
      go_roundw
      case rel => exact ⟨j - 1, L ++ E, by go_num, by omega, hown4, by rw [List.length_append]; omega, hc4.mono (by omega), ho4⟩
      case measure => simp [intOf]; omega
    · have hj0 : j = 0 := by omega
      subst hj0
      have hfin := hcur.mono (M := N + 1 + 3 * n) (by omega)
      by_cases hbig : (n : Int) < (L.length : Int)
      · rcases hown.2 with ⟨_, h0⟩ | ⟨gb, cap, cur, rfl, hb, hh, hnc, hcm, hcs, htk⟩
        · omega
        · have hcap : ¬ cap = 0 := by omega
          have hempty : Own wr w.heap.size (.slice (some ⟨gb, 0, none⟩) 0 cap) [] := ⟨rfl, .inr ⟨gb, cap, cur, rfl, hb, hh, Nat.zero_le _, hcm, hcs, by simp⟩⟩
          have hcz : (0 : Int) ≤ (cap : Int) := by omega
          clear htk hh hcs
          go_wp2
          go_ret
          exact ⟨_, [], rfl, hempty, by simp, hfin, honly⟩
      · obtain ⟨A, c, rfl, _, _, _⟩ := hown.form
        go_wp2
        go_ret
        exact ⟨_, L, rfl, hown, by omega, hfin, honly⟩
end Go.Proofs.Ytgpjjolgpppeeaa

namespace Go.Proofs.Ytgpjjolgpppeeaa
open Go.RowKit P
set_option linter.unusedVariables false

theorem Only.setOwn {g base gb i : Nat} {a w : World} (h : Only g a w) (hb : base ≤ gb) (ha : a.heap.size ≤ base) (u : Value) : Only g a (w.setCell ⟨gb, i, none⟩ u) :=
  ⟨h.os, h.tape, h.output, by simpa [World.setCell] using h.size, fun k hk hne => (Below.heap_setCell w ⟨gb, i, none⟩ u k (fun e => by simp at e; omega)).trans (h.block k hk hne)⟩

theorem Cur.setOwn {g N gb i : Nat} {w : World} (h : Cur w g N) (hb : g < gb) (u : Value) : Cur (w.setCell ⟨gb, i, none⟩ u) g N :=
  h.keep (fun k hk => Below.heap_setCell w ⟨gb, i, none⟩ u k (fun e => by simp at e; omega)) (by simp [World.setCell])

/-- What a draw of bytes and a place ends in. -/
def DrawsP (w : World) (e : Ending) (w' : World) : Prop :=
  ∃ v l a, e = .returned (.tuple #[v, .int .i64 a]) ∧ Own w' w.heap.size v l ∧ l.length ≤ 401 ∧ -9223372036854775808 ≤ a ∧ a ≤ 9223372036854775807 ∧ Below w.heap.size w w'

set_option maxHeartbeats 400000 in
theorem big_any (A : Option Addr) (n c : Nat) (w : World) : Calls Try.prog 18 #[.slice A n c] w fun e w' => e = .returned (.bool (decide (1048576 < n))) ∧ w' = w := by
  go_enter Try.func18, Try.ntmps18
  go_wp2
  go_ret
  exact ⟨ret_bool (by rw [Bool.eq_iff_iff]; simp; omega), rfl⟩

end Go.Proofs.Ytgpjjolgpppeeaa
