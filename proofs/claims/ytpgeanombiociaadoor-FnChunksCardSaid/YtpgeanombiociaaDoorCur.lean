/-
  The draws' cursor: what holds of it, and its methods' contracts: what comes out is in range; nothing but the cursor has turned. Own work.
-/
import Derived.Test.YtpgeanombiociaaDoorOwn
namespace Go.Proofs.YtpgeanombiociaaDoor
open Go.RowKit P
set_option linter.unusedVariables false

/-- Block g is a cursor over a code of at most 2^20 bytes, moved on at most N times. -/
def Cur (w : World) (g N : Nat) : Prop :=
  ∃ (A : Option Addr) (l : List UInt8) (c : Nat) (at_ seed : Int), w.heap[g]? = some (.cells #[.slice A l.length c, .int .i64 at_, .int .i64 seed] 77 (0, 0)) ∧
    0 ≤ at_ ∧ at_ ≤ N ∧ 0 ≤ seed ∧ seed ≤ 65520 ∧ l.length ≤ 1048576 ∧ Bs w A l ∧ ∀ b off, A = some ⟨b, off, none⟩ → 0 < l.length → b < g

/-- From w to w' only block g has turned; what is new lies behind. -/
def Only (g : Nat) (w w' : World) : Prop := w.grownBy w' (some g)

theorem Only.refl (g : Nat) (w : World) : Only g w w := World.grownBy.refl w _
theorem Only.drewN {g : Nat} {a w : World} (h : Only g a w) (n : Nat) : Only g a (w.drewN n) := ⟨h.os, h.tape, h.output, h.size, h.block⟩
theorem Only.setCell {g : Nat} {a w : World} (h : Only g a w) (i : Nat) (u : Value) : Only g a (w.setCell ⟨g, i, none⟩ u) :=
  ⟨h.os, h.tape, h.output, by simpa [World.setCell] using h.size, fun k hk hne => (Below.heap_setCell w ⟨g, i, none⟩ u k (fun e => hne (by rw [e]))).trans (h.block k hk hne)⟩
theorem Only.trans {g : Nat} {a b c : World} (h : Only g a b) (k : Only g b c) : Only g a c :=
  ⟨k.os.trans h.os, k.tape.trans h.tape, k.output.trans h.output, Nat.le_trans h.size k.size, fun i hi hne => (k.block i (Nat.lt_of_lt_of_le hi h.size) hne).trans (h.block i hi hne)⟩
theorem Only.of_below {g : Nat} {a b : World} (h : Below a.heap.size a b) : Only g a b := ⟨h.os, h.tape, h.output, h.size, fun k hk _ => h.block k hk⟩
theorem Only.below {g : Nat} {a b : World} (h : Only g a b) (B : Nat) (hB : B ≤ g) (hs : B ≤ a.heap.size) : Below B a b := ⟨h.os, h.tape, h.output, h.size, fun k hk => h.block k (by omega) (fun e => by injection e; omega)⟩
theorem Only.bs {g : Nat} {w w' : World} {A : Option Addr} {l : List UInt8} (h : Only g w w') (hB : Bs w A l) (hne : ∀ b off, A = some ⟨b, off, none⟩ → 0 < l.length → b ≠ g) : Bs w' A l := by
  intro k hk
  obtain ⟨b, off, e, hlt, hc⟩ := hB k hk
  refine ⟨b, off, e, Nat.lt_of_lt_of_le hlt h.size, ?_⟩
  rw [World.cell?_of_block (w := w) (h.block b hlt (fun x => hne b off e (by omega) (by injection x)))]
  exact hc

theorem Cur.only_new {w w' : World} {g N : Nat} (h : Cur w g N) (hb : Below w.heap.size w w') : Cur w' g N := by
  obtain ⟨A, l, c, at_, seed, hg, h1, h2, h3, h4, h5, h6, h7⟩ := h
  exact ⟨A, l, c, at_, seed, (hb.block g (Array.getElem?_eq_some_iff.1 hg).1).trans hg, h1, h2, h3, h4, h5, h6.below hb, h7⟩

theorem Cur.keep {w w' : World} {g N : Nat} (h : Cur w g N) (hk : ∀ k, k ≤ g → w'.heap[k]? = w.heap[k]?) (hs : w.heap.size ≤ w'.heap.size) : Cur w' g N := by
  obtain ⟨A, l, c, at_, seed, hg, h1, h2, h3, h4, h5, h6, h7⟩ := h
  refine ⟨A, l, c, at_, seed, (hk g (Nat.le_refl _)).trans hg, h1, h2, h3, h4, h5, fun k hkl => ?_, h7⟩
  obtain ⟨b, off, e, hlt, hc⟩ := h6 k hkl
  have hb := h7 b off e (by omega)
  exact ⟨b, off, e, Nat.lt_of_lt_of_le hlt hs, (World.cell?_of_block (w := w) (hk b (by omega))).trans hc⟩

theorem Cur.mono {w : World} {g N M : Nat} (h : Cur w g N) (hM : N ≤ M) : Cur w g M := by
  obtain ⟨A, l, c, at_, seed, hg, h1, h2, h3, h4, h5, h6, h7⟩ := h
  exact ⟨A, l, c, at_, seed, hg, h1, by omega, h3, h4, h5, h6, h7⟩

/-- What a draw of a number below n ends in. -/
def Picks (g N : Nat) (n : Int) (w : World) (e : Ending) (w' : World) : Prop := ∃ x : Int, e = .returned (.int .i64 x) ∧ 0 ≤ x ∧ (x < n ∨ (n < 2 ∧ x = 0)) ∧ Cur w' g (N + 1) ∧ Only g w w'

theorem emod_bd (x n : Int) (h : 2 ≤ n) : 0 ≤ x % n ∧ x % n < n := ⟨Int.emod_nonneg _ (by omega), Int.emod_lt_of_pos _ (by omega)⟩

set_option maxHeartbeats 2000000 in
theorem pick_any (g N : Nat) (n : Int) (w : World) (hn : n ≤ 1000000000) (hN : N ≤ 1000000000000) (h : Cur w g N) :
    Calls Tryd.prog 55 #[.pointer (some ⟨g, 0, none⟩), .int .i64 n] w (Picks g N n w) := by
  obtain ⟨A, l, c, at_, seed, hg, h1, h2, h3, h4, h5, h6, h7⟩ := h
  by_cases hlt : n < 2
  · go_enter Tryd.func55, Tryd.ntmps55
    go_wp2
    go_ret
    exact ⟨0, rfl, by omega, .inr ⟨hlt, rfl⟩, ⟨A, l, c, at_, seed, hg, h1, by omega, h3, h4, h5, h6, h7⟩, Only.refl _ _⟩
  · have c0 : w.cell? ⟨g, 0, none⟩ = some (.slice A l.length c) := by rw [cell_of_row w g 0 _ _ _ hg]; rfl
    have c1 : w.cell? ⟨g, 1, none⟩ = some (.int .i64 at_) := by rw [cell_of_row w g 1 _ _ _ hg]; rfl
    have c2 : w.cell? ⟨g, 2, none⟩ = some (.int .i64 seed) := by rw [cell_of_row w g 2 _ _ _ hg]; rfl
    have f1 : w.frozen? ⟨g, 1, none⟩ = false := by simp [World.frozen?, hg]
    have f2 : w.frozen? ⟨g, 2, none⟩ = false := by simp [World.frozen?, hg]
    obtain ⟨k, rfl⟩ := Int.eq_ofNat_of_zero_le h1
    have hg1 : (w.setCell ⟨g, 1, none⟩ (.int .i64 ((k : Int) + 1))).heap[g]? = some (.cells #[.slice A l.length c, .int .i64 ((k : Int) + 1), .int .i64 seed] 77 (0, 0)) := by
      simp [World.setCell, Array.getElem?_modify, hg]
    by_cases hk : k < l.length
    · obtain ⟨b, off, rfl, hbl, hc⟩ := h6 k hk
      have hbg := Nat.ne_of_lt (h7 b off rfl (by omega))
      have hu := (l[k]).toNat_lt
      have hkl : (k : Int) < (l.length : Int) := by omega
      have hbd := emod_bd ((l[k]).toNat : Int) n (by omega)
      have hcur : Cur (w.setCell ⟨g, 1, none⟩ (.int .i64 ((k : Int) + 1))) g (N + 1) :=
        ⟨_, l, c, _, seed, hg1, by omega, by omega, h3, h4, h5, (Only.refl g w |>.setCell 1 _).bs h6 (fun b off e h => Nat.ne_of_lt (h7 b off e h)), h7⟩
      have HC := Lib.hid hcur
      clear hcur hg1 hg h7 h6
      go_enter Tryd.func55, Tryd.ntmps55
      go_wp2
      go_quiet (fail)
      go_wp2
      go_quiet (fail)
      go_wp2
      go_ret
      exact ⟨_, rfl, hbd.1, .inl hbd.2, HC.out, ((Only.refl g w).drewN _).setCell 1 _⟩
    · have hkl : ¬ (k : Int) < (l.length : Int) := by omega
      obtain ⟨s2, hs2⟩ : ∃ s2 : Int, (seed * 1103 + 12345) % 65521 = s2 := ⟨_, rfl⟩
      have hb2 := emod_bd (seed * 1103 + 12345) 65521 (by omega)
      rw [hs2] at hb2
      have hg2 : ((w.setCell ⟨g, 2, none⟩ (.int .i64 s2)).setCell ⟨g, 1, none⟩ (.int .i64 ((k : Int) + 1))).heap[g]? = some (.cells #[.slice A l.length c, .int .i64 ((k : Int) + 1), .int .i64 s2] 77 (0, 0)) := by
        simp [World.setCell, Array.getElem?_modify, hg]
      have hcur : Cur ((w.setCell ⟨g, 2, none⟩ (.int .i64 s2)).setCell ⟨g, 1, none⟩ (.int .i64 ((k : Int) + 1))) g (N + 1) :=
        ⟨A, l, c, _, s2, hg2, by omega, by omega, by omega, by omega, h5, (((Only.refl g w).setCell 2 _).setCell 1 _).bs h6 (fun b off e h => Nat.ne_of_lt (h7 b off e h)), h7⟩
      have HC := Lib.hid hcur
      by_cases h0 : l.length = 0
      · have h00 : ¬ 0 < (l.length : Int) := by omega
        have hz : (0 : Int) % n = 0 := Int.zero_emod n
        clear hcur hg1 hg2 hg h7 h6 h0
        go_enter Tryd.func55, Tryd.ntmps55
        go_wp2
        go_quiet (fail)
        go_wp2
        go_ret
        exact ⟨0, rfl, by omega, .inl (by omega), HC.out, (((Only.refl g w).drewN _).setCell 2 _).setCell 1 _⟩
      · have hpos : 0 < (l.length : Int) := by omega
        have hm := emod_bd (k : Int) (l.length : Int)
        obtain ⟨m, hme, hml⟩ : ∃ m : Nat, (k : Int) % (l.length : Int) = (m : Int) ∧ m < l.length := by
          refine ⟨k % l.length, by omega, Nat.mod_lt _ (by omega)⟩
        obtain ⟨b, off, rfl, hbl, hc⟩ := h6 m hml
        have hbg := Nat.ne_of_lt (h7 b off rfl (by omega))
        have hu := (l[m]).toNat_lt
        obtain ⟨bn, hbn⟩ : ∃ bn : Int, bn = (l[m]).toNat := ⟨_, rfl⟩
        rw [← hbn] at hc
        have hbn1 : 0 ≤ bn ∧ bn ≤ 255 := by omega
        have hbd := emod_bd (s2 / 7 + bn) n (by omega)
        have hsum : IntKind.i64.wrap (s2 / 7 + bn) = s2 / 7 + bn := IntWalk.i64_in _ ⟨by omega, by omega⟩
        have hml' : (m : Int) < (l.length : Int) := by omega
        have hx0 : 0 ≤ s2 / 7 + bn := by omega
        have hne : ¬ (l.length : Int) = 0 := by omega
        clear hcur hg1 hg2 hg h7 h6 h0 hbn hu hm
        go_enter Tryd.func55, Tryd.ntmps55
        go_wp2
        go_quiet (fail)
        go_wp2
        go_quiet (fail)
        go_wp2
        go_ret
        exact ⟨_, rfl, hbd.1, .inl hbd.2, HC.out, ((((Only.refl g w).drewN _).setCell 2 _).drewN _).setCell 1 _⟩
end Go.Proofs.YtpgeanombiociaaDoor
