/-
  FnExactMeasAdd returns true at every argument, and the arguments read afterwards as they read before. Conditions: none.
-/
import Derived.Test.YtpgeanombiociaaRows
import Derived.Handy
import Derived.WalkSpells
import Derived.Deep.OwnRows
import Derived.Deep.QuietTactic
import Derived.BigQuiet
import Derived.Lib.Hide
import Derived.Lib.SmallJoins
import Derived.ProofKit
import Derived.OpenShut
import Derived.OpenVars
import Derived.ChangeOld
import Derived.Deep.DeepHandedRow
import Derived.Deep.RegionWith
import Derived.Deep.RegionHeld3
import Derived.Deep.DeepCutAuto
namespace Go.Proofs.Ytpgeanombiociaa
open Go.RowKit
set_option linter.unusedVariables false

theorem ret_int {k : IntKind} {a b : Int} (h : a = b) : Ending.returned (.int k a) = .returned (.int k b) := by rw [h]

theorem ret_bool {a b : Bool} (h : a = b) : Ending.returned (.bool a) = .returned (.bool b) := by rw [h]

theorem below_drewN {B : Nat} {a w : World} (h : Below B a w) (n : Nat) : Below B a (w.drewN n) := ⟨h.os, h.tape, h.output, h.size, h.block⟩

theorem below_of_drewN (w : World) (n : Nat) : Below w.heap.size w (w.drewN n) := below_drewN (Below.refl _ _) n

/-- Two calls one behind the other. -/
theorem below_then {a b c : World} (h : Below a.heap.size a b) (k : Below b.heap.size b c) : Below a.heap.size a c := h.trans (k.mono h.size)

theorem bcell {W w1 : World} (hb : Below W.heap.size W w1) : (∀ b o, b < W.heap.size → w1.cell? ⟨b, o, none⟩ = W.cell? ⟨b, o, none⟩) ∧ (∀ b o, b < W.heap.size → w1.frozen? ⟨b, o, none⟩ = W.frozen? ⟨b, o, none⟩) :=
  ⟨fun b o h => hb.cell (p := ⟨b, o, none⟩) h, fun b o h => hb.frozen (p := ⟨b, o, none⟩) h⟩

/-- Block b is a variable of the call's own that holds the cells cs. -/
def Blk (w : World) (b : Nat) (cs : Array Value) (T : TypeId) : Prop := w.heap[b]? = some (.cells cs T (0, 0))

theorem Blk.new (w : World) (cs : Array Value) (T : TypeId) : Blk (w.alloc (.cells cs T)) w.heap.size cs T := heap_alloc_new w (.cells cs T)

theorem Blk.lt {w : World} {b : Nat} {cs : Array Value} {T : TypeId} (h : Blk w b cs T) : b < w.heap.size := (Array.getElem?_eq_some_iff.1 h).1

theorem Blk.below {w w' : World} {b : Nat} {cs : Array Value} {T : TypeId} (h : Blk w b cs T) (hb : Below w.heap.size w w') : Blk w' b cs T := (hb.block b h.lt).trans h

theorem Blk.cell {w : World} {b : Nat} {cs : Array Value} {T : TypeId} (h : Blk w b cs T) (i : Nat) : w.cell? ⟨b, i, none⟩ = cs[i]? := cell_of_row w b i cs T (0, 0) h

theorem Blk.frozen {w : World} {b : Nat} {cs : Array Value} {T : TypeId} (h : Blk w b cs T) (i : Nat) : w.frozen? ⟨b, i, none⟩ = false := by
  unfold Blk at h; simp [World.frozen?, h]

theorem Blk.set {w : World} {b : Nat} {cs : Array Value} {T : TypeId} (h : Blk w b cs T) (i : Nat) (v : Value) : Blk (w.setCell ⟨b, i, none⟩ v) b (cs.setIfInBounds i v) T := by
  unfold Blk at h ⊢; simp [World.setCell, Array.getElem?_modify, h]

theorem Blk.setOther {w : World} {b : Nat} {cs : Array Value} {T : TypeId} (h : Blk w b cs T) {a : Addr} (ha : b ≠ a.block) (v : Value) : Blk (w.setCell a v) b cs T := (Below.heap_setCell w a v b ha).trans h

theorem Blk.alloc {w : World} {b : Nat} {cs : Array Value} {T : TypeId} (h : Blk w b cs T) (o : Obj) : Blk (w.alloc o) b cs T := (heap_alloc_old w o h.lt).trans h

/-- What a call that returns a measure ends in. -/
def meas (b r n : Int) : Value := .agg #[.int .i64 b, .int .i64 r, .int .i64 n]

set_option maxHeartbeats 2000000 in
theorem measSum_any (b : Nat) (a0 a1 a2 b0 b1 b2 : Int) (c : Nat) (w : World) (hb : b < w.heap.size) (h0 : 0 ≤ a0 ∧ a0 ≤ 1000000000) (h1 : 0 ≤ a1 ∧ a1 ≤ 1000000000) (h2 : 0 ≤ a2 ∧ a2 ≤ 1000000000)
    (k0 : 0 ≤ b0 ∧ b0 ≤ 1000000000) (k1 : 0 ≤ b1 ∧ b1 ≤ 1000000000) (k2 : 0 ≤ b2 ∧ b2 ≤ 1000000000) (hB : Blk w b #[.int .i64 a0, .int .i64 a1, .int .i64 a2, .int .i64 b0, .int .i64 b1, .int .i64 b2] 24) :
    Calls Try.prog 10 #[.slice (some ⟨b, 0, none⟩) 2 c] w fun e w' => e = .returned (meas (a0 + b0) (a1 + b1) (a2 + b2)) ∧ Below w.heap.size w w' := by
  have c0 : w.cell? ⟨b, 0, none⟩ = some (.int .i64 a0) := hB.cell 0
  have c1 : w.cell? ⟨b, 1, none⟩ = some (.int .i64 a1) := hB.cell 1
  have c2 : w.cell? ⟨b, 2, none⟩ = some (.int .i64 a2) := hB.cell 2
  have c3 : w.cell? ⟨b, 3, none⟩ = some (.int .i64 b0) := hB.cell 3
  have c4 : w.cell? ⟨b, 4, none⟩ = some (.int .i64 b1) := hB.cell 4
  have c5 : w.cell? ⟨b, 5, none⟩ = some (.int .i64 b2) := hB.cell 5
  obtain ⟨h00, h01⟩ := h0
  obtain ⟨h10, h11⟩ := h1
  obtain ⟨h20, h21⟩ := h2
  obtain ⟨k00, k01⟩ := k0
  obtain ⟨k10, k11⟩ := k1
  obtain ⟨k20, k21⟩ := k2
  have hb1 : b < w.heap.size + 1 := by omega
  have hb2 : b < w.heap.size + 1 + 1 := by omega
  have hb3 : b < w.heap.size + 1 + 1 + 1 := by omega
  clear hB
  go_enter Try.func10, Try.ntmps10
  go_wp2
  go_rounds 3
  refine bodyPost_ret (v := meas (a0 + b0) (a1 + b1) (a2 + b2)) (by simp [results, Try.results10, go_sem, meas]) rfl ⟨rfl, ?_⟩
  (repeat (first | exact Below.refl _ _ | assumption | refine Below.setCell ?_ (by first | (simp; done) | (simp; omega) | omega) _ | refine Below.drew ?_ | refine below_drewN ?_ _ | refine Below.alloc ?_ (by first | (simp; done) | (simp; omega) | omega) _))

set_option maxHeartbeats 400000 in
theorem fitsText_any (n : Int) (w : World) : Calls Try.prog 11 #[.int .i64 n] w fun e w' => e = .returned (.bool (decide (0 ≤ n ∧ n ≤ 400))) ∧ w' = w := by
  by_cases h : 0 ≤ n
  · go_enter Try.func11, Try.ntmps11
    go_wp2
    go_ret
    exact ⟨ret_bool (by simp [h]), rfl⟩
  · have hd : decide (0 ≤ n) = false := by simpa using h
    have H := Lib.hid h
    clear h
    go_enter Try.func11, Try.ntmps11
    go_wp2
    go_ret
    exact ⟨ret_bool (by simp), rfl⟩

def mFits (a b r : Int) : Bool := decide (0 ≤ a ∧ a ≤ 400) && decide (0 ≤ b ∧ b ≤ 400) && decide (0 ≤ r ∧ r ≤ 400)

set_option maxHeartbeats 1000000 in
theorem measFits_any (a b r : Int) (w : World) : Calls Try.prog 9 #[meas a b r] w fun e w' => e = .returned (.bool (mFits a b r)) ∧ Below w.heap.size w w' := by
  unfold meas mFits
  generalize hq1 : decide (0 ≤ a ∧ a ≤ 400) = q1
  generalize hq2 : decide (0 ≤ b ∧ b ≤ 400) = q2
  generalize hq3 : decide (0 ≤ r ∧ r ≤ 400) = q3
  have H1 := Lib.hid hq1
  have H2 := Lib.hid hq2
  have H3 := Lib.hid hq3
  clear hq1 hq2 hq3
  have hfin := fun t => (Below.refl w.heap.size w).alloc (Nat.le_refl _) (.cells #[.int .i64 a, .int .i64 b, .int .i64 r] t)
  cases q1
  · go_enter Try.func9, Try.ntmps9
    go_wp2_with (go_at_call 11; refine (fitsText_any _ _).mono ?_; rintro e w1 ⟨rfl, rfl⟩; first | rw [H1.out] | rw [H2.out] | rw [H3.out])
    go_ret
    exact ⟨rfl, hfin _⟩
  · cases q2
    · go_enter Try.func9, Try.ntmps9
      go_wp2_with (go_at_call 11; refine (fitsText_any _ _).mono ?_; rintro e w1 ⟨rfl, rfl⟩; first | rw [H1.out] | rw [H2.out] | rw [H3.out])
      go_ret
      exact ⟨rfl, hfin _⟩
    · go_enter Try.func9, Try.ntmps9
      go_wp2_with (go_at_call 11; refine (fitsText_any _ _).mono ?_; rintro e w1 ⟨rfl, rfl⟩; first | rw [H1.out] | rw [H2.out] | rw [H3.out])
      go_ret
      exact ⟨rfl, hfin _⟩

set_option maxHeartbeats 1000000 in
theorem eqMeas_any (a b r x y z : Int) (w : World) : Calls Try.prog 7 #[meas a b r, meas x y z] w fun e w' => e = .returned (.bool (decide (a = x ∧ b = y ∧ r = z))) ∧ Below w.heap.size w w' := by
  unfold meas
  by_cases h1 : a = x
  · subst h1
    have n1 : (a != a) = false := by simp
    by_cases h2 : b = y
    · subst h2
      have n2 : (b != b) = false := by simp
      by_cases h3 : r = z
      · subst h3
        have n3 : (r != r) = false := by simp
        go_enter Try.func7, Try.ntmps7
        go_wp2
        go_ret
        exact ⟨by simp, by (repeat (first | exact Below.refl _ _ | assumption | refine Below.setCell ?_ (by first | (simp; done) | (simp; omega) | omega) _ | refine Below.drew ?_ | refine below_drewN ?_ _ | refine Below.alloc ?_ (by first | (simp; done) | (simp; omega) | omega) _))⟩
      · have n3 : (r != z) = true := by simpa using h3
        have H3 := Lib.hid h3
        clear h3
        go_enter Try.func7, Try.ntmps7
        go_wp2
        go_ret
        exact ⟨by simp [H3.out], by (repeat (first | exact Below.refl _ _ | assumption | refine Below.setCell ?_ (by first | (simp; done) | (simp; omega) | omega) _ | refine Below.drew ?_ | refine below_drewN ?_ _ | refine Below.alloc ?_ (by first | (simp; done) | (simp; omega) | omega) _))⟩
    · have n2 : (b != y) = true := by simpa using h2
      have H2 := Lib.hid h2
      clear h2
      go_enter Try.func7, Try.ntmps7
      go_wp2
      go_ret
      exact ⟨by simp [H2.out], by (repeat (first | exact Below.refl _ _ | assumption | refine Below.setCell ?_ (by first | (simp; done) | (simp; omega) | omega) _ | refine Below.drew ?_ | refine below_drewN ?_ _ | refine Below.alloc ?_ (by first | (simp; done) | (simp; omega) | omega) _))⟩
  · have n1 : (a != x) = true := by simpa using h1
    have H1 := Lib.hid h1
    clear h1
    go_enter Try.func7, Try.ntmps7
    go_wp2
    go_ret
    exact ⟨by simp [H1.out], by (repeat (first | exact Below.refl _ _ | assumption | refine Below.setCell ?_ (by first | (simp; done) | (simp; omega) | omega) _ | refine Below.drew ?_ | refine below_drewN ?_ _ | refine Below.alloc ?_ (by first | (simp; done) | (simp; omega) | omega) _))⟩

namespace fnExactMeasAdd
open Go.ChangeShapes Go.WideShapes Go.ChangeAt Go.RowKit Go.Joins

theorem alloc_sz (w : World) (o : Obj) : (w.alloc o).heap.size = w.heap.size + 1 := by simp
theorem drew_sz (w : World) : w.drew.heap.size = w.heap.size := rfl
theorem Blk.fresh {w : World} {g : Nat} {cs : Array Value} {T : TypeId} (hg : g = w.heap.size) : Blk (w.alloc (.cells cs T)) g cs T := by subst hg; exact Blk.new w cs T
theorem Blk.undrew {w : World} {g : Nat} {cs : Array Value} {T : TypeId} (h : Blk w g cs T) : Blk w.drew g cs T := h
theorem Blk.lt' {w : World} {g : Nat} {cs : Array Value} {T : TypeId} (h : Blk w g cs T) : g < w.heap.size := h.lt

def mAdd (a b c x y z : Int) (k : Int) : Int := if mFits a b c = true ∧ mFits x y z = true then k else 0

theorem mFits_iff (a b c : Int) : mFits a b c = true ↔ 0 ≤ a ∧ a ≤ 400 ∧ 0 ≤ b ∧ b ≤ 400 ∧ 0 ≤ c ∧ c ≤ 400 := by
  unfold mFits; simp [and_assoc]

set_option maxHeartbeats 1000000 in
theorem toMeas_any (a b c : Int) (w : World) : Calls Try.prog 5 #[meas a b c] w fun e w' => e = .returned (meas a b c) ∧ Below w.heap.size w w' := by
  unfold meas
  go_enter Try.func5, Try.ntmps5
  go_wp2
  refine bodyPost_ret (v := meas a b c) (by simp [results, Try.results5, go_sem, meas]) rfl ⟨rfl, ?_⟩
  (repeat (first | exact Below.refl _ _ | assumption | refine Below.setCell ?_ (by first | (simp; done) | (simp; omega) | omega) _ | refine Below.drew ?_ | refine below_drewN ?_ _ | refine Below.alloc ?_ (by first | (simp; done) | (simp; omega) | omega) _))

set_option maxHeartbeats 400000 in
theorem l02Small_any (n : Int) (w : World) : Calls Try.prog 8 #[.int .i64 n] w fun e w' => e = .returned (.bool (decide (0 ≤ n ∧ n ≤ 400))) ∧ w' = w := by
  by_cases h : 0 ≤ n
  · go_enter Try.func8, Try.ntmps8
    go_wp2
    go_ret
    exact ⟨ret_bool (by simp [h]), rfl⟩
  · have hd : decide (0 ≤ n) = false := by simpa using h
    have hf : decide (0 ≤ n ∧ n ≤ 400) = false := by simp; omega
    have HF := Lib.hid hf
    clear h hf
    go_enter Try.func8, Try.ntmps8
    go_wp2
    go_ret
    exact ⟨ret_bool HF.out.symm, rfl⟩

set_option maxHeartbeats 2000000 in
theorem implMeasAdd_any (a b c x y z : Int) (w : World) : Calls Try.prog 6 #[meas a b c, meas x y z] w fun e w' => e = .returned (meas (mAdd a b c x y z (a + x)) (mAdd a b c x y z (b + y)) (mAdd a b c x y z (c + z))) ∧ Below w.heap.size w w' := by
  have hsum := fun b' w' => measSum_any b' a b c x y z 2 w'
  have hf1 := fun w' => measFits_any a b c w'
  have hf2 := fun w' => measFits_any x y z w'
  have i1 := mFits_iff a b c
  have i2 := mFits_iff x y z
  have hal := ((((Below.refl w.heap.size w).alloc (Nat.le_refl _) (.cells #[.int .i64 a, .int .i64 b, .int .i64 c] 24)).alloc (by simp) (.cells #[.int .i64 x, .int .i64 y, .int .i64 z] 24)).alloc (by simp; omega) (.cells #[.int .i64 0, .int .i64 0, .int .i64 0] 24))
  have hB2 := (Blk.new w #[.int .i64 a, .int .i64 b, .int .i64 c] 24)
  have hB2' := (hB2.alloc (.cells #[.int .i64 x, .int .i64 y, .int .i64 z] 24)).alloc (.cells #[.int .i64 0, .int .i64 0, .int .i64 0] 24)
  have hB3 := (Blk.new (w.alloc (.cells #[.int .i64 a, .int .i64 b, .int .i64 c] 24)) #[.int .i64 x, .int .i64 y, .int .i64 z] 24).alloc (.cells #[.int .i64 0, .int .i64 0, .int .i64 0] 24)
  have hB4 := (Blk.new ((w.alloc (.cells #[.int .i64 a, .int .i64 b, .int .i64 c] 24)).alloc (.cells #[.int .i64 x, .int .i64 y, .int .i64 z] 24)) #[.int .i64 0, .int .i64 0, .int .i64 0] 24)
  unfold meas at hsum hf1 hf2 ⊢
  generalize hq1 : mFits a b c = q1 at *
  generalize hq2 : mFits x y z = q2 at *
  have hz : ∀ k, mAdd a b c x y z k = if q1 = true ∧ q2 = true then k else 0 := fun k => by unfold mAdd; rw [hq1, hq2]
  have HZ := Lib.hid hz
  have HS := Lib.hid hsum
  have HF1 := Lib.hid hf1
  have HF2 := Lib.hid hf2
  clear hq1 hq2 hz hsum hf1 hf2 hB2
  cases q1
  · clear i1 i2 HF2 HS
    go_enter Try.func6, Try.ntmps6
    go_wp2_with fail
    refine (HF1.out _).mono ?_
    rintro e w1 ⟨rfl, hb1⟩
    have hr := hB4.below hb1
    rw [show ((w.alloc (.cells #[.int .i64 a, .int .i64 b, .int .i64 c] 24)).alloc (.cells #[.int .i64 x, .int .i64 y, .int .i64 z] 24)).heap.size = w.heap.size + 1 + 1 by simp] at hr
    have d0 : w1.cell? ⟨w.heap.size + 1 + 1, 0, none⟩ = some (.int .i64 0) := hr.cell 0
    have d1 : w1.cell? ⟨w.heap.size + 1 + 1, 1, none⟩ = some (.int .i64 0) := hr.cell 1
    have d2 : w1.cell? ⟨w.heap.size + 1 + 1, 2, none⟩ = some (.int .i64 0) := hr.cell 2
    have f0 := hr.frozen 0
    have f1 := hr.frozen 1
    have f2 := hr.frozen 2
    have hb2 := hal.trans (hb1.mono (by simp; omega))
    go_wp2
    refine bodyPost_ret (v := .agg #[.int .i64 0, .int .i64 0, .int .i64 0]) (by simp [results, Try.results6, go_sem, d0, d1, d2]) rfl ⟨by simp [HZ.out], ?_⟩
    (repeat (first | exact Below.refl _ _ | assumption | refine Below.setCell ?_ (by first | (simp; done) | (simp; omega) | omega) _ | refine Below.drew ?_ | refine below_drewN ?_ _ | refine Below.alloc ?_ (by first | (simp; done) | (simp; omega) | omega) _))
  · cases q2
    · clear i1 i2 HS
      go_enter Try.func6, Try.ntmps6
      go_wp2_with fail
      refine (HF1.out _).mono ?_
      rintro e w1 ⟨rfl, hb1⟩
      have hr := hB4.below hb1
      have hx := hB3.below hb1
      rw [show ((w.alloc (.cells #[.int .i64 a, .int .i64 b, .int .i64 c] 24)).alloc (.cells #[.int .i64 x, .int .i64 y, .int .i64 z] 24)).heap.size = w.heap.size + 1 + 1 by simp] at hr
      rw [show (w.alloc (.cells #[.int .i64 a, .int .i64 b, .int .i64 c] 24)).heap.size = w.heap.size + 1 by simp] at hx
      have x0 : w1.cell? ⟨w.heap.size + 1, 0, none⟩ = some (.int .i64 x) := hx.cell 0
      have x1 : w1.cell? ⟨w.heap.size + 1, 1, none⟩ = some (.int .i64 y) := hx.cell 1
      have x2 : w1.cell? ⟨w.heap.size + 1, 2, none⟩ = some (.int .i64 z) := hx.cell 2
      have hb2 := hal.trans (hb1.mono (by simp; omega))
      go_wp2_with fail
      refine (HF2.out _).mono ?_
      rintro e w2 ⟨rfl, hb3⟩
      have hr := hr.below hb3
      have d0 : w2.cell? ⟨w.heap.size + 1 + 1, 0, none⟩ = some (.int .i64 0) := hr.cell 0
      have d1 : w2.cell? ⟨w.heap.size + 1 + 1, 1, none⟩ = some (.int .i64 0) := hr.cell 1
      have d2 : w2.cell? ⟨w.heap.size + 1 + 1, 2, none⟩ = some (.int .i64 0) := hr.cell 2
      have f0 := hr.frozen 0
      have f1 := hr.frozen 1
      have f2 := hr.frozen 2
      have hb4 := below_then hb2 hb3
      go_wp2
      refine bodyPost_ret (v := .agg #[.int .i64 0, .int .i64 0, .int .i64 0]) (by simp [results, Try.results6, go_sem, d0, d1, d2]) rfl ⟨by simp [HZ.out], ?_⟩
      (repeat (first | exact Below.refl _ _ | assumption | refine Below.setCell ?_ (by first | (simp; done) | (simp; omega) | omega) _ | refine Below.drew ?_ | refine below_drewN ?_ _ | refine Below.alloc ?_ (by first | (simp; done) | (simp; omega) | omega) _))
    · obtain ⟨g0, g1, g2, g3, g4, g5⟩ := i1.1 rfl
      obtain ⟨k0, k1, k2, k3, k4, k5⟩ := i2.1 rfl
      clear i1 i2
      go_enter Try.func6, Try.ntmps6
      go_wp2_with fail
      refine (HF1.out _).mono ?_
      rintro e w1 ⟨rfl, hb1⟩
      have hr := hB4.below hb1
      have hx := hB3.below hb1
      have ha := hB2'.below hb1
      rw [show ((w.alloc (.cells #[.int .i64 a, .int .i64 b, .int .i64 c] 24)).alloc (.cells #[.int .i64 x, .int .i64 y, .int .i64 z] 24)).heap.size = w.heap.size + 1 + 1 by simp] at hr
      rw [show (w.alloc (.cells #[.int .i64 a, .int .i64 b, .int .i64 c] 24)).heap.size = w.heap.size + 1 by simp] at hx
      have x0 : w1.cell? ⟨w.heap.size + 1, 0, none⟩ = some (.int .i64 x) := hx.cell 0
      have x1 : w1.cell? ⟨w.heap.size + 1, 1, none⟩ = some (.int .i64 y) := hx.cell 1
      have x2 : w1.cell? ⟨w.heap.size + 1, 2, none⟩ = some (.int .i64 z) := hx.cell 2
      have hb2 := hal.trans (hb1.mono (by simp; omega))
      go_wp2_with fail
      refine (HF2.out _).mono ?_
      rintro e w2 ⟨rfl, hb3⟩
      have hr := hr.below hb3
      have hx := hx.below hb3
      have ha := ha.below hb3
      have x0 : w2.cell? ⟨w.heap.size + 1, 0, none⟩ = some (.int .i64 x) := hx.cell 0
      have x1 : w2.cell? ⟨w.heap.size + 1, 1, none⟩ = some (.int .i64 y) := hx.cell 1
      have x2 : w2.cell? ⟨w.heap.size + 1, 2, none⟩ = some (.int .i64 z) := hx.cell 2
      have a0 : w2.cell? ⟨w.heap.size, 0, none⟩ = some (.int .i64 a) := ha.cell 0
      have a1 : w2.cell? ⟨w.heap.size, 1, none⟩ = some (.int .i64 b) := ha.cell 1
      have a2 : w2.cell? ⟨w.heap.size, 2, none⟩ = some (.int .i64 c) := ha.cell 2
      have hb4 := below_then hb2 hb3
      go_wp2_with fail
      refine (HS.out _ _ (by simp) ⟨by omega, by omega⟩ ⟨by omega, by omega⟩ ⟨by omega, by omega⟩ ⟨by omega, by omega⟩ ⟨by omega, by omega⟩ ⟨by omega, by omega⟩ (by exact Blk.new _ _ _)).mono ?_
      rintro e w3 ⟨rfl, hb5⟩
      have hr := (hr.alloc (.cells #[.int .i64 a, .int .i64 b, .int .i64 c, .int .i64 x, .int .i64 y, .int .i64 z] 24)).below hb5
      have d0 : w3.cell? ⟨w.heap.size + 1 + 1, 0, none⟩ = some (.int .i64 0) := hr.cell 0
      have d1 : w3.cell? ⟨w.heap.size + 1 + 1, 1, none⟩ = some (.int .i64 0) := hr.cell 1
      have d2 : w3.cell? ⟨w.heap.size + 1 + 1, 2, none⟩ = some (.int .i64 0) := hr.cell 2
      have f0 := hr.frozen 0
      have f1 := hr.frozen 1
      have f2 := hr.frozen 2
      have hb6 := below_then hb4 (((Below.refl _ _).alloc (Nat.le_refl _) (.cells #[.int .i64 a, .int .i64 b, .int .i64 c, .int .i64 x, .int .i64 y, .int .i64 z] 24)).trans (hb5.mono (by simp)))
      go_wp2
      refine bodyPost_ret (v := .agg #[.int .i64 (a + x), .int .i64 (b + y), .int .i64 (c + z)]) (by simp [results, Try.results6, go_sem, d0, d1, d2]) rfl ⟨by simp [HZ.out], ?_⟩
      (repeat (first | exact Below.refl _ _ | assumption | refine Below.setCell ?_ (by first | (simp; done) | (simp; omega) | omega) _ | refine Below.drew ?_ | refine below_drewN ?_ _ | refine Below.alloc ?_ (by first | (simp; done) | (simp; omega) | omega) _))

set_option maxHeartbeats 2000000 in
theorem specMeasAdd_any (a b c x y z : Int) (w : World) : Calls Try.prog 4 #[meas a b c, meas x y z] w fun e w' => e = .returned (meas (mAdd a b c x y z (a + x)) (mAdd a b c x y z (b + y)) (mAdd a b c x y z (c + z))) ∧ Below w.heap.size w w' := by
  have hz : ∀ k, mAdd a b c x y z k = if decide (0 ≤ a ∧ a ≤ 400) && decide (0 ≤ b ∧ b ≤ 400) && decide (0 ≤ c ∧ c ≤ 400) && decide (0 ≤ x ∧ x ≤ 400) && decide (0 ≤ y ∧ y ≤ 400) && decide (0 ≤ z ∧ z ≤ 400) then k else 0 := fun k => by
    unfold mAdd mFits
    simp only [Bool.and_eq_true, and_assoc]
  unfold meas
  generalize h1 : decide (0 ≤ a ∧ a ≤ 400) = q1 at *
  generalize h2 : decide (0 ≤ b ∧ b ≤ 400) = q2 at *
  generalize h3 : decide (0 ≤ c ∧ c ≤ 400) = q3 at *
  generalize h4 : decide (0 ≤ x ∧ x ≤ 400) = q4 at *
  generalize h5 : decide (0 ≤ y ∧ y ≤ 400) = q5 at *
  generalize h6 : decide (0 ≤ z ∧ z ≤ 400) = q6 at *
  have H1 := Lib.hid h1
  have H2 := Lib.hid h2
  have H3 := Lib.hid h3
  have H4 := Lib.hid h4
  have H5 := Lib.hid h5
  have H6 := Lib.hid h6
  have HZ := Lib.hid hz
  clear hz
  by_cases hall : q1 = true ∧ q2 = true ∧ q3 = true ∧ q4 = true ∧ q5 = true ∧ q6 = true
  · obtain ⟨rfl, rfl, rfl, rfl, rfl, rfl⟩ := hall
    have b1 : 0 ≤ a ∧ a ≤ 400 := of_decide_eq_true h1
    have b2 : 0 ≤ b ∧ b ≤ 400 := of_decide_eq_true h2
    have b3 : 0 ≤ c ∧ c ≤ 400 := of_decide_eq_true h3
    have b4 : 0 ≤ x ∧ x ≤ 400 := of_decide_eq_true h4
    have b5 : 0 ≤ y ∧ y ≤ 400 := of_decide_eq_true h5
    have b6 : 0 ≤ z ∧ z ≤ 400 := of_decide_eq_true h6
    clear h1 h2 h3 h4 h5 h6
    go_enter Try.func4, Try.ntmps4
    go_wp2_with (go_at_call 8; refine (l02Small_any _ _).mono ?_; rintro e w' ⟨rfl, rfl⟩; first | rw [H1.out] | rw [H2.out] | rw [H3.out] | rw [H4.out] | rw [H5.out] | rw [H6.out])
    refine bodyPost_ret (v := .agg #[.int .i64 (a + x), .int .i64 (b + y), .int .i64 (c + z)]) (by simp [results, Try.results4, go_sem]) rfl ⟨by simp [HZ.out], ?_⟩
    (repeat (first | exact Below.refl _ _ | assumption | refine Below.setCell ?_ (by first | (simp; done) | (simp; omega) | omega) _ | refine Below.drew ?_ | refine below_drewN ?_ _ | refine Below.alloc ?_ (by first | (simp; done) | (simp; omega) | omega) _))
  · have hno : ∀ k, mAdd a b c x y z k = 0 := fun k => by
      rw [HZ.out, if_neg]
      intro h
      simp only [Bool.and_eq_true] at h
      exact hall ⟨h.1.1.1.1.1, h.1.1.1.1.2, h.1.1.1.2, h.1.1.2, h.1.2, h.2⟩
    have HNO := Lib.hid hno
    clear h1 h2 h3 h4 h5 h6 hno HZ
    cases q1
    · go_enter Try.func4, Try.ntmps4
      go_wp2_with (go_at_call 8; refine (l02Small_any _ _).mono ?_; rintro e w' ⟨rfl, rfl⟩; first | rw [H1.out] | rw [H2.out] | rw [H3.out] | rw [H4.out] | rw [H5.out] | rw [H6.out])
      refine bodyPost_ret (v := .agg #[.int .i64 0, .int .i64 0, .int .i64 0]) (by simp [results, Try.results4, go_sem]) rfl ⟨by rw [HNO.out, HNO.out, HNO.out], ?_⟩
      (repeat (first | exact Below.refl _ _ | assumption | refine Below.setCell ?_ (by first | (simp; done) | (simp; omega) | omega) _ | refine Below.drew ?_ | refine below_drewN ?_ _ | refine Below.alloc ?_ (by first | (simp; done) | (simp; omega) | omega) _))
    · cases q2
      · go_enter Try.func4, Try.ntmps4
        go_wp2_with (go_at_call 8; refine (l02Small_any _ _).mono ?_; rintro e w' ⟨rfl, rfl⟩; first | rw [H1.out] | rw [H2.out] | rw [H3.out] | rw [H4.out] | rw [H5.out] | rw [H6.out])
        refine bodyPost_ret (v := .agg #[.int .i64 0, .int .i64 0, .int .i64 0]) (by simp [results, Try.results4, go_sem]) rfl ⟨by rw [HNO.out, HNO.out, HNO.out], ?_⟩
        (repeat (first | exact Below.refl _ _ | assumption | refine Below.setCell ?_ (by first | (simp; done) | (simp; omega) | omega) _ | refine Below.drew ?_ | refine below_drewN ?_ _ | refine Below.alloc ?_ (by first | (simp; done) | (simp; omega) | omega) _))
      · cases q3
        · go_enter Try.func4, Try.ntmps4
          go_wp2_with (go_at_call 8; refine (l02Small_any _ _).mono ?_; rintro e w' ⟨rfl, rfl⟩; first | rw [H1.out] | rw [H2.out] | rw [H3.out] | rw [H4.out] | rw [H5.out] | rw [H6.out])
          refine bodyPost_ret (v := .agg #[.int .i64 0, .int .i64 0, .int .i64 0]) (by simp [results, Try.results4, go_sem]) rfl ⟨by rw [HNO.out, HNO.out, HNO.out], ?_⟩
          (repeat (first | exact Below.refl _ _ | assumption | refine Below.setCell ?_ (by first | (simp; done) | (simp; omega) | omega) _ | refine Below.drew ?_ | refine below_drewN ?_ _ | refine Below.alloc ?_ (by first | (simp; done) | (simp; omega) | omega) _))
        · cases q4
          · go_enter Try.func4, Try.ntmps4
            go_wp2_with (go_at_call 8; refine (l02Small_any _ _).mono ?_; rintro e w' ⟨rfl, rfl⟩; first | rw [H1.out] | rw [H2.out] | rw [H3.out] | rw [H4.out] | rw [H5.out] | rw [H6.out])
            refine bodyPost_ret (v := .agg #[.int .i64 0, .int .i64 0, .int .i64 0]) (by simp [results, Try.results4, go_sem]) rfl ⟨by rw [HNO.out, HNO.out, HNO.out], ?_⟩
            (repeat (first | exact Below.refl _ _ | assumption | refine Below.setCell ?_ (by first | (simp; done) | (simp; omega) | omega) _ | refine Below.drew ?_ | refine below_drewN ?_ _ | refine Below.alloc ?_ (by first | (simp; done) | (simp; omega) | omega) _))
          · cases q5
            · go_enter Try.func4, Try.ntmps4
              go_wp2_with (go_at_call 8; refine (l02Small_any _ _).mono ?_; rintro e w' ⟨rfl, rfl⟩; first | rw [H1.out] | rw [H2.out] | rw [H3.out] | rw [H4.out] | rw [H5.out] | rw [H6.out])
              refine bodyPost_ret (v := .agg #[.int .i64 0, .int .i64 0, .int .i64 0]) (by simp [results, Try.results4, go_sem]) rfl ⟨by rw [HNO.out, HNO.out, HNO.out], ?_⟩
              (repeat (first | exact Below.refl _ _ | assumption | refine Below.setCell ?_ (by first | (simp; done) | (simp; omega) | omega) _ | refine Below.drew ?_ | refine below_drewN ?_ _ | refine Below.alloc ?_ (by first | (simp; done) | (simp; omega) | omega) _))
            · cases q6
              · go_enter Try.func4, Try.ntmps4
                go_wp2_with (go_at_call 8; refine (l02Small_any _ _).mono ?_; rintro e w' ⟨rfl, rfl⟩; first | rw [H1.out] | rw [H2.out] | rw [H3.out] | rw [H4.out] | rw [H5.out] | rw [H6.out])
                refine bodyPost_ret (v := .agg #[.int .i64 0, .int .i64 0, .int .i64 0]) (by simp [results, Try.results4, go_sem]) rfl ⟨by rw [HNO.out, HNO.out, HNO.out], ?_⟩
                (repeat (first | exact Below.refl _ _ | assumption | refine Below.setCell ?_ (by first | (simp; done) | (simp; omega) | omega) _ | refine Below.drew ?_ | refine below_drewN ?_ _ | refine Below.alloc ?_ (by first | (simp; done) | (simp; omega) | omega) _))
              · exact absurd ⟨rfl, rfl, rfl, rfl, rfl, rfl⟩ hall

theorem keepSix {wo W : World} {a b c x y z : Int} {i j : Nat} (hi : i < wo.heap.size) (hj : j < wo.heap.size)
    (a0 : wo.cell? ⟨i, 0, none⟩ = some (.int .i64 a)) (a1 : wo.cell? ⟨i, 1, none⟩ = some (.int .i64 b)) (a2 : wo.cell? ⟨i, 2, none⟩ = some (.int .i64 c))
    (x0 : wo.cell? ⟨j, 0, none⟩ = some (.int .i64 x)) (x1 : wo.cell? ⟨j, 1, none⟩ = some (.int .i64 y)) (x2 : wo.cell? ⟨j, 2, none⟩ = some (.int .i64 z)) (h : Below wo.heap.size wo W) :
    W.cell? ⟨i, 0, none⟩ = some (.int .i64 a) ∧ W.cell? ⟨i, 1, none⟩ = some (.int .i64 b) ∧ W.cell? ⟨i, 2, none⟩ = some (.int .i64 c) ∧ W.cell? ⟨j, 0, none⟩ = some (.int .i64 x) ∧ W.cell? ⟨j, 1, none⟩ = some (.int .i64 y) ∧ W.cell? ⟨j, 2, none⟩ = some (.int .i64 z) :=
  ⟨(h.cell hi).trans a0, (h.cell hi).trans a1, (h.cell hi).trans a2, (h.cell hj).trans x0, (h.cell hj).trans x1, (h.cell hj).trans x2⟩

set_option linter.unusedSimpArgs false in
set_option maxHeartbeats 40000000 in
theorem walk (a b c x y z : Int) (w : World) : Calls Try.prog 3 #[meas a b c, meas x y z] w fun e w' => e = .returned (.bool true) ∧ Below w.heap.size w w' := by
  have ht1 := fun w' => toMeas_any a b c w'
  have ht2 := fun w' => toMeas_any x y z w'
  have hsp := fun w' => specMeasAdd_any a b c x y z w'
  have him := fun w' => implMeasAdd_any a b c x y z w'
  generalize mAdd a b c x y z (a + x) = p at *
  generalize mAdd a b c x y z (b + y) = q at *
  generalize mAdd a b c x y z (c + z) = r at *
  have heq := fun w' => eqMeas_any p q r p q r w'
  have htt : decide (p = p ∧ q = q ∧ r = r) = true := by simp
  rw [htt] at heq
  unfold meas at ht1 ht2 hsp him heq ⊢
  have H1 := Lib.hid ht1
  have H2 := Lib.hid ht2
  have HS := Lib.hid hsp
  have HI := Lib.hid him
  have HE := Lib.hid heq
  clear ht1 ht2 hsp him heq htt
  have hal := (((Below.refl w.heap.size w).alloc (Nat.le_refl _) (.cells #[.int .i64 a, .int .i64 b, .int .i64 c] 23)).alloc (by simp) (.cells #[.int .i64 x, .int .i64 y, .int .i64 z] 23))
  have hA := (Blk.new w #[.int .i64 a, .int .i64 b, .int .i64 c] 23).alloc (.cells #[.int .i64 x, .int .i64 y, .int .i64 z] 23)
  have hX := Blk.new (w.alloc (.cells #[.int .i64 a, .int .i64 b, .int .i64 c] 23)) #[.int .i64 x, .int .i64 y, .int .i64 z] 23
  rw [show (w.alloc (.cells #[.int .i64 a, .int .i64 b, .int .i64 c] 23)).heap.size = w.heap.size + 1 by simp] at hX
  go_enter Try.func3, Try.ntmps3
  go_upto_region 1 with fail
  have HA := Lib.hid hA
  have HX := Lib.hid hX
  clear hA hX
  obtain ⟨wo, hwo⟩ : ∃ wo : World, wo = (w.alloc (.cells #[.int .i64 a, .int .i64 b, .int .i64 c] 23)).alloc (.cells #[.int .i64 x, .int .i64 y, .int .i64 z] 23) := ⟨_, rfl⟩
  rw [← hwo] at hal HA HX ⊢
  clear hwo
  have a0 : wo.cell? ⟨w.heap.size, 0, none⟩ = some (.int .i64 a) := HA.out.cell 0
  have a1 : wo.cell? ⟨w.heap.size, 1, none⟩ = some (.int .i64 b) := HA.out.cell 1
  have a2 : wo.cell? ⟨w.heap.size, 2, none⟩ = some (.int .i64 c) := HA.out.cell 2
  have x0 : wo.cell? ⟨w.heap.size + 1, 0, none⟩ = some (.int .i64 x) := HX.out.cell 0
  have x1 : wo.cell? ⟨w.heap.size + 1, 1, none⟩ = some (.int .i64 y) := HX.out.cell 1
  have x2 : wo.cell? ⟨w.heap.size + 1, 2, none⟩ = some (.int .i64 z) := HX.out.cell 2
  have hA9 := HA.out.lt
  have hX9 := HX.out.lt
  go_cut [5] (fun u5 wx => ∃ g : Nat, u5 = .pointer (some ⟨g, 0, none⟩) ∧ Blk wx g #[.int .i64 p, .int .i64 q, .int .i64 r] 24 ∧ Below wo.heap.size wo wx)
  case first =>
    go_region_held3 (fun W => W.cell? ⟨w.heap.size, 0, none⟩ = some (.int .i64 a) ∧ W.cell? ⟨w.heap.size, 1, none⟩ = some (.int .i64 b) ∧ W.cell? ⟨w.heap.size, 2, none⟩ = some (.int .i64 c) ∧ W.cell? ⟨w.heap.size + 1, 0, none⟩ = some (.int .i64 x) ∧ W.cell? ⟨w.heap.size + 1, 1, none⟩ = some (.int .i64 y) ∧ W.cell? ⟨w.heap.size + 1, 2, none⟩ = some (.int .i64 z)) ((refine keepSix hA9 hX9 a0 a1 a2 x0 x1 x2 ?_; (repeat (first | with_reducible exact Below.refl _ _ | with_reducible refine Below.setCell ?_ ?_ _ | with_reducible refine Below.drew ?_ | with_reducible refine Below.alloc ?_ ?_ _ | with_reducible refine below_then ?_ hbc | with_reducible refine below_then ?_ hbb | with_reducible refine below_then ?_ hba | (focus (first | (simp; done) | (simp; omega) | omega | exact Nat.le_refl _)))))) ((first
        | (go_at_call_of 5 (Value.agg #[.int .i64 a, .int .i64 b, .int .i64 c]); refine (H1.out _).mono ?_; rintro e wa ⟨rfl, hba⟩; obtain ⟨hca, hfa⟩ := bcell hba; have hza := hba.size; have hya := hza; (try simp only [alloc_sz, drew_sz] at hya); have hla : ∀ b, b < (World.heap _).size → b < wa.heap.size := fun b hb => Nat.lt_of_lt_of_le hb hza)
        | (go_at_call_of 5 (Value.agg #[.int .i64 x, .int .i64 y, .int .i64 z]); refine (H2.out _).mono ?_; rintro e wb ⟨rfl, hbb⟩; obtain ⟨hcb, hfb⟩ := bcell hbb; have hzb := hbb.size; have hyb := hzb; (try simp only [alloc_sz, drew_sz] at hyb); have hlb : ∀ b, b < (World.heap _).size → b < wb.heap.size := fun b hb => Nat.lt_of_lt_of_le hb hzb; first | (have hlb0 := fun b h => hlb b (hla b h); have hcb0 := fun b o h => (hcb b o (hla b h)).trans (hca b o h); have hfb0 := fun b o h => (hfb b o (hla b h)).trans (hfa b o h)) | skip)
        | (go_at_call 4; refine (HS.out _).mono ?_; rintro e wc ⟨rfl, hbc⟩; obtain ⟨hcc, hfc⟩ := bcell hbc; have hzc := hbc.size; have hyc := hzc; (try simp only [alloc_sz, drew_sz] at hyc); have hlc : ∀ b, b < (World.heap _).size → b < wc.heap.size := fun b hb => Nat.lt_of_lt_of_le hb hzc; first | (have hcc0 := fun b o h => (hcc b o (hlb0 b h)).trans (hcb0 b o h); have hfc0 := fun b o h => (hfc b o (hlb0 b h)).trans (hfb0 b o h)) | skip)))
    all_goals (go_wp2_with fail; go_meet; refine ⟨_, rfl, ?_, ?_⟩)
    all_goals first | ((repeat (first | with_reducible exact Below.refl _ _ | with_reducible refine Below.setCell ?_ ?_ _ | with_reducible refine Below.drew ?_ | with_reducible refine Below.alloc ?_ ?_ _ | with_reducible refine below_then ?_ hbc | with_reducible refine below_then ?_ hbb | with_reducible refine below_then ?_ hba | (focus (first | (simp; done) | (simp; omega) | omega | exact Nat.le_refl _)))); done) | ((first | with_reducible refine Blk.fresh ?_ | refine Blk.set (cs := #[.int .i64 p, .int .i64 q, .int .i64 0]) (Blk.set (cs := #[.int .i64 p, .int .i64 0, .int .i64 0]) (Blk.set (cs := #[.int .i64 0, .int .i64 0, .int .i64 0]) ?_ 0 (.int .i64 p)) 1 (.int .i64 q)) 2 (.int .i64 r)); (repeat (first | with_reducible refine Blk.undrew ?_ | with_reducible refine Blk.below ?_ hbc | with_reducible refine Blk.below ?_ hbb | with_reducible refine Blk.below ?_ hba | with_reducible refine Blk.fresh ?_ | with_reducible refine Blk.alloc ?_ _ | (focus (first | (simp; done) | (simp; omega) | omega | exact Nat.le_refl _)))); done)
  case rest =>
    obtain ⟨g, rfl, hgB, hbx⟩ := hcut
    have HA := Lib.hid (HA.out.below hbx)
    have HX := Lib.hid (HX.out.below hbx)
    have hbx := below_then hal hbx
    clear a0 a1 a2 x0 x1 x2 hA9 hX9 hal
    obtain ⟨wo, hwo⟩ : ∃ wo : World, wo = wc := ⟨_, rfl⟩
    subst hwo
    have hg := hgB.lt
    have g0 : wo.cell? ⟨g, 0, none⟩ = some (.int .i64 p) := hgB.cell 0
    have g1 : wo.cell? ⟨g, 1, none⟩ = some (.int .i64 q) := hgB.cell 1
    have g2 : wo.cell? ⟨g, 2, none⟩ = some (.int .i64 r) := hgB.cell 2
    have a0 : wo.cell? ⟨w.heap.size, 0, none⟩ = some (.int .i64 a) := HA.out.cell 0
    have a1 : wo.cell? ⟨w.heap.size, 1, none⟩ = some (.int .i64 b) := HA.out.cell 1
    have a2 : wo.cell? ⟨w.heap.size, 2, none⟩ = some (.int .i64 c) := HA.out.cell 2
    have x0 : wo.cell? ⟨w.heap.size + 1, 0, none⟩ = some (.int .i64 x) := HX.out.cell 0
    have x1 : wo.cell? ⟨w.heap.size + 1, 1, none⟩ = some (.int .i64 y) := HX.out.cell 1
    have x2 : wo.cell? ⟨w.heap.size + 1, 2, none⟩ = some (.int .i64 z) := HX.out.cell 2
    have hA9 := HA.out.lt
    have hX9 := HX.out.lt
    go_upto_region 2 with fail
    go_cut [6] (fun u6 wx => ∃ h : Nat, u6 = .pointer (some ⟨h, 0, none⟩) ∧ Blk wx h #[.int .i64 p, .int .i64 q, .int .i64 r] 24 ∧ Below wo.heap.size wo wx)
    case first =>
      go_region_held3 (fun W => W.cell? ⟨w.heap.size, 0, none⟩ = some (.int .i64 a) ∧ W.cell? ⟨w.heap.size, 1, none⟩ = some (.int .i64 b) ∧ W.cell? ⟨w.heap.size, 2, none⟩ = some (.int .i64 c) ∧ W.cell? ⟨w.heap.size + 1, 0, none⟩ = some (.int .i64 x) ∧ W.cell? ⟨w.heap.size + 1, 1, none⟩ = some (.int .i64 y) ∧ W.cell? ⟨w.heap.size + 1, 2, none⟩ = some (.int .i64 z)) ((refine keepSix hA9 hX9 a0 a1 a2 x0 x1 x2 ?_; (repeat (first | with_reducible exact Below.refl _ _ | with_reducible refine Below.setCell ?_ ?_ _ | with_reducible refine Below.drew ?_ | with_reducible refine Below.alloc ?_ ?_ _ | with_reducible refine below_then ?_ hbc | with_reducible refine below_then ?_ hbb | with_reducible refine below_then ?_ hba | (focus (first | (simp; done) | (simp; omega) | omega | exact Nat.le_refl _)))))) ((first
        | (go_at_call_of 5 (Value.agg #[.int .i64 a, .int .i64 b, .int .i64 c]); refine (H1.out _).mono ?_; rintro e wa ⟨rfl, hba⟩; obtain ⟨hca, hfa⟩ := bcell hba; have hza := hba.size; have hya := hza; (try simp only [alloc_sz, drew_sz] at hya); have hla : ∀ b, b < (World.heap _).size → b < wa.heap.size := fun b hb => Nat.lt_of_lt_of_le hb hza)
        | (go_at_call_of 5 (Value.agg #[.int .i64 x, .int .i64 y, .int .i64 z]); refine (H2.out _).mono ?_; rintro e wb ⟨rfl, hbb⟩; obtain ⟨hcb, hfb⟩ := bcell hbb; have hzb := hbb.size; have hyb := hzb; (try simp only [alloc_sz, drew_sz] at hyb); have hlb : ∀ b, b < (World.heap _).size → b < wb.heap.size := fun b hb => Nat.lt_of_lt_of_le hb hzb; first | (have hlb0 := fun b h => hlb b (hla b h); have hcb0 := fun b o h => (hcb b o (hla b h)).trans (hca b o h); have hfb0 := fun b o h => (hfb b o (hla b h)).trans (hfa b o h)) | skip)
        | (go_at_call 6; refine (HI.out _).mono ?_; rintro e wc ⟨rfl, hbc⟩; obtain ⟨hcc, hfc⟩ := bcell hbc; have hzc := hbc.size; have hyc := hzc; (try simp only [alloc_sz, drew_sz] at hyc); have hlc : ∀ b, b < (World.heap _).size → b < wc.heap.size := fun b hb => Nat.lt_of_lt_of_le hb hzc; first | (have hcc0 := fun b o h => (hcc b o (hlb0 b h)).trans (hcb0 b o h); have hfc0 := fun b o h => (hfc b o (hlb0 b h)).trans (hfb0 b o h)) | skip)))
      all_goals (go_wp2_with fail; go_meet; refine ⟨_, rfl, ?_, ?_⟩)
      all_goals first | ((repeat (first | with_reducible exact Below.refl _ _ | with_reducible refine Below.setCell ?_ ?_ _ | with_reducible refine Below.drew ?_ | with_reducible refine Below.alloc ?_ ?_ _ | with_reducible refine below_then ?_ hbc | with_reducible refine below_then ?_ hbb | with_reducible refine below_then ?_ hba | (focus (first | (simp; done) | (simp; omega) | omega | exact Nat.le_refl _)))); done) | ((first | with_reducible refine Blk.fresh ?_ | refine Blk.set (cs := #[.int .i64 p, .int .i64 q, .int .i64 0]) (Blk.set (cs := #[.int .i64 p, .int .i64 0, .int .i64 0]) (Blk.set (cs := #[.int .i64 0, .int .i64 0, .int .i64 0]) ?_ 0 (.int .i64 p)) 1 (.int .i64 q)) 2 (.int .i64 r)); (repeat (first | with_reducible refine Blk.undrew ?_ | with_reducible refine Blk.below ?_ hbc | with_reducible refine Blk.below ?_ hbb | with_reducible refine Blk.below ?_ hba | with_reducible refine Blk.fresh ?_ | with_reducible refine Blk.alloc ?_ _ | (focus (first | (simp; done) | (simp; omega) | omega | exact Nat.le_refl _)))); done)
    case rest =>
      obtain ⟨h, rfl, hhB, hbo⟩ := hcut
      have hh := hhB.lt
      have h0 := hhB.cell 0
      have h1 := hhB.cell 1
      have h2 := hhB.cell 2
      simp only [List.getElem?_toArray, List.getElem?_cons_zero, List.getElem?_cons_succ] at h0 h1 h2
      have e0 := (hbo.cell (p := ⟨g, 0, none⟩) hg).trans g0
      have e1 := (hbo.cell (p := ⟨g, 1, none⟩) hg).trans g1
      have e2 := (hbo.cell (p := ⟨g, 2, none⟩) hg).trans g2
      have hfin := below_then hbx hbo
      go_wp2_with fail
      refine (HE.out _).mono ?_
      rintro e w9 ⟨rfl, hb9⟩
      go_wp2
      go_ret
      exact ⟨rfl, below_then hfin hb9⟩


theorem own : ownKnob Try.prog.godebug = none := by kernel_rfl
theorem measCells : Try.prog.cellsOf 23 = 3 := by kernel_rfl
theorem measReads {H : Type} {enc : TypeId × Value → H} {W : World} {b : Nat} {sp : Nat → Bool} {hd : Bool} (x y f : Int) (wx : (Lit.int .i64 x).wf = true) (wy : (Lit.int .i64 y).wf = true) (wf : (Lit.int .i64 f).wf = true) :
    DataW.Trod enc Try.prog W b sp hd 23 (.agg #[.int .i64 x, .int .i64 y, .int .i64 f]) (.agg [.lit (.int .i64 x), .lit (.int .i64 y), .lit (.int .i64 f)]) [] := by
  simpa using shut_agg3 (enc := enc) (w := W) (base := b) (spare := sp) (held := hd) (y0 := (.lit (.int .i64 x), [])) (y1 := (.lit (.int .i64 y), [])) (y2 := (.lit (.int .i64 f), [])) Try.underlying23 (by kernel_rfl) measCells ⟨1, by simp [DataW.trod, Try.underlying3, wx]⟩ ⟨1, by simp [DataW.trod, Try.underlying3, wy]⟩ ⟨1, by simp [DataW.trod, Try.underlying3, wf]⟩

set_option maxRecDepth 100000 in
theorem lifted (os : Os) (started : os.Started) (H : Type) (enc : TypeId × Value → H) :
    ReturnsInHanded {} Try.checked os 3 .any (Rows.fnExactMeasAddSpec.pre6 enc Try.prog Try.f3 Rows.fnExactMeasAddRow.domain false) (Rows.fnExactMeasAddSpec.post enc Try.prog Try.f3 false true false false) := by
  refine returnsInHanded_of_change (C := Try.checked) own started (by kernel_rfl) Try.func3
    (ChangeSpec.witness6 (enc := enc) (C := Try.checked) false ⟨#[], #[.agg #[.int .i64 0, .int .i64 0, .int .i64 0], .agg #[.int .i64 0, .int .i64 0, .int .i64 0]], []⟩ 8 (by kernel_rfl) (by kernel_rfl) (by kernel_rfl) (by kernel_rfl)) ?_
  intro W base args ds gs before hval0 hW hcnd _
  have hval : ∀ (j : Nat) t v, Try.f3.params[j]? = some t → args[j]? = some v → Value.okWide Try.prog W .any base t v := hval0
  have hW' := hW
  obtain ⟨p, q, hA0, hV, rfl, hfz, hnd⟩ := hW
  have hA : DataW.TrodAll enc Try.prog W 0 (fun _ => true) true Try.f3.params.toList args.toList ds p := hA0
  rw [Try.params3] at hA hval
  obtain ⟨v0, vs0, d0, ds0, p0, q0, hargs, rfl, rfl, h0, r0⟩ := trodAll_cons hA
  obtain ⟨v1, vs1, d1, ds1, p1, q1, rfl, rfl, rfl, h1, r1⟩ := trodAll_cons r0
  obtain ⟨rfl, rfl, rfl⟩ := trodAll_nil r1
  obtain rfl : args = #[v0, v1] := by cases args; simp_all
  obtain ⟨rfl, rfl⟩ := trodVars_none hV
  obtain ⟨c0, c1, c2, y0, y1, y2, m, rfl, rfl, rfl, hy0, hy1, hy2⟩ := open_agg3 Try.underlying23 (by kernel_rfl) measCells (hval 0 23 v0 rfl rfl) h0
  obtain ⟨a, e0, rfl, wa⟩ := DataW.trod_int Try.underlying3 hy0
  obtain ⟨b, e1, rfl, wb⟩ := DataW.trod_int Try.underlying3 hy1
  obtain ⟨c, e2, rfl, wc⟩ := DataW.trod_int Try.underlying3 hy2
  simp at e0 e1 e2
  subst e0 e1 e2
  obtain ⟨c3, c4, c5, y3, y4, y5, m', rfl, rfl, rfl, hy3, hy4, hy5⟩ := open_agg3 Try.underlying23 (by kernel_rfl) measCells (hval 1 23 v1 rfl rfl) h1
  obtain ⟨x, e3, rfl, wx⟩ := DataW.trod_int Try.underlying3 hy3
  obtain ⟨y, e4, rfl, wy⟩ := DataW.trod_int Try.underlying3 hy4
  obtain ⟨z, e5, rfl, wz⟩ := DataW.trod_int Try.underlying3 hy5
  simp at e3 e4 e5
  subst e3 e4 e5
  clear hA0 hval0
  simp only [List.append_nil] at hW'
  refine (walk a b c x y z W).mono fun e W' ⟨he, bel⟩ => ?_
  subst he
  exact ⟨_, rfl, _, _, _, [], [], [], hW', trodAll_mk1 (shut_bool Try.underlying4 _), trodAll_cons_mk (measReads a b c wa wb wc) (trodAll_cons_mk (measReads x y z wx wy wz) trodAll_mk0), rfl, bel.frame _, fun h => by cases h⟩

/-- THE STATEMENT -/
theorem said : Rows.FnExactMeasAddSaid :=
  OpenClaim.holds_of_wide 3 Try.f3 rfl rfl rfl rfl rfl rfl rfl ⟨rfl, rfl, rfl, rfl, rfl⟩ rfl rfl rfl rfl rfl (by kernel_rfl) Try.func3 (by kernel_rfl)
    (of_decide_eq_true (by kernel_rfl)) (by unfold Func.isWrapper; first | (rw [if_pos (by decide +kernel)]; kernel_rfl) | (rw [if_neg (by decide +kernel)]; exact ⟨rfl, rfl⟩))
    (fun os started H enc _ => lifted os started H enc)

end fnExactMeasAdd
end Go.Proofs.Ytpgeanombiociaa
