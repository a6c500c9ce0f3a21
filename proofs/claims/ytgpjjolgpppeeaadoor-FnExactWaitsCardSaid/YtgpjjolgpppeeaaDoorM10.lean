/-
  Chapter 12, the program's search for the last request of a session, and for the first output behind it: contracts. Own work.
-/
import Derived.RangeFuncNested
import Derived.RangeFuncBound
import Derived.RangeFuncCalls
import Derived.RangeFuncLeaves
import Derived.Shelf.Abstract
import Derived.WalkKit
import Derived.OwnWalkIn
import Derived.TacticsInMore
import Derived.LoopNIn
import Derived.LoopIn
import Derived.RangeFuncBox
import Derived.Test.YtgpjjolgpppeeaaDoorM09
import Derived.Deep.RegionHeld3
import Derived.Deep.DeepCutAuto
namespace Go.Proofs.YtgpjjolgpppeeaaDoor
open Go.RowKit Go.Shelf P
set_option linter.unusedVariables false
set_option linter.unusedSimpArgs false
set_option maxRecDepth 100000

set_option maxHeartbeats 4000000 in
theorem later_any (a u x s p q r f y i j : Int) (AA : Option Addr) (l : List UInt8) (cc : Nat) (CC : Option Addr) (m : List UInt8) (dd : Nat) (g5 g7 : Nat) (n t : Int) (w : World) (h5 : w.cell? ⟨g5, 0, none⟩ = some (.int .i64 n)) (h7 : w.cell? ⟨g7, 0, none⟩ = some (.int .i64 t)) (l5 : g5 < w.heap.size) (l7 : g7 < w.heap.size) :
    Calls Tryd.prog 63 #[.agg #[.int .i64 a, .int .i64 u, .int .i64 x, .int .i64 s, .int .i64 p, .int .i64 q, .int .i64 r, .slice AA l.length cc, .int .i64 f, .int .i64 y, .int .i64 i, .int .i64 j, .slice CC m.length dd], .pointer (some ⟨g5, 0, none⟩), .pointer (some ⟨g7, 0, none⟩)] w fun e w' => e = .returned (.bool (anP n t (a, u, (x, s, p, q, r, l), f, (y, i, j, m)))) ∧ Below w.heap.size w w' := by
  have hal := bsm1 w (.cells #[.int .i64 a, .int .i64 u, .int .i64 x, .int .i64 s, .int .i64 p, .int .i64 q, .int .i64 r, .slice AA l.length cc, .int .i64 f, .int .i64 y, .int .i64 i, .int .i64 j, .slice CC m.length dd] 85)
  have HB := Lib.hid hal
  have q5 := (hal.cell (p := ⟨g5, 0, none⟩) l5).trans h5
  have q7 := (hal.cell (p := ⟨g7, 0, none⟩) l7).trans h7
  obtain ⟨z, hz⟩ : ∃ z, anP n t (a, u, (x, s, p, q, r, l), f, (y, i, j, m)) = z := ⟨_, rfl⟩
  have HZ := Lib.hid (show (decide (u = n) && decide (t < a)) = z from hz)
  rw [hz]
  clear hz hal h5 h7
  by_cases hu : u = n
  case neg =>
    have eu : (u == n) = false := by simp [hu]
    have hzf : z = false := by rw [← HZ.out]; simp [hu]
    subst hzf
    go_enter Tryd.func63, Tryd.ntmps63
    go_wp2
    go_ret
    exact ⟨rfl, HB.out⟩
  have eu : (u == n) = true := by simp [hu]
  have HU := Lib.hid hu
  clear hu
  by_cases ha : t < a
  case neg =>
    have ea : decide (a > t) = false := decide_eq_false ha
    have ea2 : decide (t < a) = false := decide_eq_false ha
    have hzf : z = false := by rw [← HZ.out, ea2]; simp
    subst hzf
    go_enter Tryd.func63, Tryd.ntmps63
    go_wp2
    go_ret
    exact ⟨rfl, HB.out⟩
  have ea : decide (a > t) = true := decide_eq_true ha
  have ea2 : decide (t < a) = true := decide_eq_true ha
  have hzf : z = true := by rw [← HZ.out, ea2, decide_eq_true HU.out]; rfl
  subst hzf
  go_enter Tryd.func63, Tryd.ntmps63
  go_wp2
  go_ret
  exact ⟨rfl, HB.out⟩

set_option maxHeartbeats 8000000 in
theorem laterIx_any (A : Option Addr) (os : List Ot) (c g5 g7 : Nat) (n t : Int) (w : World) (hl : os.length ≤ 1048576) (hA : Ots w A os) (h5 : w.cell? ⟨g5, 0, none⟩ = some (.int .i64 n)) (h7 : w.cell? ⟨g7, 0, none⟩ = some (.int .i64 t)) (l5 : g5 < w.heap.size) (l7 : g7 < w.heap.size) :
    Calls Tryd.prog 62 #[.slice A os.length c, .func (.func 63) #[] #[.pointer (some ⟨g5, 0, none⟩), .pointer (some ⟨g7, 0, none⟩)]] w fun e w' => (∃ r : Int, e = .returned (.int .i64 r) ∧ ((r = -1 ∧ ∀ z (hz : z < os.length), anP n t os[z] = false) ∨ ∃ k, ∃ hk : k < os.length, r = (k : Int) ∧ anP n t os[k] = true ∧ ∀ z (hz : z < k), anP n t (os[z]'(by omega)) = false)) ∧ Below w.heap.size w w' := by
  have hn9 : os.length ≤ 9223372036854775807 := by omega
  go_enter Tryd.func62, Tryd.ntmps62
  go_wp2
  go_loopw [8] (fun i wr => ∃ k : Nat, k ≤ os.length ∧ i = .int .i64 k ∧ Hid (∀ z (hz : z < os.length), z < k → anP n t os[z] = false) ∧ Below w.heap.size w wr)
    (fun i _ => os.length - (intOf i).toNat)
  case atStart => exact ⟨0, Nat.zero_le _, rfl, Lib.hid (fun z hz h => absurd h (by omega)), Below.refl _ _⟩
  case round =>
    obtain ⟨k, hk, rfl, HALL, hb⟩ := hrel
    by_cases hlt : k < os.length
    · have hki : (k : Int) < (os.length : Int) := by omega
      obtain ⟨b, off, a, u, x, s, p, q, r, f, y, i, j, AA, l, cc, CC, m, dd, rfl, hbl, hek, k0, k1, k2, k3, k4, k5, k6, k7, k8, k9, k10, k11, k12, i0, i1, i2, i3, i4, i5, i6, i7, i8, i9, i10, hl0, hc0, hb0, hl1, hc1, hb1⟩ := (hA.below hb).at_ k hlt
      have hc := Lib.hid (later_any a u x s p q r f y i j AA l cc CC m dd g5 g7 n t wr ((hb.cell (p := ⟨g5, 0, none⟩) l5).trans h5) ((hb.cell (p := ⟨g7, 0, none⟩) l7).trans h7) (Nat.lt_of_lt_of_le l5 hb.size) (Nat.lt_of_lt_of_le l7 hb.size))
      obtain ⟨v, hv⟩ : ∃ v, anP n t (a, u, (x, s, p, q, r, l), f, (y, i, j, m)) = v := ⟨_, rfl⟩
      have HV := Lib.hid hv
      have HEK := Lib.hid (show anP n t os[k] = v by rw [hek]; exact hv)
      clear hek hv i0 i1 i2 i3 i4 i5 i6 i7 i8 i9 i10 hl0 hc0 hb0 hl1 hc1 hb1
      go_wp2_with fail
      refine hc.out.mono ?_
      rintro e w1 ⟨rfl, hb1⟩
      rw [HV.out]
      have hb9 := below_then hb hb1
      clear k0 k1 k2 k3 k4 k5 k6 k7 k8 k9 k10 k11 k12
      cases v
      · have HN := Lib.hid (show ∀ z (hz : z < os.length), z < k + 1 → anP n t os[z] = false from fun z hz h => by
          rcases Nat.lt_succ_iff_lt_or_eq.1 h with h1 | h1
          · exact HALL.out z hz h1
          · subst h1; exact HEK.out)
        go_wp2
        go_roundw
        case rel => exact ⟨k + 1, by omega, by go_num, HN, hb9⟩
        case measure => simp [intOf]; omega
      · go_wp2
        go_ret
        exact ⟨⟨_, rfl, .inr ⟨k, hlt, rfl, HEK.out, fun z hz => HALL.out z (by omega) hz⟩⟩, hb9⟩
    · have e : k = os.length := by omega
      have HN := Lib.hid (show ∀ z (hz : z < os.length), anP n t os[z] = false from fun z hz => HALL.out z hz (by omega))
      clear e
      go_wp2
      go_ret
      exact ⟨⟨_, rfl, .inl ⟨rfl, HN.out⟩⟩, hb⟩

/-- A block of cells speaks of cells alone. -/
theorem blk_own9 {β : Type} (b : Nat) (cs : Array Value) (t : TypeId) : Go.Own (fun (_ : β) W => Blk W b cs t) := fun s X Y row hs hg hrow =>
  (hg.block b (show b < X.heap.size from Blk.lt hs) (fun e' => by
    obtain ⟨o, ho, hc⟩ := hrow b (by first | exact e' | exact e'.symm)
    rw [show X.heap[b]? = _ from hs] at ho
    cases ho
    cases hc)).trans hs
/-- The first k places of n, from the end on. -/
def ksd (n : Nat) : Nat → List { j : Nat // j < n }
  | 0 => []
  | k + 1 => if h : n - 1 - k < n then ksd n k ++ [⟨n - 1 - k, h⟩] else ksd n k
theorem ksd_succ {n k : Nat} (h : n - 1 - k < n) : ksd n (k + 1) = ksd n k ++ [⟨n - 1 - k, h⟩] := by
  show (if h : n - 1 - k < n then ksd n k ++ [⟨n - 1 - k, h⟩] else ksd n k) = _
  rw [dif_pos h]
theorem ksd_len {n : Nat} : ∀ {k : Nat}, k ≤ n → (ksd n k).length = k := by
  intro k
  induction k with
  | zero => intro _; rfl
  | succ k ih => intro h; rw [ksd_succ (by omega), List.length_append, ih (by omega)]; rfl
theorem ksd_mem {n : Nat} : ∀ {k : Nat}, k ≤ n → ∀ j (hj : j < n), n - k ≤ j → (⟨j, hj⟩ : { j : Nat // j < n }) ∈ ksd n k := by
  intro k
  induction k with
  | zero => intro _ j hj h; omega
  | succ k ih =>
    intro h j hj hk
    rw [ksd_succ (by omega), List.mem_append]
    by_cases h1 : n - k ≤ j
    · exact .inl (ih (by omega) j hj h1)
    · right
      rw [List.mem_singleton]
      apply Subtype.ext
      show j = n - 1 - k
      omega
theorem asked_stop {es : List Evt} {n : Int} {i : Nat} (hi : i < es.length) (h1 : isFr es[i] n = true) : ∀ k, i < k → k ≤ es.length → (∀ j (hj : j < es.length), i < j → isFr es[j] n = false) → asked es n k = (i : Int) := by
  intro k
  induction k with
  | zero => intro h; omega
  | succ k ih =>
    intro h hk hno
    rw [asked_succ (show k < es.length by omega) rfl]
    by_cases h2 : i = k
    · subst h2; rw [if_pos h1]
    · rw [if_neg (by rw [hno k (by omega) (by omega)]; simp)]
      exact ih (by omega) (by omega) hno
theorem asked_none {es : List Evt} {n : Int} : ∀ k, k ≤ es.length → (∀ j (hj : j < es.length), isFr es[j] n = false) → asked es n k = -1 := by
  intro k
  induction k with
  | zero => intro _ _; rfl
  | succ k ih =>
    intro hk hno
    rw [asked_succ (show k < es.length by omega) rfl, if_neg (by rw [hno k (by omega)]; simp)]
    exact ih (by omega) hno

/-- The events of a list in memory, each with the header of its data. -/
structure EvMem (n₀ : Nat) (w0 : World) (A : Option Addr) (es : List Evt) (H : { j : Nat // j < es.length } → Option Addr × Nat) : Prop where
  at_ : ∀ x : { j : Nat // j < es.length }, ∃ g, A = some ⟨g, 0, none⟩ ∧ g < n₀ ∧ w0.cell? ⟨g, x.1 * 4, none⟩ = some (.int .i64 (es[x.1]'x.2).1) ∧ w0.cell? ⟨g, x.1 * 4 + 1, none⟩ = some (.int .i64 (es[x.1]'x.2).2.1) ∧ w0.cell? ⟨g, x.1 * 4 + 2, none⟩ = some (.int .i64 (es[x.1]'x.2).2.2.1) ∧ w0.cell? ⟨g, x.1 * 4 + 3, none⟩ = some (.slice (H x).1 (es[x.1]'x.2).2.2.2.length (H x).2)
  hd : ∀ x : { j : Nat // j < es.length }, (es[x.1]'x.2).2.2.2.length ≤ (H x).2 ∧ (H x).2 ≤ 9223372036854775807 ∧ Bs w0 (H x).1 (es[x.1]'x.2).2.2.2 ∧ ((H x).1 = none → (H x).2 = 0) ∧ (∀ a, (H x).1 = some a → ∃ g o, a = ⟨g, o, none⟩)
theorem evMem_of {w : World} {lo hi : Nat} {A : Option Addr} {es : List Evt} {c : Nat} {fE : List Nat} (h : OwnL 83 Lay.rpL w lo hi A es c fE) : ∃ H, EvMem w.heap.size w A es H := by
  have h1 : ∀ x : { j : Nat // j < es.length }, ∃ y : Option Addr × Nat, (∃ g, A = some ⟨g, 0, none⟩ ∧ g < w.heap.size ∧ w.cell? ⟨g, x.1 * 4, none⟩ = some (.int .i64 (es[x.1]'x.2).1) ∧ w.cell? ⟨g, x.1 * 4 + 1, none⟩ = some (.int .i64 (es[x.1]'x.2).2.1) ∧ w.cell? ⟨g, x.1 * 4 + 2, none⟩ = some (.int .i64 (es[x.1]'x.2).2.2.1) ∧ w.cell? ⟨g, x.1 * 4 + 3, none⟩ = some (.slice y.1 (es[x.1]'x.2).2.2.2.length y.2)) ∧ ((es[x.1]'x.2).2.2.2.length ≤ y.2 ∧ y.2 ≤ 9223372036854775807 ∧ Bs w y.1 (es[x.1]'x.2).2.2.2 ∧ (y.1 = none → y.2 = 0) ∧ (∀ a, y.1 = some a → ∃ g o, a = ⟨g, o, none⟩)) := fun x => by
    obtain ⟨g, ex, es9, ep, D, l, dc, hA, hg, he, c0, c1, c2, c3, _, _, _, q1, q2, q3, q4, q5⟩ := ev_own h x.1 x.2
    refine ⟨(D, dc), ⟨g, hA, hg, ?_, ?_, ?_, ?_⟩, ?_, q2, ?_, q4, q5⟩
    all_goals rw [he]
    · exact c0
    · exact c1
    · exact c2
    · exact c3
    · exact q1
    · exact q3
  obtain ⟨H, hH⟩ := Classical.axiomOfChoice h1
  exact ⟨H, fun x => (hH x).1, fun x => (hH x).2⟩
/-- What a round is handed: the index and the event. -/
def evEnc (es : List Evt) (H : { j : Nat // j < es.length } → Option Addr × Nat) (x : { j : Nat // j < es.length }) : Array Value := #[.int .i64 (x.1 : Int), .agg #[.int .i64 (es[x.1]'x.2).1, .int .i64 (es[x.1]'x.2).2.1, .int .i64 (es[x.1]'x.2).2.2.1, .slice (H x).1 (es[x.1]'x.2).2.2.2.length (H x).2]]

set_option maxHeartbeats 4000000 in
theorem backward1_in (F : Fence) (n : Nat) (hF : F.fn 109) (hro : F.round = none) (hn : 1 ≤ n) (l Br : Nat) (w0 : World) (A : Option Addr) (es : List Evt) (c : Nat) (H : { j : Nat // j < es.length } → Option Addr × Nat) (hlen : es.length ≤ 1048576)
    (hM : EvMem w0.heap.size w0 A es H) (W : World) (J Jx : List { j : Nat // j < es.length } → World → Prop) (hW : Below w0.heap.size w0 W) (hJ : AbidesFrom W.heap.size J) (hBr0 : Br < W.heap.size) (n₀ : Nat) (hn₀ : w0.heap.size ≤ n₀) (hn1 : n₀ ≤ W.heap.size) (hBn : Br < n₀)
    (hY : ∀ pre x W1, J pre W1 → pre.length < es.length → YieldAt F (n - 1) Tryd.prog l (evEnc es H x) W1 fun e W' =>
      (e = .returned (.bool true) ∧ J (pre ++ [x]) W' ∧ Below n₀ W1 W') ∨ (e = .returned (.bool false) ∧ Jx (pre ++ [x]) W'))
    (hBr : W.cell? ⟨Br, 0, none⟩ = some (.slice A es.length c)) (h0 : J [] W) :
    CallsIn F n Tryd.prog 109 #[.func (.yield l) #[] #[], .pointer (some ⟨Br, 0, none⟩)] W fun e W' => (∃ v, e = .returned v) ∧
      ((∃ ys, ys = ksd es.length es.length ∧ J ys W') ∨ (∃ pre, (∃ k, k ≤ es.length ∧ pre = ksd es.length k) ∧ Jx pre W')) := by
  refine callsIn_of_wp Tryd.func109 rfl hF ?_ hro
  simp only [Tryd.ntmps109, List.size_toArray, List.length_cons, List.length_nil, Nat.reduceAdd, Nat.reduceSub, Array.replicate_succ, Array.replicate_zero, List.push_toArray, List.append_toArray, List.nil_append, List.cons_append]
  have hw1 : IntKind.i64.wrap ((es.length : Int) - 1) = (es.length : Int) - 1 := IntWalk.i64_in _ ⟨by omega, by omega⟩
  gi_wp2
  gi_loopw [3] (fun i wr => ∃ k : Nat, k ≤ es.length ∧ i = .int .i64 ((es.length : Int) - 1 - k) ∧ J (ksd es.length k) wr ∧ Below n₀ W wr)
    (fun i _ => (intOf i + 1).toNat)
  case atStart => exact ⟨0, Nat.zero_le _, by simp, h0, Below.refl _ _⟩
  case round =>
    obtain ⟨k, hk, rfl, hJs, hnx⟩ := hrel
    have hb9 := (hnx.cell (p := ⟨Br, 0, none⟩) hBn).trans hBr
    by_cases hlt : k < es.length
    · obtain ⟨j, hj⟩ : ∃ j : Nat, es.length - 1 - k = j := ⟨_, rfl⟩
      have hjl : j < es.length := by omega
      have hij : (es.length : Int) - 1 - k = (j : Int) := by omega
      rw [hij]
      obtain ⟨g, rfl, hg, c0, c1, c2, c3⟩ := hM.at_ ⟨j, hjl⟩
      have hWn := hW.trans (hnx.mono hn₀)
      have d0 := (hWn.cell (p := ⟨g, j * 4, none⟩) hg).trans c0
      have d1 := (hWn.cell (p := ⟨g, j * 4 + 1, none⟩) hg).trans c1
      have d2 := (hWn.cell (p := ⟨g, j * 4 + 2, none⟩) hg).trans c2
      have d3 := (hWn.cell (p := ⟨g, j * 4 + 3, none⟩) hg).trans c3
      obtain ⟨fn, tmps, assign, body, hy, hRd⟩ := hY _ ⟨j, hjl⟩ _ hJs (by rw [ksd_len hk]; exact hlt)
      dsimp only [evEnc] at hy
      have hsc := ksd_succ (n := es.length) (k := k) (by omega)
      have HSC := Lib.hid (show ksd es.length (k + 1) = ksd es.length k ++ [⟨j, hjl⟩] by rw [hsc]; congr 2; exact Subtype.ext hj)
      have hj0 : (j : Int) < (es.length : Int) := by omega
      have hj1 : (0 : Int) ≤ (j : Int) := by omega
      have hj2 : decide ((j : Int) ≥ 0) = true := decide_eq_true hj1
      have hwj : IntKind.i64.wrap ((j : Int) - 1) = (j : Int) - 1 := IntWalk.i64_in _ ⟨by omega, by omega⟩
      clear hsc c0 c1 c2 c3 hWn
      generalize (es[j]).1 = v0 at *
      generalize (es[j]).2.1 = v1 at *
      generalize (es[j]).2.2.1 = v2 at *
      generalize (es[j]).2.2.2.length = v3 at *
      generalize (H ⟨j, hjl⟩).1 = v4 at *
      generalize (H ⟨j, hjl⟩).2 = v5 at *
      gi_wp2
      refine hRd.mono ?_
      rintro e W3 (⟨rfl, hJ3, hk3⟩ | ⟨rfl, hJx3⟩)
      · have hb3 := (hk3.cell (p := ⟨Br, 0, none⟩) hBn).trans hb9
        gi_wp2
        go_roundw
        case rel => exact ⟨k + 1, by omega, by first | (congr 1; omega) | (simp; omega), by rw [HSC.out]; exact hJ3, hnx.trans hk3⟩
        case measure => first | (simp [intOf]; done) | (simp [intOf]; omega)
      · gi_wp2
        refine bodyPost_ret (results_none rfl _ _ _) rfl ?_
        exact ⟨⟨_, rfl⟩, .inr ⟨_, ⟨k + 1, by omega, HSC.out.symm⟩, hJx3⟩⟩
    · obtain rfl : k = es.length := by omega
      have hij : (es.length : Int) - 1 - (es.length : Int) = -1 := by omega
      rw [hij]
      gi_wp2
      go_end0
      exact ⟨⟨_, rfl⟩, .inl ⟨_, rfl, hJs⟩⟩

theorem backward_stops (F : Fence) (n : Nat) (hF : F.fn 109) (hro : F.round = none) (hn : 1 ≤ n) (Br n₀ : Nat) (w0 : World) (A : Option Addr) (es : List Evt) (c : Nat) (H : { j : Nat // j < es.length } → Option Addr × Nat) (hlen : es.length ≤ 1048576)
    (hM : EvMem w0.heap.size w0 A es H) (w : World) (hw : Below w0.heap.size w0 w) (hn₀ : w0.heap.size ≤ n₀) (hn1 : n₀ ≤ w.heap.size) (hBn : Br < n₀) (hBr : w.cell? ⟨Br, 0, none⟩ = some (.slice A es.length c)) :
    SeqStopsK F n Tryd.prog 109 #[.pointer (some ⟨Br, 0, none⟩)] (evEnc es H) (Below n₀) (fun ys => ys = ksd es.length es.length) (fun pre => ∃ k, k ≤ es.length ∧ pre = ksd es.length k) es.length w := fun l J Jx W hW hJ _ hY h0 =>
  backward1_in F n hF hro hn l Br w0 A es c H hlen hM W J Jx (hw.trans (hW.mono hw.size)) hJ (by have := hW.size; omega) n₀ hn₀ (by have := hW.size; omega) hBn hY ((hW.cell (p := ⟨Br, 0, none⟩) (show Br < w.heap.size by omega)).trans hBr) h0

theorem backward_any (A : Option Addr) (n c : Nat) (w : World) :
    Calls Tryd.prog 99 #[.slice A n c] w fun e w' => e = .returned (.func (.func 109) #[] #[.pointer (some ⟨w.heap.size, 0, none⟩)]) ∧ w' = w.alloc (.cells #[.slice A n c] 40) := by
  go_enter Tryd.func99, Tryd.ntmps99
  go_wp2
  go_ret
  exact ⟨rfl, rfl⟩
end Go.Proofs.YtgpjjolgpppeeaaDoor
