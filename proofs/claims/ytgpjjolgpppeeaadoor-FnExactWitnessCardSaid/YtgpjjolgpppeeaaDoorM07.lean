/-
  Chapter 12, outputs that can be those of a list of events: contracts of the program and of the model. Own work.
-/
import Derived.Test.YtgpjjolgpppeeaaDoorM06
import Derived.Test.YtgpjjolgpppeeaaDoorC25
import Derived.Test.YtgpjjolgpppeeaaDoorOwnL
import Derived.Deep.RegionHeld3
import Derived.Deep.DeepCutAuto
namespace Go.Proofs.YtgpjjolgpppeeaaDoor
open Go.RowKit P
set_option linter.unusedVariables false
set_option linter.unusedSimpArgs false
set_option maxRecDepth 100000

theorem rpL_inv {w : World} {cs : List Value} {d : Evt} {fp : List Nat} (h : Lay.rpL.ow w cs d fp) : ∃ v, cs = [.int .i64 d.1, .int .i64 d.2.1, .int .i64 d.2.2.1, v] ∧ isI d.1 ∧ isI d.2.1 ∧ isI d.2.2.1 ∧ Own w 0 v d.2.2.2 ∧ fp = v.ownBlock.toList := by
  obtain ⟨c0, c9, f0, f9, rfl, ⟨rfl, i0, rfl⟩, ⟨c1, c2, f1, f2, rfl, ⟨rfl, i1, rfl⟩, ⟨c3, c4, f3, f4, rfl, ⟨rfl, i2, rfl⟩, ⟨v, rfl, ho, rfl⟩, rfl⟩, rfl⟩, rfl⟩ := h
  exact ⟨v, rfl, i0, i1, i2, ho, by simp⟩
/-- One event of a list of the call's own. -/
theorem ev_own {w : World} {lo hi : Nat} {A : Option Addr} {es : List Evt} {c : Nat} {fE : List Nat} (h : OwnL 83 Lay.rpL w lo hi A es c fE) (k : Nat) (hk : k < es.length) :
    ∃ g x s p D l dc, A = some ⟨g, 0, none⟩ ∧ g < w.heap.size ∧ es[k] = (x, s, p, l) ∧ w.cell? ⟨g, k * 4, none⟩ = some (.int .i64 x) ∧ w.cell? ⟨g, k * 4 + 1, none⟩ = some (.int .i64 s) ∧ w.cell? ⟨g, k * 4 + 2, none⟩ = some (.int .i64 p) ∧ w.cell? ⟨g, k * 4 + 3, none⟩ = some (.slice D l.length dc) ∧
      isI x ∧ isI s ∧ isI p ∧ l.length ≤ dc ∧ dc ≤ 9223372036854775807 ∧ Bs w D l ∧ (D = none → dc = 0) ∧ (∀ a, D = some a → ∃ g o, a = ⟨g, o, none⟩) := by
  obtain ⟨g, c', us, fi, hv, hus, hc, hg, _, hox, _, _, _⟩ := Lay.focus h.ow h.nd k hk
  obtain ⟨⟨x, s, p, l⟩, he⟩ : ∃ e, es[k] = e := ⟨_, rfl⟩
  rw [he] at hox
  obtain ⟨v, rfl, i0, i1, i2, hown, _⟩ := rpL_inv hox
  obtain ⟨D, dc, rfl, h1, h2, h3, h4, h5⟩ := own_plain9 hown
  have hA : A = some ⟨g, 0, none⟩ := by simp at hv; exact hv.1
  refine ⟨g, x, s, p, D, l, dc, hA, hg, he, ?_, ?_, ?_, ?_, i0, i1, i2, h1, h2, h3, h4, h5⟩
  · have := hc 0 (by simp); simpa [show Lay.rpL.sz = 4 from rfl] using this
  · have := hc 1 (by simp); simpa [show Lay.rpL.sz = 4 from rfl] using this
  · have := hc 2 (by simp); simpa [show Lay.rpL.sz = 4 from rfl] using this
  · have := hc 3 (by simp); simpa [show Lay.rpL.sz = 4 from rfl] using this

def evG (e : Evt) : Bool := evOk e.1 e.2.1 e.2.2.1 e.2.2.2.length
def mayE (o : Ot) (e : Evt) : Bool := mayA o.2.1 o.2.2.1.1 o.2.2.1.2.1 o.2.2.1.2.2.1 o.2.2.1.2.2.2.1 o.2.2.1.2.2.2.2.1 o.2.2.1.2.2.2.2.2 o.2.2.2.2.1 o.2.2.2.2.2.1 o.2.2.2.2.2.2.1 o.2.2.2.2.2.2.2 e.1 e.2.1 e.2.2.2
def dOt : Ot := (0, 0, (0, 0, 0, 0, 0, []), 0, (0, 0, 0, []))
def dEv : Evt := (0, 0, 0, [])
/-- The index that came before the output k. -/
def lastA (os : List Ot) (k : Nat) : Int := if k = 0 then -1 else (os.getD (k - 1) dOt).1
def okAt (es : List Evt) (os : List Ot) (k : Nat) : Bool := decide (lastA os k < (os.getD k dOt).1) && (decide ((os.getD k dOt).1 < es.length) && mayE (os.getD k dOt) (es.getD (os.getD k dOt).1.toNat dEv))
def outsOk (es : List Evt) (os : List Ot) : Bool := decide (es.length ≤ 300) && (es.all evG && (List.range os.length).all (okAt es os))
theorem getD_lt {α : Type} {l : List α} {k : Nat} {d : α} (h : k < l.length) : l.getD k d = l[k] := by rw [List.getD_eq_getElem?_getD, List.getElem?_eq_getElem h]; rfl
theorem okAt_eq {es : List Evt} {os : List Ot} {k : Nat} {o : Ot} (hk : k < os.length) (ho : os[k] = o) : okAt es os k = (decide (lastA os k < o.1) && (decide (o.1 < es.length) && mayE o (es.getD o.1.toNat dEv))) := by
  unfold okAt
  rw [getD_lt hk, ho]
theorem lastA_succ {os : List Ot} {k : Nat} (hk : k < os.length) : lastA os (k + 1) = os[k].1 := by
  unfold lastA
  rw [if_neg (by omega), Nat.add_sub_cancel, getD_lt hk]
theorem lastA_ge {es : List Evt} {os : List Ot} : ∀ {k : Nat}, k ≤ os.length → (∀ q, q < k → okAt es os q = true) → (k : Int) - 1 ≤ lastA os k := by
  intro k
  induction k with
  | zero => intro _ _; unfold lastA; simp
  | succ n ih =>
    intro hk h
    have h1 := ih (by omega) (fun q hq => h q (by omega))
    have h2 := h n (by omega)
    rw [okAt_eq (by omega) rfl, Bool.and_eq_true, decide_eq_true_eq] at h2
    rw [lastA_succ (by omega)]
    omega
theorem lastA_lt {es : List Evt} {os : List Ot} {k : Nat} (hk : k ≤ os.length) (h : ∀ q, q < k → okAt es os q = true) (h0 : 0 < k) : lastA os k < es.length := by
  obtain ⟨n, rfl⟩ : ∃ n, k = n + 1 := ⟨k - 1, by omega⟩
  have h2 := h n (by omega)
  rw [okAt_eq (by omega) rfl, Bool.and_eq_true, Bool.and_eq_true, decide_eq_true_eq, decide_eq_true_eq] at h2
  rw [lastA_succ (by omega)]
  exact h2.2.1
theorem outsOk_long {es : List Evt} {os : List Ot} (h : 300 < es.length) : outsOk es os = false := by unfold outsOk; rw [decide_eq_false (by omega)]; rfl
theorem outsOk_ev {es : List Evt} {os : List Ot} (h : es.all evG = false) : outsOk es os = false := by unfold outsOk; rw [h]; simp
theorem outsOk_at {es : List Evt} {os : List Ot} {k : Nat} (hk : k < os.length) (h : okAt es os k = false) : outsOk es os = false := by
  have h1 : (List.range os.length).all (okAt es os) = false := by
    rw [List.all_eq_false]
    exact ⟨k, List.mem_range.2 hk, by rw [h]; simp⟩
  unfold outsOk
  rw [h1]
  simp
theorem outsOk_yes {es : List Evt} {os : List Ot} (h1 : es.length ≤ 300) (h2 : es.all evG = true) (h3 : ∀ q, q < os.length → okAt es os q = true) : outsOk es os = true := by
  have h4 : (List.range os.length).all (okAt es os) = true := List.all_eq_true.2 (fun q hq => h3 q (List.mem_range.1 hq))
  unfold outsOk
  rw [decide_eq_true h1, h2, h4]
  rfl
theorem outsOk_more {es : List Evt} {os : List Ot} (h : es.length < os.length) : outsOk es os = false := by
  cases hq : (List.range os.length).all (okAt es os) with
  | false => unfold outsOk; rw [hq]; simp
  | true =>
    have h3 : ∀ q, q < os.length → okAt es os q = true := fun q hq2 => List.all_eq_true.1 hq q (List.mem_range.2 hq2)
    have h4 := lastA_ge (k := os.length) (Nat.le_refl _) h3
    have h5 := lastA_lt (k := os.length) (Nat.le_refl _) h3 (by omega)
    omega
theorem any_not (es : List Evt) : es.any (fun e => !evG e) = !es.all evG := by
  induction es with
  | nil => rfl
  | cons a t ih => simp only [List.any_cons, List.all_cons, ih, Bool.not_and]

set_option maxHeartbeats 2000000 in
theorem notEvent_any (x s p : Int) (A : Option Addr) (l : List UInt8) (c : Nat) (w : World) :
    Calls Tryd.prog 55 #[.agg #[.int .i64 x, .int .i64 s, .int .i64 p, .slice A l.length c]] w fun e w' => e = .returned (.bool (!evG (x, s, p, l))) ∧ Below w.heap.size w w' := by
  have hal := bsm1 w (.cells #[.int .i64 x, .int .i64 s, .int .i64 p, .slice A l.length c] 83)
  obtain ⟨q, hq⟩ : ∃ q, evG (x, s, p, l) = q := ⟨_, rfl⟩
  have HQ := Lib.hid (show evOk x s p l.length = q from hq)
  rw [hq]
  clear hq
  go_enter Tryd.func55, Tryd.ntmps55
  go_wp2_with fail
  refine (implEventOk_any x s p A l.length c _).mono ?_
  rintro e w1 ⟨rfl, hb⟩
  rw [HQ.out]
  have HB := Lib.hid (below_then hal hb)
  clear hb hal
  go_wp2
  go_ret
  exact ⟨rfl, by first | exact HB.out | exact below_then hal hb⟩

set_option maxHeartbeats 4000000 in
theorem badEvIx_any (A : Option Addr) (es : List Evt) (c : Nat)  (p : Evt → Bool) (w : World) (hl : es.length ≤ 1048576) (hA : Evs w A es) (hcall : ∀ (W : World) (s a m : Int) (B : Option Addr) (x : List UInt8) (d : Nat), Below w.heap.size w W → Calls Tryd.prog 55 #[.agg #[.int .i64 s, .int .i64 a, .int .i64 m, .slice B x.length d]] W fun e w' => e = .returned (.bool (p (s, a, m, x))) ∧ Below W.heap.size W w') :
    Calls Tryd.prog 95 #[.slice A es.length c, .func (.func 55) #[] #[]] w fun e w' => (∃ r : Int, e = .returned (.int .i64 r) ∧ decide (0 ≤ r) = es.any p) ∧ Below w.heap.size w w' := by
  have hn9 : es.length ≤ 9223372036854775807 := by omega
  go_enter Tryd.func95, Tryd.ntmps95
  go_wp2
  go_loopw [8] (fun i wr => ∃ k : Nat, k ≤ es.length ∧ i = .int .i64 k ∧ Hid ((es.take k).any p = false) ∧ Below w.heap.size w wr)
    (fun i _ => es.length - (intOf i).toNat)
  case atStart => exact ⟨0, Nat.zero_le _, rfl, Lib.hid (by simp), Below.refl _ _⟩
  case round =>
    obtain ⟨k, hk, rfl, HALL, hb⟩ := hrel
    by_cases hlt : k < es.length
    · have hki : (k : Int) < (es.length : Int) := by omega
      obtain ⟨b, off, s, a, m, B, x, d, rfl, hbl, hek, k0, k1, k2, k3, hs, ha, hm, hpd, hdm, hBp⟩ := (hA.below hb).at_ k hlt
      have hc := Lib.hid (hcall wr s a m B x d hb)
      have hnx : (es.take (k + 1)).any p = ((es.take k).any p || p (s, a, m, x)) := by
        rw [List.take_succ_eq_append_getElem hlt, List.any_append, hek]; simp
      have hal : p (s, a, m, x) = true → es.any p = true := fun h => List.any_eq_true.2 ⟨_, List.getElem_mem hlt, by rw [hek]; exact h⟩
      have HNX := Lib.hid hnx
      have HAL := Lib.hid hal
      obtain ⟨q, hq⟩ : ∃ q, p (s, a, m, x) = q := ⟨_, rfl⟩
      have HQ := Lib.hid hq
      clear hnx hal hek hq hs ha hm hpd hdm hBp
      go_wp2_with fail
      refine hc.out.mono ?_
      rintro e w1 ⟨rfl, hb1⟩
      rw [HQ.out]
      have hb9 := below_then hb hb1
      clear k0 k1 k2 k3
      cases q
      · have HN := Lib.hid (show (es.take (k + 1)).any p = false by rw [HNX.out, HALL.out, HQ.out]; rfl)
        go_wp2
        go_roundw
        case rel => exact ⟨k + 1, by omega, by go_num, HN, hb9⟩
        case measure => simp [intOf]; omega
      · have HN := Lib.hid (HAL.out HQ.out)
        go_wp2
        go_ret
        exact ⟨⟨_, rfl, by rw [HN.out]; exact decide_eq_true (by omega)⟩, hb9⟩
    · have e : k = es.length := by omega
      have HN := Lib.hid (show es.any p = false by have h9 := HALL.out; rw [e, List.take_length] at h9; exact h9)
      clear e
      go_wp2
      go_ret
      exact ⟨⟨_, rfl, by rw [HN.out]; rfl⟩, hb⟩

set_option maxHeartbeats 4000000 in
theorem badEv_any (A : Option Addr) (es : List Evt) (c : Nat)  (p : Evt → Bool) (w : World) (hl : es.length ≤ 1048576) (hA : Evs w A es) (hcall : ∀ (W : World) (s a m : Int) (B : Option Addr) (x : List UInt8) (d : Nat), Below w.heap.size w W → Calls Tryd.prog 55 #[.agg #[.int .i64 s, .int .i64 a, .int .i64 m, .slice B x.length d]] W fun e w' => e = .returned (.bool (p (s, a, m, x))) ∧ Below W.heap.size W w') :
    Calls Tryd.prog 54 #[.slice A es.length c, .func (.func 55) #[] #[]] w fun e w' => e = .returned (.bool (es.any p)) ∧ Below w.heap.size w w' := by
  have hix := Lib.hid (badEvIx_any A es c  p w hl hA hcall)
  clear hcall hA
  go_enter Tryd.func54, Tryd.ntmps54
  go_wp2_with fail
  refine hix.out.mono ?_
  rintro e w1 ⟨⟨r, rfl, hr⟩, hb1⟩
  have HR := Lib.hid hr
  clear hr
  go_wp2
  go_ret
  exact ⟨ret_bool (by first | exact HR.out | simpa using HR.out), hb1⟩


set_option maxHeartbeats 32000000 in
theorem implOutsOk_any (A : Option Addr) (es : List Evt) (c lo hi : Nat) (fE : List Nat) (B : Option Addr) (os : List Ot) (d : Nat) (w : World) (hne : es.length + sumB ebt es ≤ 1048576) (hno : os.length + sumB obt os ≤ 1048576) (hT : Tab w) (hE : OwnL 83 Lay.rpL w lo hi A es c fE) (hO : Ots w B os) :
    Calls Tryd.prog 18 #[.slice A es.length c, .slice B os.length d] w fun e w' => e = .returned (.bool (outsOk es os)) ∧ Below w.heap.size w w' := by
  by_cases h3 : 300 < es.length
  · have h3' : (300 : Int) < (es.length : Int) := by omega
    rw [outsOk_long h3]
    clear h3
    go_enter Tryd.func18, Tryd.ntmps18
    go_wp2
    go_ret
    exact ⟨rfl, Below.refl _ _⟩
  have h3' : ¬ (300 : Int) < (es.length : Int) := by omega
  have hct := badEv_any A es c (fun e => !evG e) w (by omega) hE.sl.2.2 (fun W s a m B x d hb => notEvent_any s a m B x d W)
  rw [any_not] at hct
  obtain ⟨ZO, hZO⟩ : ∃ z, outsOk es os = z := ⟨_, rfl⟩
  obtain ⟨zE, hzE⟩ : ∃ z, es.all evG = z := ⟨_, rfl⟩
  rw [hzE] at hct
  rw [hZO]
  have HZO := Lib.hid hZO
  have HZE := Lib.hid hzE
  have HCT := Lib.hid hct
  clear hZO hzE hct
  go_enter Tryd.func18, Tryd.ntmps18
  go_wp2_with fail
  refine HCT.out.mono ?_
  rintro e w0 ⟨rfl, hb⟩
  have HB0 := Lib.hid hb
  clear hb HCT
  cases zE
  case false =>
    have hz : ZO = false := by rw [← HZO.out]; exact outsOk_ev HZE.out
    subst hz
    go_wp2
    go_ret
    exact ⟨rfl, HB0.out⟩
  go_wp2
  go_loopw [5, 17] (fun last i wr => ∃ k : Nat, k ≤ os.length ∧ i = .int .i64 k ∧ last = .int .i64 (lastA os k) ∧ (∀ q, q < k → okAt es os q = true) ∧ Below w.heap.size w wr) (fun _ i _ => os.length - (intOf i).toNat)
  case atStart => exact ⟨0, Nat.zero_le _, rfl, rfl, fun q hq => absurd hq (by omega), HB0.out⟩
  case round =>
    obtain ⟨k, hk, rfl, rfl, hall, hb⟩ := hrel
    have HALL := Lib.hid hall
    have HB := Lib.hid hb
    by_cases hlt : k < os.length
    case neg =>
      have hz : ZO = true := by rw [← HZO.out]; exact outsOk_yes (by omega) HZE.out (fun q hq => hall q (by omega))
      subst hz
      clear hall hb
      go_wp2
      go_ret
      exact ⟨rfl, HB.out⟩
    obtain ⟨b, off, a, u, x, s, p, q, r, f, y, i, j, AA, l, cc, CC, m, dd, rfl, hbl, hek, k0, k1, k2, k3, k4, k5, k6, k7, k8, k9, k10, k11, k12, i0, i1, i2, i3, i4, i5, i6, i7, i8, i9, i10, hl0, hc0, hb0, hl1, hc1, hb1⟩ := (hO.below hb).at_ k hlt
    have hge := lastA_ge hk hall
    have HOK := Lib.hid (okAt_eq (es := es) hlt hek)
    have HLS := Lib.hid (show lastA os (k + 1) = a by rw [lastA_succ hlt, hek])
    obtain ⟨L, hL⟩ : ∃ L, lastA os k = L := ⟨_, rfl⟩
    rw [hL] at hge ⊢
    have HLL := Lib.hid hL
    have hki : (k : Int) < (os.length : Int) := by omega
    have hk0 : (0 : Int) ≤ (k : Int) := by omega
    have ha9 : isI a := i0
    have hcc9 : cc ≤ 9223372036854775807 := by unfold maxLen at hc0; omega
    have hdd9 : dd ≤ 9223372036854775807 := by unfold maxLen at hc1; omega
    have hal := (Below.refl wr.heap.size wr).alloc (Nat.le_refl _) (.cells #[.int .i64 a, .int .i64 u, .int .i64 x, .int .i64 s, .int .i64 p, .int .i64 q, .int .i64 r, .slice AA l.length cc, .int .i64 f, .int .i64 y, .int .i64 i, .int .i64 j, .slice CC m.length dd] 85)
    have BX := Lib.hid (Blk.new wr #[.int .i64 a, .int .i64 u, .int .i64 x, .int .i64 s, .int .i64 p, .int .i64 q, .int .i64 r, .slice AA l.length cc, .int .i64 f, .int .i64 y, .int .i64 i, .int .i64 j, .slice CC m.length dd] 85)
    have HA := Lib.hid (hb0.below hal)
    have HC := Lib.hid (hb1.below hal)
    have HE1 := Lib.hid ((hE.below hb).below hal)
    have HT1 := Lib.hid ((hT.below hb).below hal)
    have HB1 := Lib.hid (below_then hb hal)
    clear hal hb hek hall hL hc0 hc1 hb0 hb1 i0 i1 i2 i3 i4 i5 i6 i7 i8 i9 i10
    go_upto_region 7 with fail
    generalize hW1 : wr.alloc (.cells #[.int .i64 a, .int .i64 u, .int .i64 x, .int .i64 s, .int .i64 p, .int .i64 q, .int .i64 r, .slice AA l.length cc, .int .i64 f, .int .i64 y, .int .i64 i, .int .i64 j, .slice CC m.length dd] 85) = W1 at *
    clear hW1 k0 k1 k2 k3 k4 k5 k6 k7 k8 k9 k10 k11 k12
    by_cases c1 : a ≤ L
    case pos =>
      have d1 : decide (a ≤ L) = true := decide_eq_true c1
      have hz : ZO = false := by
        rw [← HZO.out]
        exact outsOk_at hlt (by rw [HOK.out, HLL.out, decide_eq_false (by simpa using c1)]; rfl)
      subst hz
      clear hge
      have p0 := BX.out.cell 0
      have p1 := BX.out.cell 1
      have p2 := BX.out.cell 2
      have p3 := BX.out.cell 3
      have p4 := BX.out.cell 4
      have p5 := BX.out.cell 5
      have p6 := BX.out.cell 6
      have p7 := BX.out.cell 7
      have p8 := BX.out.cell 8
      have p9 := BX.out.cell 9
      have p10 := BX.out.cell 10
      have p11 := BX.out.cell 11
      have p12 := BX.out.cell 12
      have plt := BX.out.lt
      refine wp_region_held_drew (S := (fun V => V.cell? ⟨wr.heap.size, 0, none⟩ = some (.int .i64 a) ∧ V.cell? ⟨wr.heap.size, 1, none⟩ = some (.int .i64 u) ∧ V.cell? ⟨wr.heap.size, 2, none⟩ = some (.int .i64 x) ∧ V.cell? ⟨wr.heap.size, 3, none⟩ = some (.int .i64 s) ∧ V.cell? ⟨wr.heap.size, 4, none⟩ = some (.int .i64 p) ∧ V.cell? ⟨wr.heap.size, 5, none⟩ = some (.int .i64 q) ∧ V.cell? ⟨wr.heap.size, 6, none⟩ = some (.int .i64 r) ∧ V.cell? ⟨wr.heap.size, 7, none⟩ = some (.slice AA l.length cc) ∧ V.cell? ⟨wr.heap.size, 8, none⟩ = some (.int .i64 f) ∧ V.cell? ⟨wr.heap.size, 9, none⟩ = some (.int .i64 y) ∧ V.cell? ⟨wr.heap.size, 10, none⟩ = some (.int .i64 i) ∧ V.cell? ⟨wr.heap.size, 11, none⟩ = some (.int .i64 j) ∧ V.cell? ⟨wr.heap.size, 12, none⟩ = some (.slice CC m.length dd))) (by kernel_rfl) (by exact ⟨p0, p1, p2, p3, p4, p5, p6, p7, p8, p9, p10, p11, p12⟩) (fun hHeld => ?_)
      refine wpAnyH_take (i := 0) (oi := ?_) (v := ?_) ?_ ?_ ?_ ?_ ?_ ?_ (by exact hHeld) ?_
      rotate_left 2
      · (simp only [List.getElem?_toArray, List.getElem?_cons_zero]; try rfl)
      · kernel_rfl
      · kernel_rfl
      · kernel_rfl
      · exact fun _ _ _ h => h
      · refine Or.inl ⟨by rfl, ?_⟩
        (intro V hSV; (try dsimp only at hSV); obtain ⟨q0, q1, q2, q3, q4, q5, q6, q7, q8, q9, q10, q11, q12⟩ := hSV; go_simp; try with_reducible rfl)
      (try simp only [Act.put, List.setIfInBounds_toArray, List.set_cons_zero, List.set_cons_succ])
      refine wpAnyH_take (i := 1) (oi := ?_) (v := ?_) ?_ ?_ ?_ ?_ ?_ ?_ (by exact hHeld) ?_
      rotate_left 2
      · (simp only [List.getElem?_toArray, List.getElem?_cons_zero, List.getElem?_cons_succ]; try rfl)
      · kernel_rfl
      · kernel_rfl
      · kernel_rfl
      · exact fun _ _ _ h => h
      · refine Or.inl ⟨by rfl, ?_⟩
        (intro V hSV; (try dsimp only at hSV); obtain ⟨q0, q1, q2, q3, q4, q5, q6, q7, q8, q9, q10, q11, q12⟩ := hSV; go_simp; try with_reducible rfl)
      (try simp only [Act.put, List.setIfInBounds_toArray, List.set_cons_zero, List.set_cons_succ])
      refine wpAnyH_take (i := 2) (oi := ?_) (v := ?_) ?_ ?_ ?_ ?_ ?_ ?_ (by exact hHeld) ?_
      rotate_left 2
      · (simp only [List.getElem?_toArray, List.getElem?_cons_zero, List.getElem?_cons_succ]; try rfl)
      · kernel_rfl
      · kernel_rfl
      · kernel_rfl
      · exact fun _ _ _ h => h
      · refine Or.inl ⟨by rfl, ?_⟩
        (intro V hSV; (try dsimp only at hSV); obtain ⟨q0, q1, q2, q3, q4, q5, q6, q7, q8, q9, q10, q11, q12⟩ := hSV; go_simp; try with_reducible rfl)
      (try simp only [Act.put, List.setIfInBounds_toArray, List.set_cons_zero, List.set_cons_succ])
      refine wpAnyH_take (i := 3) (oi := ?_) (v := ?_) ?_ ?_ ?_ ?_ ?_ ?_ (by exact hHeld) ?_
      rotate_left 2
      · (simp only [List.getElem?_toArray, List.getElem?_cons_zero, List.getElem?_cons_succ]; try rfl)
      · kernel_rfl
      · kernel_rfl
      · kernel_rfl
      · exact fun _ _ _ h => h
      · refine Or.inl ⟨by rfl, ?_⟩
        (intro V hSV; (try dsimp only at hSV); obtain ⟨q0, q1, q2, q3, q4, q5, q6, q7, q8, q9, q10, q11, q12⟩ := hSV; go_simp; try with_reducible rfl)
      (try simp only [Act.put, List.setIfInBounds_toArray, List.set_cons_zero, List.set_cons_succ])
      refine wpAnyH_take (i := 4) (oi := ?_) (v := ?_) ?_ ?_ ?_ ?_ ?_ ?_ (by exact hHeld) ?_
      rotate_left 2
      · (simp only [List.getElem?_toArray, List.getElem?_cons_zero, List.getElem?_cons_succ]; try rfl)
      · kernel_rfl
      · kernel_rfl
      · kernel_rfl
      · exact fun _ _ _ h => h
      · refine Or.inl ⟨by rfl, ?_⟩
        (intro V hSV; (try dsimp only at hSV); obtain ⟨q0, q1, q2, q3, q4, q5, q6, q7, q8, q9, q10, q11, q12⟩ := hSV; go_simp; try with_reducible rfl)
      (try simp only [Act.put, List.setIfInBounds_toArray, List.set_cons_zero, List.set_cons_succ])
      refine wpAnyH_take (i := 5) (oi := ?_) (v := undef) ?_ ?_ ?_ ?_ ?_ ?_ (by exact hHeld) ?_
      rotate_left 1
      · (simp only [List.getElem?_toArray, List.getElem?_cons_zero, List.getElem?_cons_succ]; try rfl)
      · kernel_rfl
      · kernel_rfl
      · kernel_rfl
      · exact fun _ _ _ h => h
      · refine Or.inr ?_
        exact ⟨by rfl, rfl⟩
      (try simp only [Act.put, List.setIfInBounds_toArray, List.set_cons_zero, List.set_cons_succ])
      refine wpAnyH_take (i := 6) (oi := ?_) (v := undef) ?_ ?_ ?_ ?_ ?_ ?_ (by exact hHeld) ?_
      rotate_left 1
      · (simp only [List.getElem?_toArray, List.getElem?_cons_zero, List.getElem?_cons_succ]; try rfl)
      · kernel_rfl
      · kernel_rfl
      · kernel_rfl
      · exact fun _ _ _ h => h
      · refine Or.inr ?_
        exact ⟨by rfl, rfl⟩
      (try simp only [Act.put, List.setIfInBounds_toArray, List.set_cons_zero, List.set_cons_succ])
      refine wpAnyH_take (i := 7) (oi := ?_) (v := undef) ?_ ?_ ?_ ?_ ?_ ?_ (by exact hHeld) ?_
      rotate_left 1
      · (simp only [List.getElem?_toArray, List.getElem?_cons_zero, List.getElem?_cons_succ]; try rfl)
      · kernel_rfl
      · kernel_rfl
      · kernel_rfl
      · exact fun _ _ _ h => h
      · refine Or.inr ?_
        exact ⟨by rfl, rfl⟩
      (try simp only [Act.put, List.setIfInBounds_toArray, List.set_cons_zero, List.set_cons_succ])
      refine wpAnyH_take (i := 8) (oi := ?_) (v := undef) ?_ ?_ ?_ ?_ ?_ ?_ (by exact hHeld) ?_
      rotate_left 1
      · (simp only [List.getElem?_toArray, List.getElem?_cons_zero, List.getElem?_cons_succ]; try rfl)
      · kernel_rfl
      · kernel_rfl
      · kernel_rfl
      · exact fun _ _ _ h => h
      · refine Or.inr ?_
        exact ⟨by rfl, rfl⟩
      (try simp only [Act.put, List.setIfInBounds_toArray, List.set_cons_zero, List.set_cons_succ])
      refine wpAnyH_take (i := 9) (oi := ?_) (v := undef) ?_ ?_ ?_ ?_ ?_ ?_ (by exact hHeld) ?_
      rotate_left 1
      · (simp only [List.getElem?_toArray, List.getElem?_cons_zero, List.getElem?_cons_succ]; try rfl)
      · kernel_rfl
      · kernel_rfl
      · kernel_rfl
      · exact fun _ _ _ h => h
      · refine Or.inr ?_
        exact ⟨by rfl, rfl⟩
      (try simp only [Act.put, List.setIfInBounds_toArray, List.set_cons_zero, List.set_cons_succ])
      refine wpAnyH_take (i := 10) (oi := ?_) (v := ?_) ?_ ?_ ?_ ?_ ?_ ?_ (by exact hHeld) ?_
      rotate_left 2
      · (simp only [List.getElem?_toArray, List.getElem?_cons_zero, List.getElem?_cons_succ]; try rfl)
      · kernel_rfl
      · kernel_rfl
      · kernel_rfl
      · exact fun _ _ _ h => h
      · refine Or.inl ⟨by rfl, ?_⟩
        (intro V hSV; (try dsimp only at hSV); obtain ⟨q0, q1, q2, q3, q4, q5, q6, q7, q8, q9, q10, q11, q12⟩ := hSV; go_simp; try with_reducible rfl)
      (try simp only [Act.put, List.setIfInBounds_toArray, List.set_cons_zero, List.set_cons_succ])
      refine wpAnyH_take (i := 11) (oi := ?_) (v := ?_) ?_ ?_ ?_ ?_ ?_ ?_ (by exact hHeld) ?_
      rotate_left 2
      · (simp only [List.getElem?_toArray, List.getElem?_cons_zero, List.getElem?_cons_succ]; try rfl)
      · kernel_rfl
      · kernel_rfl
      · kernel_rfl
      · exact fun _ _ _ h => h
      · refine Or.inl ⟨by rfl, ?_⟩
        (intro V hSV; (try dsimp only at hSV); obtain ⟨q0, q1, q2, q3, q4, q5, q6, q7, q8, q9, q10, q11, q12⟩ := hSV; go_simp; try with_reducible rfl)
      (try simp only [Act.put, List.setIfInBounds_toArray, List.set_cons_zero, List.set_cons_succ])
      refine wpAnyH_take (i := 12) (oi := ?_) (v := undef) ?_ ?_ ?_ ?_ ?_ ?_ (by exact hHeld) ?_
      rotate_left 1
      · (simp only [List.getElem?_toArray, List.getElem?_cons_zero, List.getElem?_cons_succ]; try rfl)
      · kernel_rfl
      · kernel_rfl
      · kernel_rfl
      · exact fun _ _ _ h => h
      · refine Or.inr ?_
        exact ⟨by rfl, rfl⟩
      (try simp only [Act.put, List.setIfInBounds_toArray, List.set_cons_zero, List.set_cons_succ])
      refine wpAnyH_take (i := 13) (oi := ?_) (v := undef) ?_ ?_ ?_ ?_ ?_ ?_ (by exact hHeld) ?_
      rotate_left 1
      · (simp only [List.getElem?_toArray, List.getElem?_cons_zero, List.getElem?_cons_succ]; try rfl)
      · kernel_rfl
      · kernel_rfl
      · kernel_rfl
      · exact fun _ _ _ h => h
      · refine Or.inr ?_
        exact ⟨by rfl, rfl⟩
      (try simp only [Act.put, List.setIfInBounds_toArray, List.set_cons_zero, List.set_cons_succ])
      refine wpAnyH_take (i := 14) (oi := ?_) (v := undef) ?_ ?_ ?_ ?_ ?_ ?_ (by exact hHeld) ?_
      rotate_left 1
      · (simp only [List.getElem?_toArray, List.getElem?_cons_zero, List.getElem?_cons_succ]; try rfl)
      · kernel_rfl
      · kernel_rfl
      · kernel_rfl
      · exact fun _ _ _ h => h
      · refine Or.inr ?_
        exact ⟨by rfl, rfl⟩
      (try simp only [Act.put, List.setIfInBounds_toArray, List.set_cons_zero, List.set_cons_succ])
      refine wpAnyH_take (i := 15) (oi := ?_) (v := undef) ?_ ?_ ?_ ?_ ?_ ?_ (by exact hHeld) ?_
      rotate_left 1
      · (simp only [List.getElem?_toArray, List.getElem?_cons_zero, List.getElem?_cons_succ]; try rfl)
      · kernel_rfl
      · kernel_rfl
      · kernel_rfl
      · exact fun _ _ _ h => h
      · refine Or.inr ?_
        exact ⟨by rfl, rfl⟩
      (try simp only [Act.put, List.setIfInBounds_toArray, List.set_cons_zero, List.set_cons_succ])
      refine wpAnyH_take (i := 16) (oi := ?_) (v := undef) ?_ ?_ ?_ ?_ ?_ ?_ (by exact hHeld) ?_
      rotate_left 1
      · (simp only [List.getElem?_toArray, List.getElem?_cons_zero, List.getElem?_cons_succ]; try rfl)
      · kernel_rfl
      · kernel_rfl
      · kernel_rfl
      · exact fun _ _ _ h => h
      · refine Or.inr ?_
        exact ⟨by rfl, rfl⟩
      (try simp only [Act.put, List.setIfInBounds_toArray, List.set_cons_zero, List.set_cons_succ])
      refine wpAnyH_take (i := 17) (oi := ?_) (v := undef) ?_ ?_ ?_ ?_ ?_ ?_ (by exact hHeld) ?_
      rotate_left 1
      · (simp only [List.getElem?_toArray, List.getElem?_cons_zero, List.getElem?_cons_succ]; try rfl)
      · kernel_rfl
      · kernel_rfl
      · kernel_rfl
      · exact fun _ _ _ h => h
      · refine Or.inr ?_
        exact ⟨by rfl, rfl⟩
      (try simp only [Act.put, List.setIfInBounds_toArray, List.set_cons_zero, List.set_cons_succ])
      refine wpAnyH_take (i := 18) (oi := ?_) (v := undef) ?_ ?_ ?_ ?_ ?_ ?_ (by exact hHeld) ?_
      rotate_left 1
      · (simp only [List.getElem?_toArray, List.getElem?_cons_zero, List.getElem?_cons_succ]; try rfl)
      · kernel_rfl
      · kernel_rfl
      · kernel_rfl
      · exact fun _ _ _ h => h
      · refine Or.inr ?_
        exact ⟨by rfl, rfl⟩
      (try simp only [Act.put, List.setIfInBounds_toArray, List.set_cons_zero, List.set_cons_succ])
      refine wpAnyH_take (i := 19) (oi := ?_) (v := undef) ?_ ?_ ?_ ?_ ?_ ?_ (by exact hHeld) ?_
      rotate_left 1
      · (simp only [List.getElem?_toArray, List.getElem?_cons_zero, List.getElem?_cons_succ]; try rfl)
      · kernel_rfl
      · kernel_rfl
      · kernel_rfl
      · exact fun _ _ _ h => h
      · refine Or.inr ?_
        exact ⟨by rfl, rfl⟩
      (try simp only [Act.put, List.setIfInBounds_toArray, List.set_cons_zero, List.set_cons_succ])
      refine wpAnyH_take (i := 20) (oi := ?_) (v := ?_) ?_ ?_ ?_ ?_ ?_ ?_ (by exact hHeld) ?_
      rotate_left 2
      · (simp only [List.getElem?_toArray, List.getElem?_cons_zero, List.getElem?_cons_succ]; try rfl)
      · kernel_rfl
      · kernel_rfl
      · kernel_rfl
      · exact fun _ _ _ h => h
      · refine Or.inl ⟨by rfl, ?_⟩
        (intro V hSV; (try dsimp only at hSV); obtain ⟨q0, q1, q2, q3, q4, q5, q6, q7, q8, q9, q10, q11, q12⟩ := hSV; go_simp; try with_reducible rfl)
      (try simp only [Act.put, List.setIfInBounds_toArray, List.set_cons_zero, List.set_cons_succ])
      refine wpAnyH_done (by kernel_rfl) ?_ _
      clear hHeld p0 p1 p2 p3 p4 p5 p6 p7 p8 p9 p10 p11 p12 plt
      go_wp2
      go_ret
      exact ⟨rfl, by first | exact HB1.out | exact Below.drew HB1.out⟩
    have d1 : decide (a ≤ L) = false := decide_eq_false c1
    by_cases c2 : (es.length : Int) ≤ a
    case pos =>
      have d2 : decide (a ≥ (es.length : Int)) = true := decide_eq_true c2
      have d3 : decide ((es.length : Int) ≤ a) = true := decide_eq_true c2
      have hz : ZO = false := by
        rw [← HZO.out]
        exact outsOk_at hlt (by rw [HOK.out]; simp only [decide_eq_false (show ¬ a < (es.length : Int) by omega), Bool.false_and, Bool.and_false])
      subst hz
      clear hge
      have p0 := BX.out.cell 0
      have p1 := BX.out.cell 1
      have p2 := BX.out.cell 2
      have p3 := BX.out.cell 3
      have p4 := BX.out.cell 4
      have p5 := BX.out.cell 5
      have p6 := BX.out.cell 6
      have p7 := BX.out.cell 7
      have p8 := BX.out.cell 8
      have p9 := BX.out.cell 9
      have p10 := BX.out.cell 10
      have p11 := BX.out.cell 11
      have p12 := BX.out.cell 12
      have plt := BX.out.lt
      refine wp_region_held_drew (S := (fun V => V.cell? ⟨wr.heap.size, 0, none⟩ = some (.int .i64 a) ∧ V.cell? ⟨wr.heap.size, 1, none⟩ = some (.int .i64 u) ∧ V.cell? ⟨wr.heap.size, 2, none⟩ = some (.int .i64 x) ∧ V.cell? ⟨wr.heap.size, 3, none⟩ = some (.int .i64 s) ∧ V.cell? ⟨wr.heap.size, 4, none⟩ = some (.int .i64 p) ∧ V.cell? ⟨wr.heap.size, 5, none⟩ = some (.int .i64 q) ∧ V.cell? ⟨wr.heap.size, 6, none⟩ = some (.int .i64 r) ∧ V.cell? ⟨wr.heap.size, 7, none⟩ = some (.slice AA l.length cc) ∧ V.cell? ⟨wr.heap.size, 8, none⟩ = some (.int .i64 f) ∧ V.cell? ⟨wr.heap.size, 9, none⟩ = some (.int .i64 y) ∧ V.cell? ⟨wr.heap.size, 10, none⟩ = some (.int .i64 i) ∧ V.cell? ⟨wr.heap.size, 11, none⟩ = some (.int .i64 j) ∧ V.cell? ⟨wr.heap.size, 12, none⟩ = some (.slice CC m.length dd))) (by kernel_rfl) (by exact ⟨p0, p1, p2, p3, p4, p5, p6, p7, p8, p9, p10, p11, p12⟩) (fun hHeld => ?_)
      refine wpAnyH_take (i := 0) (oi := ?_) (v := ?_) ?_ ?_ ?_ ?_ ?_ ?_ (by exact hHeld) ?_
      rotate_left 2
      · (simp only [List.getElem?_toArray, List.getElem?_cons_zero]; try rfl)
      · kernel_rfl
      · kernel_rfl
      · kernel_rfl
      · exact fun _ _ _ h => h
      · refine Or.inl ⟨by rfl, ?_⟩
        (intro V hSV; (try dsimp only at hSV); obtain ⟨q0, q1, q2, q3, q4, q5, q6, q7, q8, q9, q10, q11, q12⟩ := hSV; go_simp; try with_reducible rfl)
      (try simp only [Act.put, List.setIfInBounds_toArray, List.set_cons_zero, List.set_cons_succ])
      refine wpAnyH_take (i := 1) (oi := ?_) (v := ?_) ?_ ?_ ?_ ?_ ?_ ?_ (by exact hHeld) ?_
      rotate_left 2
      · (simp only [List.getElem?_toArray, List.getElem?_cons_zero, List.getElem?_cons_succ]; try rfl)
      · kernel_rfl
      · kernel_rfl
      · kernel_rfl
      · exact fun _ _ _ h => h
      · refine Or.inl ⟨by rfl, ?_⟩
        (intro V hSV; (try dsimp only at hSV); obtain ⟨q0, q1, q2, q3, q4, q5, q6, q7, q8, q9, q10, q11, q12⟩ := hSV; go_simp; try with_reducible rfl)
      (try simp only [Act.put, List.setIfInBounds_toArray, List.set_cons_zero, List.set_cons_succ])
      refine wpAnyH_take (i := 2) (oi := ?_) (v := ?_) ?_ ?_ ?_ ?_ ?_ ?_ (by exact hHeld) ?_
      rotate_left 2
      · (simp only [List.getElem?_toArray, List.getElem?_cons_zero, List.getElem?_cons_succ]; try rfl)
      · kernel_rfl
      · kernel_rfl
      · kernel_rfl
      · exact fun _ _ _ h => h
      · refine Or.inl ⟨by rfl, ?_⟩
        (intro V hSV; (try dsimp only at hSV); obtain ⟨q0, q1, q2, q3, q4, q5, q6, q7, q8, q9, q10, q11, q12⟩ := hSV; go_simp; try with_reducible rfl)
      (try simp only [Act.put, List.setIfInBounds_toArray, List.set_cons_zero, List.set_cons_succ])
      refine wpAnyH_take (i := 3) (oi := ?_) (v := ?_) ?_ ?_ ?_ ?_ ?_ ?_ (by exact hHeld) ?_
      rotate_left 2
      · (simp only [List.getElem?_toArray, List.getElem?_cons_zero, List.getElem?_cons_succ]; try rfl)
      · kernel_rfl
      · kernel_rfl
      · kernel_rfl
      · exact fun _ _ _ h => h
      · refine Or.inl ⟨by rfl, ?_⟩
        (intro V hSV; (try dsimp only at hSV); obtain ⟨q0, q1, q2, q3, q4, q5, q6, q7, q8, q9, q10, q11, q12⟩ := hSV; go_simp; try with_reducible rfl)
      (try simp only [Act.put, List.setIfInBounds_toArray, List.set_cons_zero, List.set_cons_succ])
      refine wpAnyH_take (i := 4) (oi := ?_) (v := ?_) ?_ ?_ ?_ ?_ ?_ ?_ (by exact hHeld) ?_
      rotate_left 2
      · (simp only [List.getElem?_toArray, List.getElem?_cons_zero, List.getElem?_cons_succ]; try rfl)
      · kernel_rfl
      · kernel_rfl
      · kernel_rfl
      · exact fun _ _ _ h => h
      · refine Or.inl ⟨by rfl, ?_⟩
        (intro V hSV; (try dsimp only at hSV); obtain ⟨q0, q1, q2, q3, q4, q5, q6, q7, q8, q9, q10, q11, q12⟩ := hSV; go_simp; try with_reducible rfl)
      (try simp only [Act.put, List.setIfInBounds_toArray, List.set_cons_zero, List.set_cons_succ])
      refine wpAnyH_take (i := 5) (oi := ?_) (v := ?_) ?_ ?_ ?_ ?_ ?_ ?_ (by exact hHeld) ?_
      rotate_left 2
      · (simp only [List.getElem?_toArray, List.getElem?_cons_zero, List.getElem?_cons_succ]; try rfl)
      · kernel_rfl
      · kernel_rfl
      · kernel_rfl
      · exact fun _ _ _ h => h
      · refine Or.inl ⟨by rfl, ?_⟩
        (intro V hSV; (try dsimp only at hSV); obtain ⟨q0, q1, q2, q3, q4, q5, q6, q7, q8, q9, q10, q11, q12⟩ := hSV; go_simp; try with_reducible rfl)
      (try simp only [Act.put, List.setIfInBounds_toArray, List.set_cons_zero, List.set_cons_succ])
      refine wpAnyH_take (i := 6) (oi := ?_) (v := ?_) ?_ ?_ ?_ ?_ ?_ ?_ (by exact hHeld) ?_
      rotate_left 2
      · (simp only [List.getElem?_toArray, List.getElem?_cons_zero, List.getElem?_cons_succ]; try rfl)
      · kernel_rfl
      · kernel_rfl
      · kernel_rfl
      · exact fun _ _ _ h => h
      · refine Or.inl ⟨by rfl, ?_⟩
        (intro V hSV; (try dsimp only at hSV); obtain ⟨q0, q1, q2, q3, q4, q5, q6, q7, q8, q9, q10, q11, q12⟩ := hSV; go_simp; try with_reducible rfl)
      (try simp only [Act.put, List.setIfInBounds_toArray, List.set_cons_zero, List.set_cons_succ])
      refine wpAnyH_take (i := 7) (oi := ?_) (v := ?_) ?_ ?_ ?_ ?_ ?_ ?_ (by exact hHeld) ?_
      rotate_left 2
      · (simp only [List.getElem?_toArray, List.getElem?_cons_zero, List.getElem?_cons_succ]; try rfl)
      · kernel_rfl
      · kernel_rfl
      · kernel_rfl
      · exact fun _ _ _ h => h
      · refine Or.inl ⟨by rfl, ?_⟩
        (intro V hSV; (try dsimp only at hSV); obtain ⟨q0, q1, q2, q3, q4, q5, q6, q7, q8, q9, q10, q11, q12⟩ := hSV; go_simp; try with_reducible rfl)
      (try simp only [Act.put, List.setIfInBounds_toArray, List.set_cons_zero, List.set_cons_succ])
      refine wpAnyH_take (i := 8) (oi := ?_) (v := ?_) ?_ ?_ ?_ ?_ ?_ ?_ (by exact hHeld) ?_
      rotate_left 2
      · (simp only [List.getElem?_toArray, List.getElem?_cons_zero, List.getElem?_cons_succ]; try rfl)
      · kernel_rfl
      · kernel_rfl
      · kernel_rfl
      · exact fun _ _ _ h => h
      · refine Or.inl ⟨by rfl, ?_⟩
        (intro V hSV; (try dsimp only at hSV); obtain ⟨q0, q1, q2, q3, q4, q5, q6, q7, q8, q9, q10, q11, q12⟩ := hSV; go_simp; try with_reducible rfl)
      (try simp only [Act.put, List.setIfInBounds_toArray, List.set_cons_zero, List.set_cons_succ])
      refine wpAnyH_take (i := 9) (oi := ?_) (v := ?_) ?_ ?_ ?_ ?_ ?_ ?_ (by exact hHeld) ?_
      rotate_left 2
      · (simp only [List.getElem?_toArray, List.getElem?_cons_zero, List.getElem?_cons_succ]; try rfl)
      · kernel_rfl
      · kernel_rfl
      · kernel_rfl
      · exact fun _ _ _ h => h
      · refine Or.inl ⟨by rfl, ?_⟩
        (intro V hSV; (try dsimp only at hSV); obtain ⟨q0, q1, q2, q3, q4, q5, q6, q7, q8, q9, q10, q11, q12⟩ := hSV; go_simp; try with_reducible rfl)
      (try simp only [Act.put, List.setIfInBounds_toArray, List.set_cons_zero, List.set_cons_succ])
      refine wpAnyH_take (i := 10) (oi := ?_) (v := ?_) ?_ ?_ ?_ ?_ ?_ ?_ (by exact hHeld) ?_
      rotate_left 2
      · (simp only [List.getElem?_toArray, List.getElem?_cons_zero, List.getElem?_cons_succ]; try rfl)
      · kernel_rfl
      · kernel_rfl
      · kernel_rfl
      · exact fun _ _ _ h => h
      · refine Or.inl ⟨by rfl, ?_⟩
        (intro V hSV; (try dsimp only at hSV); obtain ⟨q0, q1, q2, q3, q4, q5, q6, q7, q8, q9, q10, q11, q12⟩ := hSV; go_simp; try with_reducible rfl)
      (try simp only [Act.put, List.setIfInBounds_toArray, List.set_cons_zero, List.set_cons_succ])
      refine wpAnyH_take (i := 11) (oi := ?_) (v := ?_) ?_ ?_ ?_ ?_ ?_ ?_ (by exact hHeld) ?_
      rotate_left 2
      · (simp only [List.getElem?_toArray, List.getElem?_cons_zero, List.getElem?_cons_succ]; try rfl)
      · kernel_rfl
      · kernel_rfl
      · kernel_rfl
      · exact fun _ _ _ h => h
      · refine Or.inl ⟨by rfl, ?_⟩
        (intro V hSV; (try dsimp only at hSV); obtain ⟨q0, q1, q2, q3, q4, q5, q6, q7, q8, q9, q10, q11, q12⟩ := hSV; go_simp; try with_reducible rfl)
      (try simp only [Act.put, List.setIfInBounds_toArray, List.set_cons_zero, List.set_cons_succ])
      refine wpAnyH_take (i := 12) (oi := ?_) (v := undef) ?_ ?_ ?_ ?_ ?_ ?_ (by exact hHeld) ?_
      rotate_left 1
      · (simp only [List.getElem?_toArray, List.getElem?_cons_zero, List.getElem?_cons_succ]; try rfl)
      · kernel_rfl
      · kernel_rfl
      · kernel_rfl
      · exact fun _ _ _ h => h
      · refine Or.inr ?_
        exact ⟨by rfl, rfl⟩
      (try simp only [Act.put, List.setIfInBounds_toArray, List.set_cons_zero, List.set_cons_succ])
      refine wpAnyH_take (i := 13) (oi := ?_) (v := undef) ?_ ?_ ?_ ?_ ?_ ?_ (by exact hHeld) ?_
      rotate_left 1
      · (simp only [List.getElem?_toArray, List.getElem?_cons_zero, List.getElem?_cons_succ]; try rfl)
      · kernel_rfl
      · kernel_rfl
      · kernel_rfl
      · exact fun _ _ _ h => h
      · refine Or.inr ?_
        exact ⟨by rfl, rfl⟩
      (try simp only [Act.put, List.setIfInBounds_toArray, List.set_cons_zero, List.set_cons_succ])
      refine wpAnyH_take (i := 14) (oi := ?_) (v := undef) ?_ ?_ ?_ ?_ ?_ ?_ (by exact hHeld) ?_
      rotate_left 1
      · (simp only [List.getElem?_toArray, List.getElem?_cons_zero, List.getElem?_cons_succ]; try rfl)
      · kernel_rfl
      · kernel_rfl
      · kernel_rfl
      · exact fun _ _ _ h => h
      · refine Or.inr ?_
        exact ⟨by rfl, rfl⟩
      (try simp only [Act.put, List.setIfInBounds_toArray, List.set_cons_zero, List.set_cons_succ])
      refine wpAnyH_take (i := 15) (oi := ?_) (v := undef) ?_ ?_ ?_ ?_ ?_ ?_ (by exact hHeld) ?_
      rotate_left 1
      · (simp only [List.getElem?_toArray, List.getElem?_cons_zero, List.getElem?_cons_succ]; try rfl)
      · kernel_rfl
      · kernel_rfl
      · kernel_rfl
      · exact fun _ _ _ h => h
      · refine Or.inr ?_
        exact ⟨by rfl, rfl⟩
      (try simp only [Act.put, List.setIfInBounds_toArray, List.set_cons_zero, List.set_cons_succ])
      refine wpAnyH_take (i := 16) (oi := ?_) (v := undef) ?_ ?_ ?_ ?_ ?_ ?_ (by exact hHeld) ?_
      rotate_left 1
      · (simp only [List.getElem?_toArray, List.getElem?_cons_zero, List.getElem?_cons_succ]; try rfl)
      · kernel_rfl
      · kernel_rfl
      · kernel_rfl
      · exact fun _ _ _ h => h
      · refine Or.inr ?_
        exact ⟨by rfl, rfl⟩
      (try simp only [Act.put, List.setIfInBounds_toArray, List.set_cons_zero, List.set_cons_succ])
      refine wpAnyH_take (i := 17) (oi := ?_) (v := undef) ?_ ?_ ?_ ?_ ?_ ?_ (by exact hHeld) ?_
      rotate_left 1
      · (simp only [List.getElem?_toArray, List.getElem?_cons_zero, List.getElem?_cons_succ]; try rfl)
      · kernel_rfl
      · kernel_rfl
      · kernel_rfl
      · exact fun _ _ _ h => h
      · refine Or.inr ?_
        exact ⟨by rfl, rfl⟩
      (try simp only [Act.put, List.setIfInBounds_toArray, List.set_cons_zero, List.set_cons_succ])
      refine wpAnyH_take (i := 18) (oi := ?_) (v := undef) ?_ ?_ ?_ ?_ ?_ ?_ (by exact hHeld) ?_
      rotate_left 1
      · (simp only [List.getElem?_toArray, List.getElem?_cons_zero, List.getElem?_cons_succ]; try rfl)
      · kernel_rfl
      · kernel_rfl
      · kernel_rfl
      · exact fun _ _ _ h => h
      · refine Or.inr ?_
        exact ⟨by rfl, rfl⟩
      (try simp only [Act.put, List.setIfInBounds_toArray, List.set_cons_zero, List.set_cons_succ])
      refine wpAnyH_take (i := 19) (oi := ?_) (v := undef) ?_ ?_ ?_ ?_ ?_ ?_ (by exact hHeld) ?_
      rotate_left 1
      · (simp only [List.getElem?_toArray, List.getElem?_cons_zero, List.getElem?_cons_succ]; try rfl)
      · kernel_rfl
      · kernel_rfl
      · kernel_rfl
      · exact fun _ _ _ h => h
      · refine Or.inr ?_
        exact ⟨by rfl, rfl⟩
      (try simp only [Act.put, List.setIfInBounds_toArray, List.set_cons_zero, List.set_cons_succ])
      refine wpAnyH_take (i := 20) (oi := ?_) (v := ?_) ?_ ?_ ?_ ?_ ?_ ?_ (by exact hHeld) ?_
      rotate_left 2
      · (simp only [List.getElem?_toArray, List.getElem?_cons_zero, List.getElem?_cons_succ]; try rfl)
      · kernel_rfl
      · kernel_rfl
      · kernel_rfl
      · exact fun _ _ _ h => h
      · refine Or.inl ⟨by rfl, ?_⟩
        (intro V hSV; (try dsimp only at hSV); obtain ⟨q0, q1, q2, q3, q4, q5, q6, q7, q8, q9, q10, q11, q12⟩ := hSV; go_simp; try with_reducible rfl)
      (try simp only [Act.put, List.setIfInBounds_toArray, List.set_cons_zero, List.set_cons_succ])
      refine wpAnyH_done (by kernel_rfl) ?_ _
      clear hHeld p0 p1 p2 p3 p4 p5 p6 p7 p8 p9 p10 p11 p12 plt
      go_wp2
      go_ret
      exact ⟨rfl, by first | exact HB1.out | exact Below.drew HB1.out⟩
    have d2 : decide (a ≥ (es.length : Int)) = false := decide_eq_false c2
    have d3 : decide ((es.length : Int) ≤ a) = false := decide_eq_false c2
    obtain ⟨n2, hn2⟩ := Int.eq_ofNat_of_zero_le (show (0 : Int) ≤ a by omega)
    have hn2l : n2 < es.length := by omega
    obtain ⟨g2, ex, es9, ep, DD, dl, dc, hA9, hg2, he2, e0, e1, e2, e3, _, _, _, hdl, hdc, hDB, hPl, hpp⟩ := ev_own HE1.out n2 hn2l
    obtain ⟨zm, hzm⟩ : ∃ z, mayA u x s p q r l y i j m ex es9 dl = z := ⟨_, rfl⟩
    have HZM := Lib.hid hzm
    have HOK2 : Hid (okAt es os k = zm) := Lib.hid (by
      rw [HOK.out, HLL.out, decide_eq_true (show L < a by omega), decide_eq_true (show a < (es.length : Int) by omega), hn2]
      simp only [Bool.true_and, Int.toNat_natCast]
      rw [getD_lt hn2l, he2]
      exact hzm)
    have HDB := Lib.hid hDB
    have hn2a : (0 : Int) ≤ (n2 : Int) := by omega
    have hn2b : (n2 : Int) < (es.length : Int) := by omega
    have d4 : decide (es.length ≤ n2) = false := decide_eq_false (by omega)
    have d5 : ¬ es.length ≤ n2 := by omega
    have d6 : ¬ (es.length : Int) ≤ (n2 : Int) := by omega
    subst hn2
    subst hA9
    clear he2 hzm hDB hge HOK HLL c1 c2 hE
    have p0 := BX.out.cell 0
    have p1 := BX.out.cell 1
    have p2 := BX.out.cell 2
    have p3 := BX.out.cell 3
    have p4 := BX.out.cell 4
    have p5 := BX.out.cell 5
    have p6 := BX.out.cell 6
    have p7 := BX.out.cell 7
    have p8 := BX.out.cell 8
    have p9 := BX.out.cell 9
    have p10 := BX.out.cell 10
    have p11 := BX.out.cell 11
    have p12 := BX.out.cell 12
    have plt := BX.out.lt
    refine wp_region_held_drew (S := (fun V => V.cell? ⟨wr.heap.size, 0, none⟩ = some (.int .i64 (n2 : Int)) ∧ V.cell? ⟨wr.heap.size, 1, none⟩ = some (.int .i64 u) ∧ V.cell? ⟨wr.heap.size, 2, none⟩ = some (.int .i64 x) ∧ V.cell? ⟨wr.heap.size, 3, none⟩ = some (.int .i64 s) ∧ V.cell? ⟨wr.heap.size, 4, none⟩ = some (.int .i64 p) ∧ V.cell? ⟨wr.heap.size, 5, none⟩ = some (.int .i64 q) ∧ V.cell? ⟨wr.heap.size, 6, none⟩ = some (.int .i64 r) ∧ V.cell? ⟨wr.heap.size, 7, none⟩ = some (.slice AA l.length cc) ∧ V.cell? ⟨wr.heap.size, 8, none⟩ = some (.int .i64 f) ∧ V.cell? ⟨wr.heap.size, 9, none⟩ = some (.int .i64 y) ∧ V.cell? ⟨wr.heap.size, 10, none⟩ = some (.int .i64 i) ∧ V.cell? ⟨wr.heap.size, 11, none⟩ = some (.int .i64 j) ∧ V.cell? ⟨wr.heap.size, 12, none⟩ = some (.slice CC m.length dd) ∧ V.cell? ⟨g2, n2 * 4, none⟩ = some (.int .i64 ex) ∧ V.cell? ⟨g2, n2 * 4 + 1, none⟩ = some (.int .i64 es9) ∧ V.cell? ⟨g2, n2 * 4 + 2, none⟩ = some (.int .i64 ep) ∧ V.cell? ⟨g2, n2 * 4 + 3, none⟩ = some (.slice DD dl.length dc))) (by kernel_rfl) (by exact ⟨p0, p1, p2, p3, p4, p5, p6, p7, p8, p9, p10, p11, p12, e0, e1, e2, e3⟩) (fun hHeld => ?_)
    refine wpAnyH_take (i := 0) (oi := ?_) (v := ?_) ?_ ?_ ?_ ?_ ?_ ?_ (by exact hHeld) ?_
    rotate_left 2
    · (simp only [List.getElem?_toArray, List.getElem?_cons_zero]; try rfl)
    · kernel_rfl
    · kernel_rfl
    · kernel_rfl
    · exact fun _ _ _ h => h
    · refine Or.inl ⟨by rfl, ?_⟩
      (intro V hSV; (try dsimp only at hSV); obtain ⟨q0, q1, q2, q3, q4, q5, q6, q7, q8, q9, q10, q11, q12, q13, q14, q15, q16⟩ := hSV; go_simp; try with_reducible rfl)
    (try simp only [Act.put, List.setIfInBounds_toArray, List.set_cons_zero, List.set_cons_succ])
    refine wpAnyH_take (i := 1) (oi := ?_) (v := ?_) ?_ ?_ ?_ ?_ ?_ ?_ (by exact hHeld) ?_
    rotate_left 2
    · (simp only [List.getElem?_toArray, List.getElem?_cons_zero, List.getElem?_cons_succ]; try rfl)
    · kernel_rfl
    · kernel_rfl
    · kernel_rfl
    · exact fun _ _ _ h => h
    · refine Or.inl ⟨by rfl, ?_⟩
      (intro V hSV; (try dsimp only at hSV); obtain ⟨q0, q1, q2, q3, q4, q5, q6, q7, q8, q9, q10, q11, q12, q13, q14, q15, q16⟩ := hSV; go_simp; try with_reducible rfl)
    (try simp only [Act.put, List.setIfInBounds_toArray, List.set_cons_zero, List.set_cons_succ])
    refine wpAnyH_take (i := 2) (oi := ?_) (v := ?_) ?_ ?_ ?_ ?_ ?_ ?_ (by exact hHeld) ?_
    rotate_left 2
    · (simp only [List.getElem?_toArray, List.getElem?_cons_zero, List.getElem?_cons_succ]; try rfl)
    · kernel_rfl
    · kernel_rfl
    · kernel_rfl
    · exact fun _ _ _ h => h
    · refine Or.inl ⟨by rfl, ?_⟩
      (intro V hSV; (try dsimp only at hSV); obtain ⟨q0, q1, q2, q3, q4, q5, q6, q7, q8, q9, q10, q11, q12, q13, q14, q15, q16⟩ := hSV; go_simp; try with_reducible rfl)
    (try simp only [Act.put, List.setIfInBounds_toArray, List.set_cons_zero, List.set_cons_succ])
    refine wpAnyH_take (i := 3) (oi := ?_) (v := ?_) ?_ ?_ ?_ ?_ ?_ ?_ (by exact hHeld) ?_
    rotate_left 2
    · (simp only [List.getElem?_toArray, List.getElem?_cons_zero, List.getElem?_cons_succ]; try rfl)
    · kernel_rfl
    · kernel_rfl
    · kernel_rfl
    · exact fun _ _ _ h => h
    · refine Or.inl ⟨by rfl, ?_⟩
      (intro V hSV; (try dsimp only at hSV); obtain ⟨q0, q1, q2, q3, q4, q5, q6, q7, q8, q9, q10, q11, q12, q13, q14, q15, q16⟩ := hSV; go_simp; try with_reducible rfl)
    (try simp only [Act.put, List.setIfInBounds_toArray, List.set_cons_zero, List.set_cons_succ])
    refine wpAnyH_take (i := 4) (oi := ?_) (v := ?_) ?_ ?_ ?_ ?_ ?_ ?_ (by exact hHeld) ?_
    rotate_left 2
    · (simp only [List.getElem?_toArray, List.getElem?_cons_zero, List.getElem?_cons_succ]; try rfl)
    · kernel_rfl
    · kernel_rfl
    · kernel_rfl
    · exact fun _ _ _ h => h
    · refine Or.inl ⟨by rfl, ?_⟩
      (intro V hSV; (try dsimp only at hSV); obtain ⟨q0, q1, q2, q3, q4, q5, q6, q7, q8, q9, q10, q11, q12, q13, q14, q15, q16⟩ := hSV; go_simp; try with_reducible rfl)
    (try simp only [Act.put, List.setIfInBounds_toArray, List.set_cons_zero, List.set_cons_succ])
    refine wpAnyH_take (i := 5) (oi := ?_) (v := ?_) ?_ ?_ ?_ ?_ ?_ ?_ (by exact hHeld) ?_
    rotate_left 2
    · (simp only [List.getElem?_toArray, List.getElem?_cons_zero, List.getElem?_cons_succ]; try rfl)
    · kernel_rfl
    · kernel_rfl
    · kernel_rfl
    · exact fun _ _ _ h => h
    · refine Or.inl ⟨by rfl, ?_⟩
      (intro V hSV; (try dsimp only at hSV); obtain ⟨q0, q1, q2, q3, q4, q5, q6, q7, q8, q9, q10, q11, q12, q13, q14, q15, q16⟩ := hSV; go_simp; try with_reducible rfl)
    (try simp only [Act.put, List.setIfInBounds_toArray, List.set_cons_zero, List.set_cons_succ])
    refine wpAnyH_take (i := 6) (oi := ?_) (v := ?_) ?_ ?_ ?_ ?_ ?_ ?_ (by exact hHeld) ?_
    rotate_left 2
    · (simp only [List.getElem?_toArray, List.getElem?_cons_zero, List.getElem?_cons_succ]; try rfl)
    · kernel_rfl
    · kernel_rfl
    · kernel_rfl
    · exact fun _ _ _ h => h
    · refine Or.inl ⟨by rfl, ?_⟩
      (intro V hSV; (try dsimp only at hSV); obtain ⟨q0, q1, q2, q3, q4, q5, q6, q7, q8, q9, q10, q11, q12, q13, q14, q15, q16⟩ := hSV; go_simp; try with_reducible rfl)
    (try simp only [Act.put, List.setIfInBounds_toArray, List.set_cons_zero, List.set_cons_succ])
    refine wpAnyH_take (i := 7) (oi := ?_) (v := ?_) ?_ ?_ ?_ ?_ ?_ ?_ (by exact hHeld) ?_
    rotate_left 2
    · (simp only [List.getElem?_toArray, List.getElem?_cons_zero, List.getElem?_cons_succ]; try rfl)
    · kernel_rfl
    · kernel_rfl
    · kernel_rfl
    · exact fun _ _ _ h => h
    · refine Or.inl ⟨by rfl, ?_⟩
      (intro V hSV; (try dsimp only at hSV); obtain ⟨q0, q1, q2, q3, q4, q5, q6, q7, q8, q9, q10, q11, q12, q13, q14, q15, q16⟩ := hSV; go_simp; try with_reducible rfl)
    (try simp only [Act.put, List.setIfInBounds_toArray, List.set_cons_zero, List.set_cons_succ])
    refine wpAnyH_take (i := 8) (oi := ?_) (v := ?_) ?_ ?_ ?_ ?_ ?_ ?_ (by exact hHeld) ?_
    rotate_left 2
    · (simp only [List.getElem?_toArray, List.getElem?_cons_zero, List.getElem?_cons_succ]; try rfl)
    · kernel_rfl
    · kernel_rfl
    · kernel_rfl
    · exact fun _ _ _ h => h
    · refine Or.inl ⟨by rfl, ?_⟩
      (intro V hSV; (try dsimp only at hSV); obtain ⟨q0, q1, q2, q3, q4, q5, q6, q7, q8, q9, q10, q11, q12, q13, q14, q15, q16⟩ := hSV; go_simp; try with_reducible rfl)
    (try simp only [Act.put, List.setIfInBounds_toArray, List.set_cons_zero, List.set_cons_succ])
    refine wpAnyH_take (i := 9) (oi := ?_) (v := ?_) ?_ ?_ ?_ ?_ ?_ ?_ (by exact hHeld) ?_
    rotate_left 2
    · (simp only [List.getElem?_toArray, List.getElem?_cons_zero, List.getElem?_cons_succ]; try rfl)
    · kernel_rfl
    · kernel_rfl
    · kernel_rfl
    · exact fun _ _ _ h => h
    · refine Or.inl ⟨by rfl, ?_⟩
      (intro V hSV; (try dsimp only at hSV); obtain ⟨q0, q1, q2, q3, q4, q5, q6, q7, q8, q9, q10, q11, q12, q13, q14, q15, q16⟩ := hSV; go_simp; try with_reducible rfl)
    (try simp only [Act.put, List.setIfInBounds_toArray, List.set_cons_zero, List.set_cons_succ])
    refine wpAnyH_take (i := 10) (oi := ?_) (v := ?_) ?_ ?_ ?_ ?_ ?_ ?_ (by exact hHeld) ?_
    rotate_left 2
    · (simp only [List.getElem?_toArray, List.getElem?_cons_zero, List.getElem?_cons_succ]; try rfl)
    · kernel_rfl
    · kernel_rfl
    · kernel_rfl
    · exact fun _ _ _ h => h
    · refine Or.inl ⟨by rfl, ?_⟩
      (intro V hSV; (try dsimp only at hSV); obtain ⟨q0, q1, q2, q3, q4, q5, q6, q7, q8, q9, q10, q11, q12, q13, q14, q15, q16⟩ := hSV; go_simp; try with_reducible rfl)
    (try simp only [Act.put, List.setIfInBounds_toArray, List.set_cons_zero, List.set_cons_succ])
    refine wpAnyH_take (i := 11) (oi := ?_) (v := ?_) ?_ ?_ ?_ ?_ ?_ ?_ (by exact hHeld) ?_
    rotate_left 2
    · (simp only [List.getElem?_toArray, List.getElem?_cons_zero, List.getElem?_cons_succ]; try rfl)
    · kernel_rfl
    · kernel_rfl
    · kernel_rfl
    · exact fun _ _ _ h => h
    · refine Or.inl ⟨by rfl, ?_⟩
      (intro V hSV; (try dsimp only at hSV); obtain ⟨q0, q1, q2, q3, q4, q5, q6, q7, q8, q9, q10, q11, q12, q13, q14, q15, q16⟩ := hSV; go_simp; try with_reducible rfl)
    (try simp only [Act.put, List.setIfInBounds_toArray, List.set_cons_zero, List.set_cons_succ])
    refine wpAnyH_take (i := 12) (oi := ?_) (v := ?_) ?_ ?_ ?_ ?_ ?_ ?_ (by exact hHeld) ?_
    rotate_left 2
    · (simp only [List.getElem?_toArray, List.getElem?_cons_zero, List.getElem?_cons_succ]; try rfl)
    · kernel_rfl
    · kernel_rfl
    · kernel_rfl
    · exact fun _ _ _ h => h
    · refine Or.inl ⟨by rfl, ?_⟩
      (intro V hSV; (try dsimp only at hSV); obtain ⟨q0, q1, q2, q3, q4, q5, q6, q7, q8, q9, q10, q11, q12, q13, q14, q15, q16⟩ := hSV; go_simp; try with_reducible rfl)
    (try simp only [Act.put, List.setIfInBounds_toArray, List.set_cons_zero, List.set_cons_succ])
    refine wpAnyH_take (i := 13) (oi := ?_) (v := ?_) ?_ ?_ ?_ ?_ ?_ ?_ (by exact hHeld) ?_
    rotate_left 2
    · (simp only [List.getElem?_toArray, List.getElem?_cons_zero, List.getElem?_cons_succ]; try rfl)
    · kernel_rfl
    · kernel_rfl
    · kernel_rfl
    · exact fun _ _ _ h => h
    · refine Or.inl ⟨by rfl, ?_⟩
      (intro V hSV; (try dsimp only at hSV); obtain ⟨q0, q1, q2, q3, q4, q5, q6, q7, q8, q9, q10, q11, q12, q13, q14, q15, q16⟩ := hSV; go_simp; try with_reducible rfl)
    (try simp only [Act.put, List.setIfInBounds_toArray, List.set_cons_zero, List.set_cons_succ])
    refine wpAnyH_take (i := 14) (oi := ?_) (v := ?_) ?_ ?_ ?_ ?_ ?_ ?_ (by exact hHeld) ?_
    rotate_left 2
    · (simp only [List.getElem?_toArray, List.getElem?_cons_zero, List.getElem?_cons_succ]; try rfl)
    · kernel_rfl
    · kernel_rfl
    · kernel_rfl
    · exact fun _ _ _ h => h
    · refine Or.inl ⟨by rfl, ?_⟩
      (intro V hSV; (try dsimp only at hSV); obtain ⟨q0, q1, q2, q3, q4, q5, q6, q7, q8, q9, q10, q11, q12, q13, q14, q15, q16⟩ := hSV; go_simp; try with_reducible rfl)
    (try simp only [Act.put, List.setIfInBounds_toArray, List.set_cons_zero, List.set_cons_succ])
    refine wpAnyH_take (i := 15) (oi := ?_) (v := ?_) ?_ ?_ ?_ ?_ ?_ ?_ (by exact hHeld) ?_
    rotate_left 2
    · (simp only [List.getElem?_toArray, List.getElem?_cons_zero, List.getElem?_cons_succ]; try rfl)
    · kernel_rfl
    · kernel_rfl
    · kernel_rfl
    · exact fun _ _ _ h => h
    · refine Or.inl ⟨by rfl, ?_⟩
      (intro V hSV; (try dsimp only at hSV); obtain ⟨q0, q1, q2, q3, q4, q5, q6, q7, q8, q9, q10, q11, q12, q13, q14, q15, q16⟩ := hSV; go_simp; try with_reducible rfl)
    (try simp only [Act.put, List.setIfInBounds_toArray, List.set_cons_zero, List.set_cons_succ])
    refine wpAnyH_take (i := 16) (oi := ?_) (v := ?_) ?_ ?_ ?_ ?_ ?_ ?_ (by exact hHeld) ?_
    rotate_left 2
    · (simp only [List.getElem?_toArray, List.getElem?_cons_zero, List.getElem?_cons_succ]; try rfl)
    · kernel_rfl
    · kernel_rfl
    · kernel_rfl
    · exact fun _ _ _ h => h
    · refine Or.inl ⟨by rfl, ?_⟩
      (intro V hSV; (try dsimp only at hSV); obtain ⟨q0, q1, q2, q3, q4, q5, q6, q7, q8, q9, q10, q11, q12, q13, q14, q15, q16⟩ := hSV; go_simp; try with_reducible rfl)
    (try simp only [Act.put, List.setIfInBounds_toArray, List.set_cons_zero, List.set_cons_succ])
    refine wpAnyH_take (i := 17) (oi := ?_) (v := ?_) ?_ ?_ ?_ ?_ ?_ ?_ (by exact hHeld) ?_
    rotate_left 2
    · (simp only [List.getElem?_toArray, List.getElem?_cons_zero, List.getElem?_cons_succ]; try rfl)
    · kernel_rfl
    · kernel_rfl
    · kernel_rfl
    · exact fun _ _ _ h => h
    · refine Or.inl ⟨by rfl, ?_⟩
      (intro V hSV; (try dsimp only at hSV); obtain ⟨q0, q1, q2, q3, q4, q5, q6, q7, q8, q9, q10, q11, q12, q13, q14, q15, q16⟩ := hSV; go_simp; try with_reducible rfl)
    (try simp only [Act.put, List.setIfInBounds_toArray, List.set_cons_zero, List.set_cons_succ])
    refine wpAnyH_ready (rs := [18]) (by kernel_rfl) (by simp) ?_
    refine AllReadyH.cons rfl (fun K hK => ?_) AllReadyH.nil
    go_simp
    refine (mayAnswer_any (n2 : Int) u x s p q r f y i j ex es9 ep AA l cc CC m dd DD dl dc _ hl0 hcc9 hl1 hdd9 hdl hdc hPl hpp (by exact HT1.out) (by exact HA.out) (by exact HC.out) (by exact HDB.out)).mono ?_
    rintro e w2 ⟨rfl, hb2⟩
    rw [HZM.out]
    have hb2 : Below W1.heap.size W1 w2 := ⟨hb2.os, hb2.tape, hb2.output, hb2.size, hb2.block⟩
    have H2 := Lib.hid hb2
    clear hb2
    go_wp2_with fail
    refine hK.out _ _ (by exact ⟨((H2.out).cell (p := ⟨wr.heap.size, 0, none⟩) plt).trans p0, ((H2.out).cell (p := ⟨wr.heap.size, 1, none⟩) plt).trans p1, ((H2.out).cell (p := ⟨wr.heap.size, 2, none⟩) plt).trans p2, ((H2.out).cell (p := ⟨wr.heap.size, 3, none⟩) plt).trans p3, ((H2.out).cell (p := ⟨wr.heap.size, 4, none⟩) plt).trans p4, ((H2.out).cell (p := ⟨wr.heap.size, 5, none⟩) plt).trans p5, ((H2.out).cell (p := ⟨wr.heap.size, 6, none⟩) plt).trans p6, ((H2.out).cell (p := ⟨wr.heap.size, 7, none⟩) plt).trans p7, ((H2.out).cell (p := ⟨wr.heap.size, 8, none⟩) plt).trans p8, ((H2.out).cell (p := ⟨wr.heap.size, 9, none⟩) plt).trans p9, ((H2.out).cell (p := ⟨wr.heap.size, 10, none⟩) plt).trans p10, ((H2.out).cell (p := ⟨wr.heap.size, 11, none⟩) plt).trans p11, ((H2.out).cell (p := ⟨wr.heap.size, 12, none⟩) plt).trans p12, ((H2.out).cell (p := ⟨g2, n2 * 4, none⟩) hg2).trans e0, ((H2.out).cell (p := ⟨g2, n2 * 4 + 1, none⟩) hg2).trans e1, ((H2.out).cell (p := ⟨g2, n2 * 4 + 2, none⟩) hg2).trans e2, ((H2.out).cell (p := ⟨g2, n2 * 4 + 3, none⟩) hg2).trans e3⟩) (fun hHeld => ?_)
    clear hK K
    (try simp only [Act.put, List.setIfInBounds_toArray, List.set_cons_zero, List.set_cons_succ])
    refine wpAnyH_take (i := 19) (oi := ?_) (v := ?_) ?_ ?_ ?_ ?_ ?_ ?_ (by exact hHeld) ?_
    rotate_left 2
    · (simp only [List.getElem?_toArray, List.getElem?_cons_zero, List.getElem?_cons_succ]; try rfl)
    · kernel_rfl
    · kernel_rfl
    · kernel_rfl
    · exact fun _ _ _ h => h
    · refine Or.inl ⟨by rfl, ?_⟩
      (intro V hSV; (try dsimp only at hSV); obtain ⟨q0, q1, q2, q3, q4, q5, q6, q7, q8, q9, q10, q11, q12, q13, q14, q15, q16⟩ := hSV; go_simp; try with_reducible rfl)
    (try simp only [Act.put, List.setIfInBounds_toArray, List.set_cons_zero, List.set_cons_succ])
    refine wpAnyH_take (i := 20) (oi := ?_) (v := ?_) ?_ ?_ ?_ ?_ ?_ ?_ (by exact hHeld) ?_
    rotate_left 2
    · (simp only [List.getElem?_toArray, List.getElem?_cons_zero, List.getElem?_cons_succ]; try rfl)
    · kernel_rfl
    · kernel_rfl
    · kernel_rfl
    · exact fun _ _ _ h => h
    · refine Or.inl ⟨by rfl, ?_⟩
      (intro V hSV; (try dsimp only at hSV); obtain ⟨q0, q1, q2, q3, q4, q5, q6, q7, q8, q9, q10, q11, q12, q13, q14, q15, q16⟩ := hSV; go_simp; try with_reducible rfl)
    (try simp only [Act.put, List.setIfInBounds_toArray, List.set_cons_zero, List.set_cons_succ])
    refine wpAnyH_done (by kernel_rfl) ?_ _
    have HB2 := Lib.hid (below_then HB1.out H2.out)
    have BX2 := Lib.hid (BX.out.below H2.out)
    clear hHeld p0 p1 p2 p3 p4 p5 p6 p7 p8 p9 p10 p11 p12 plt e0 e1 e2 e3 H2 HB1 BX HA HC HT1 HE1
    cases zm
    case false =>
      have hz : ZO = false := by rw [← HZO.out]; exact outsOk_at hlt HOK2.out
      subst hz
      go_wp2
      go_ret
      exact ⟨rfl, HB2.out⟩
    have HAL2 := Lib.hid (show ∀ q, q < k + 1 → okAt es os q = true from fun q hq => by
      rcases Nat.lt_succ_iff_lt_or_eq.1 hq with h | h
      · exact HALL.out q h
      · rw [h]; exact HOK2.out)
    have p0 := BX2.out.cell 0
    clear HALL HOK2
    go_wp2
    go_roundw
    case rel => exact ⟨k + 1, by omega, by go_num, by rw [HLS.out], HAL2.out, HB2.out⟩
    case measure => simp [intOf]; omega

end Go.Proofs.YtgpjjolgpppeeaaDoor
