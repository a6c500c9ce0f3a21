/-
  Chapter 12, how often a session was picked while its last request was pending: mathematics, contract of the model. Own work.
-/
import Derived.Test.YtgpjjolgpppeeaaDoorM08
import Derived.Deep.RegionHeld3
import Derived.Deep.DeepCutAuto
namespace Go.Proofs.YtgpjjolgpppeeaaDoor
open Go.RowKit P
set_option linter.unusedVariables false
set_option linter.unusedSimpArgs false
set_option maxRecDepth 100000

/-- Does the event bring a request of the session? Does it pick it? -/
def isFr (e : Evt) (n : Int) : Bool := decide (e.1 = 1) && (rqGood e.2.2.2 && decide (rqFd e.2.2.2 (gb e.2.2.2 1) = n))
def pkOf (e : Evt) (n : Int) : Bool := decide (e.1 = 2) && decide (e.2.1 = n)
/-- The last of the first k events that brings a request of the session, or -1. -/
def asked (es : List Evt) (n : Int) : Nat → Int
  | 0 => -1
  | k + 1 => if isFr (es.getD k dEv) n = true then (k : Int) else asked es n k
/-- The picks of the session among the m events from i on. -/
def pkN (es : List Evt) (n : Int) (i : Nat) : Nat → Nat
  | 0 => 0
  | m + 1 => pkN es n i m + (if pkOf (es.getD (i + m) dEv) n = true then 1 else 0)
def anP (n a : Int) (o : Ot) : Bool := decide (o.2.1 = n) && decide (a < o.1)
/-- Behind the event at which the waiting ends. -/
def endW (es : List Evt) (os : List Ot) (n a : Int) : Nat := match os.find? (anP n a) with
  | none => es.length
  | some o => o.1.toNat + 1
def waitsV (es : List Evt) (os : List Ot) (n : Int) : Int :=
  if outsOk es os = true then (if asked es n es.length < 0 then -1 else ((pkN es n (asked es n es.length + 1).toNat (endW es os n (asked es n es.length) - (asked es n es.length + 1).toNat) : Nat) : Int)) else -1
theorem asked_ge (es : List Evt) (n : Int) : ∀ k, -1 ≤ asked es n k ∧ asked es n k < k := by
  intro k
  induction k with
  | zero => unfold asked; omega
  | succ k ih => unfold asked; split <;> omega
theorem asked_succ {es : List Evt} {n : Int} {k : Nat} (hk : k < es.length) {e : Evt} (he : es[k] = e) : asked es n (k + 1) = if isFr e n = true then (k : Int) else asked es n k := by
  show (if isFr (es.getD k dEv) n = true then (k : Int) else asked es n k) = _
  rw [getD_lt hk, he]
theorem pkN_succ {es : List Evt} {n : Int} {i m : Nat} (hk : i + m < es.length) {e : Evt} (he : es[i + m] = e) : pkN es n i (m + 1) = pkN es n i m + (if pkOf e n = true then 1 else 0) := by
  show pkN es n i m + (if pkOf (es.getD (i + m) dEv) n = true then 1 else 0) = _
  rw [getD_lt hk, he]
theorem pkN_le (es : List Evt) (n : Int) (i : Nat) : ∀ m, pkN es n i m ≤ m := by
  intro m
  induction m with
  | zero => exact Nat.le_refl _
  | succ m ih => unfold pkN; split <;> omega
theorem find_at {α : Type} {l : List α} {p : α → Bool} : ∀ {k : Nat} (hk : k < l.length), (∀ q (hq : q < k), p (l[q]'(by omega)) = false) → p l[k] = true → l.find? p = some l[k] := by
  induction l with
  | nil => intro k hk; simp at hk
  | cons a t ih =>
    intro k hk h1 h2
    cases k with
    | zero => simp only [List.getElem_cons_zero] at h2 ⊢; rw [List.find?_cons_of_pos h2]
    | succ k =>
      have h0 : p a = false := by simpa using h1 0 (by omega)
      rw [List.find?_cons_of_neg (by rw [h0]; simp)]
      simp only [List.getElem_cons_succ] at h2 ⊢
      exact ih (by simpa using hk) (fun q hq => by simpa using h1 (q + 1) (by omega)) h2
theorem find_none {α : Type} {l : List α} {p : α → Bool} (h : ∀ q (hq : q < l.length), p l[q] = false) : l.find? p = none := by
  rw [List.find?_eq_none]
  intro x hx
  obtain ⟨q, hq, rfl⟩ := List.getElem_of_mem hx
  rw [h q hq]
  simp
/-- In outputs that can be, the indices grow. -/
theorem outs_at {es : List Evt} {os : List Ot} (h : outsOk es os = true) {k : Nat} (hk : k < os.length) : okAt es os k = true := by
  unfold outsOk at h
  rw [Bool.and_eq_true, Bool.and_eq_true] at h
  exact List.all_eq_true.1 h.2.2 k (List.mem_range.2 hk)
theorem outs_lt {es : List Evt} {os : List Ot} (h : outsOk es os = true) {k : Nat} (hk : k < os.length) : 0 ≤ os[k].1 ∧ os[k].1 < es.length := by
  have h1 := outs_at h hk
  rw [okAt_eq hk rfl, Bool.and_eq_true, Bool.and_eq_true, decide_eq_true_eq, decide_eq_true_eq] at h1
  have h2 := lastA_ge (k := k) (by omega) (fun q hq => outs_at h (by omega))
  exact ⟨by omega, h1.2.1⟩
theorem outs_mono {es : List Evt} {os : List Ot} (h : outsOk es os = true) : ∀ {k j : Nat} (hj : j < os.length) (hkj : k < j), (os[k]'(by omega)).1 < os[j].1 := by
  intro k j
  induction j with
  | zero => intro _ hkj; omega
  | succ j ih =>
    intro hj hkj
    have h1 := outs_at h hj
    rw [okAt_eq hj rfl, Bool.and_eq_true, decide_eq_true_eq, lastA_succ (by omega)] at h1
    rcases Nat.lt_succ_iff_lt_or_eq.1 hkj with h2 | h2
    · have h3 := ih (by omega) h2
      omega
    · subst h2
      exact h1.1
/-- Where the waiting ends. -/
theorem endW_none {es : List Evt} {os : List Ot} {n a : Int} (h : ∀ q (hq : q < os.length), anP n a os[q] = false) : endW es os n a = es.length := by
  unfold endW
  rw [find_none h]
theorem endW_at {es : List Evt} {os : List Ot} {n a : Int} {k : Nat} (hk : k < os.length) (h1 : ∀ q (hq : q < k), anP n a (os[q]'(by omega)) = false) (h2 : anP n a os[k] = true) : endW es os n a = os[k].1.toNat + 1 := by
  unfold endW
  rw [find_at hk h1 h2]
/-- No output of the session at the event q. -/
def noOut (os : List Ot) (n : Int) (q : Nat) : Prop := ∀ k (hk : k < os.length), ¬ (os[k].1 = (q : Int) ∧ os[k].2.1 = n)
theorem endW_hit {es : List Evt} {os : List Ot} {n a : Int} {i k : Nat} (h : outsOk es os = true) (hk : k < os.length) (h1 : os[k].1 = (i : Int)) (h2 : os[k].2.1 = n) (hai : a < (i : Int)) (hno : ∀ q : Nat, a < (q : Int) → q < i → noOut os n q) : endW es os n a = i + 1 := by
  have h3 : ∀ q (hq : q < k), anP n a (os[q]'(by omega)) = false := fun q hq => by
    cases h4 : anP n a (os[q]'(by omega)) with
    | false => rfl
    | true =>
      exfalso
      unfold anP at h4
      rw [Bool.and_eq_true, decide_eq_true_eq, decide_eq_true_eq] at h4
      have h5 := outs_mono h hk hq
      have h6 := outs_lt h (k := q) (by omega)
      obtain ⟨z, hz⟩ := Int.eq_ofNat_of_zero_le h6.1
      exact hno z (by omega) (by omega) q (by omega) ⟨hz, h4.1⟩
  have h7 := endW_at (es := es) hk h3 (by unfold anP; rw [h2, h1]; simp; exact hai)
  rw [h7, h1]
  simp
theorem endW_miss {es : List Evt} {os : List Ot} {n a : Int} (h : outsOk es os = true) (hno : ∀ q : Nat, a < (q : Int) → q < es.length → noOut os n q) : endW es os n a = es.length := by
  refine endW_none (fun q hq => ?_)
  cases h4 : anP n a os[q] with
  | false => rfl
  | true =>
    exfalso
    unfold anP at h4
    rw [Bool.and_eq_true, decide_eq_true_eq, decide_eq_true_eq] at h4
    have h6 := outs_lt h hq
    obtain ⟨z, hz⟩ := Int.eq_ofNat_of_zero_le h6.1
    exact hno z (by omega) (by omega) q hq ⟨hz, h4.1⟩
theorem waits_no {es : List Evt} {os : List Ot} {n : Int} (h : outsOk es os = false) : waitsV es os n = -1 := by unfold waitsV; rw [h]; rfl
theorem waits_neg {es : List Evt} {os : List Ot} {n : Int} (h : asked es n es.length < 0) : waitsV es os n = -1 := by
  unfold waitsV
  by_cases h1 : outsOk es os = true
  · rw [if_pos h1, if_pos h]
  · rw [if_neg h1]
theorem waits_end {es : List Evt} {os : List Ot} {n : Int} {st m : Nat} (h : outsOk es os = true) (ha : asked es n es.length + 1 = (st : Int)) (h0 : 0 < st) (he : endW es os n (asked es n es.length) = st + m) : waitsV es os n = (pkN es n st m : Nat) := by
  unfold waitsV
  rw [if_pos h, if_neg (by omega), he, ha]
  simp

set_option maxHeartbeats 64000000 in
theorem specWaits_any (A : Option Addr) (es : List Evt) (c lo hi : Nat) (fE : List Nat) (B : Option Addr) (os : List Ot) (d : Nat) (n : Int) (w : World) (hne : es.length + sumB ebt es ≤ 1048576) (hno : os.length + sumB obt os ≤ 1048576) (hE : OwnL 83 Lay.rpL w lo hi A es c fE) (hO : Ots w B os) :
    Calls Tryd.prog 21 #[.slice A es.length c, .slice B os.length d, .int .i64 n] w fun e w' => e = .returned (.int .i64 (waitsV es os n)) ∧ Below w.heap.size w w' := by
  obtain ⟨WV, hWV⟩ : ∃ z, waitsV es os n = z := ⟨_, rfl⟩
  rw [hWV]
  have HWV := Lib.hid hWV
  clear hWV
  obtain ⟨ok, hok⟩ : ∃ z, outsOk es os = z := ⟨_, rfl⟩
  have HOK := Lib.hid hok
  clear hok
  go_enter Tryd.func21, Tryd.ntmps21
  go_wp2_with fail
  refine (specOutsOk_any A es c lo hi fE B os d _ hne hno (by exact hE) (by exact hO)).mono ?_
  rintro e w0 ⟨rfl, hb⟩
  rw [HOK.out]
  have HB0 := Lib.hid hb
  clear hb
  cases ok
  case false =>
    have hz : WV = -1 := by rw [← HWV.out]; exact waits_no HOK.out
    subst hz
    go_wp2
    go_ret
    exact ⟨rfl, HB0.out⟩
  have he6 : es.length ≤ 1048576 := by omega
  have ho6 : os.length ≤ 1048576 := by omega
  go_wp2
  go_loopw [7, 8] (fun fr i wr => ∃ k : Nat, k ≤ es.length ∧ i = .int .i64 k ∧ fr = .int .i64 (asked es n k) ∧ Below w.heap.size w wr) (fun _ i _ => es.length - (intOf i).toNat)
  case atStart => exact ⟨0, Nat.zero_le _, rfl, rfl, HB0.out⟩
  case round =>
    obtain ⟨k, hk, rfl, rfl, hb⟩ := hrel
    have HB := Lib.hid hb
    by_cases hlt : k < es.length
    · have hki : (k : Int) < (es.length : Int) := by omega
      obtain ⟨g2, ex, es9, ep, DD, dl, dc, hA9, hg2, he2, e0, e1, e2, e3, _, _, _, hdl, hdc, hDB, hPl, hpp⟩ := ev_own (hE.below hb) k hlt
      have hdl6 : dl.length ≤ 1048576 := by
        have h1 := sumB_mem ebt es k hlt
        rw [he2] at h1
        have h2 : dl.length ≤ sumB ebt es := h1
        omega
      have HAS := Lib.hid (asked_succ (n := n) hlt he2)
      obtain ⟨K, hK⟩ : ∃ z, asked es n k = z := ⟨_, rfl⟩
      have HK := Lib.hid hK
      rw [hK]
      have HDB := Lib.hid hDB
      have hA9' := hA9
      subst hA9
      obtain ⟨f0, hf0⟩ : ∃ z, rqFd dl (gb dl 0) = z := ⟨_, rfl⟩
      have Hf0 := Lib.hid hf0
      clear hf0
      obtain ⟨f1, hf1⟩ : ∃ z, rqFd dl (gb dl 1) = z := ⟨_, rfl⟩
      have Hf1 := Lib.hid hf1
      clear hf1
      obtain ⟨f2, hf2⟩ : ∃ z, rqFd dl (wd dl 2) = z := ⟨_, rfl⟩
      have Hf2 := Lib.hid hf2
      clear hf2
      obtain ⟨f3, hf3⟩ : ∃ z, rqFd dl (wd dl 4) = z := ⟨_, rfl⟩
      have Hf3 := Lib.hid hf3
      clear hf3
      obtain ⟨f4, hf4⟩ : ∃ z, rqFd dl (wd dl 6) = z := ⟨_, rfl⟩
      have Hf4 := Lib.hid hf4
      clear hf4
      obtain ⟨t, ht⟩ : ∃ z, rqT dl = z := ⟨_, rfl⟩
      have Ht := Lib.hid ht
      clear ht
      obtain ⟨g, hg⟩ : ∃ z, rqGood dl = z := ⟨_, rfl⟩
      have Hg := Lib.hid hg
      have HFR : Hid (isFr (ex, es9, ep, dl) n = (decide (ex = 1) && (g && decide (f1 = n)))) := Lib.hid (by unfold isFr; simp only; rw [hg, Hf1.out])
      clear hg hK he2 hDB hb
      go_wp2_with fail
      refine (specReqParse_any DD dl dc _ hdl hdc hPl hpp (by exact HDB.out) hdl6).mono ?_
      rintro e w2 hg2'
      unfold GivesRq at hg2'
      obtain ⟨v, rfl, hown, hb2⟩ := hg2'
      rw [Hf0.out, Hf1.out, Hf2.out, Hf3.out, Hf4.out, Hg.out]
      rw [Ht.out] at hown
      obtain ⟨V, cv, rfl, hv1, hv2, _, _, _⟩ := own_plain9 hown
      have hal := (Below.refl w2.heap.size w2).alloc (Nat.le_refl _) (.cells #[.int .i64 f0, .int .i64 f1, .int .i64 f2, .int .i64 f3, .int .i64 f4, .slice V t.length cv] 29)
      have BR := Lib.hid (Blk.new w2 #[.int .i64 f0, .int .i64 f1, .int .i64 f2, .int .i64 f3, .int .i64 f4, .slice V t.length cv] 29)
      have HB := Lib.hid (below_then (below_then HB.out hb2) hal)
      have x0 := (hal.cell (p := ⟨g2, k * 4, none⟩) (Nat.lt_of_lt_of_le hg2 hb2.size)).trans ((hb2.cell (p := ⟨g2, k * 4, none⟩) hg2).trans e0)
      clear hb2 hown hal e0 e1 e2 e3 HDB Hf0 Hf1 Hf2 Hf3 Hf4 Ht
      go_upto_region 8 with fail
      generalize w2.alloc (.cells #[.int .i64 f0, .int .i64 f1, .int .i64 f2, .int .i64 f3, .int .i64 f4, .slice V t.length cv] 29) = W2 at *
      have r1 := BR.out.cell 1
      by_cases c1 : ex = 1
      case neg =>
        have d1 : (ex == 1) = false := by simp [c1]
        have HN := Lib.hid (show asked es n (k + 1) = K by rw [HAS.out, HFR.out, decide_eq_false c1, Bool.false_and, if_neg (by simp), HK.out])
        clear c1
        go_wp2
        go_roundw
        case rel => exact ⟨k + 1, by omega, by go_num, by rw [HN.out], HB.out⟩
        case measure => simp [intOf]; omega
      have d1 : (ex == 1) = true := by simp [c1]
      have HC1 := Lib.hid c1
      clear c1
      cases g
      case false =>
        have HN := Lib.hid (show asked es n (k + 1) = K by rw [HAS.out, HFR.out, Bool.false_and, Bool.and_false, if_neg (by simp), HK.out])
        go_wp2
        go_roundw
        case rel => exact ⟨k + 1, by omega, by go_num, by rw [HN.out], HB.out⟩
        case measure => simp [intOf]; omega
      by_cases c2 : f1 = n
      case neg =>
        have d2 : (f1 == n) = false := by simp [c2]
        have HN := Lib.hid (show asked es n (k + 1) = K by rw [HAS.out, HFR.out, decide_eq_false c2, Bool.and_false, Bool.and_false, if_neg (by simp), HK.out])
        clear c2
        go_wp2
        go_roundw
        case rel => exact ⟨k + 1, by omega, by go_num, by rw [HN.out], HB.out⟩
        case measure => simp [intOf]; omega
      have d2 : (f1 == n) = true := by simp [c2]
      have HN := Lib.hid (show asked es n (k + 1) = (k : Int) by rw [HAS.out, HFR.out, decide_eq_true c2, decide_eq_true HC1.out, if_pos (by simp)])
      clear c2
      go_wp2
      go_roundw
      case rel => exact ⟨k + 1, by omega, by go_num, by rw [HN.out], HB.out⟩
      case measure => simp [intOf]; omega
    have e9 : k = es.length := by omega
    subst e9
    obtain ⟨a, ha⟩ : ∃ z, asked es n es.length = z := ⟨_, rfl⟩
    have hge := asked_ge es n es.length
    rw [ha] at hge ⊢
    have HAK := Lib.hid ha
    clear ha hb
    by_cases c1 : a < 0
    case pos =>
      have hz : WV = -1 := by rw [← HWV.out]; exact waits_neg (by rw [HAK.out]; exact c1)
      subst hz
      go_wp2
      go_ret
      exact ⟨rfl, HB.out⟩
    obtain ⟨st, hst⟩ := Int.eq_ofNat_of_zero_le (show (0 : Int) ≤ a + 1 by omega)
    have hst0 : 0 < st := by omega
    have hst1 : st ≤ es.length := by omega
    have hws : IntKind.i64.wrap (a + 1) = (st : Int) := by rw [hst]; exact IntWalk.i64_in _ ⟨by omega, by omega⟩
    have HST := Lib.hid hst
    clear hst
    go_wp2
    go_loopw [11, 12] (fun cn i wr => ∃ m : Nat, st + m ≤ es.length ∧ i = .int .i64 ((st + m : Nat) : Int) ∧ cn = .int .i64 (pkN es n st m : Nat) ∧ (∀ q : Nat, a < (q : Int) → q < st + m → noOut os n q) ∧ Below w.heap.size w wr) (fun _ i _ => es.length - (intOf i).toNat)
    case atStart => exact ⟨0, by omega, by first | rfl | simp, rfl, fun q h1 h2 => by have := HST.out; omega, HB.out⟩
    case round =>
      obtain ⟨m, hm, rfl, rfl, hall, hb⟩ := hrel
      have HALL := Lib.hid hall
      have HB := Lib.hid hb
      clear hall
      by_cases hlt : st + m < es.length
      case neg =>
        have hz : WV = (pkN es n st m : Nat) := by
          rw [← HWV.out]
          refine waits_end HOK.out (by rw [HAK.out]; exact HST.out) hst0 ?_
          rw [HAK.out, endW_miss HOK.out (fun q h1 h2 => HALL.out q h1 (by omega))]
          omega
        subst hz
        obtain ⟨i9, hi9⟩ : ∃ z, st + m = z := ⟨_, rfl⟩
        rw [hi9] at hlt ⊢
        clear hb hi9
        go_wp2
        go_ret
        exact ⟨rfl, HB.out⟩
      obtain ⟨g2, ex, es9, ep, DD, dl, dc, hA9, hg2, he2, e0, e1, _, _, _⟩ := ev_own (hE.below hb) (st + m) hlt
      have HPK := Lib.hid (pkN_succ (n := n) hlt he2)
      have hpl := pkN_le es n st m
      obtain ⟨C, hC⟩ : ∃ z, pkN es n st m = z := ⟨_, rfl⟩
      have HCC := Lib.hid hC
      rw [hC] at hpl ⊢
      obtain ⟨i9, hi9⟩ : ∃ z, st + m = z := ⟨_, rfl⟩
      rw [hi9] at hlt e0 e1 ⊢
      have HI9 := Lib.hid hi9
      subst hA9
      clear hC hb he2 hi9
      have hki : (i9 : Int) < (es.length : Int) := by omega
      have hk0 : (0 : Int) ≤ (i9 : Int) := by omega
      have hwc : IntKind.i64.wrap ((C : Int) + 1) = ((C + 1 : Nat) : Int) := by rw [IntWalk.i64_in _ ⟨by omega, by omega⟩]; omega
      obtain ⟨pk, hpk⟩ : ∃ z, pkOf (ex, es9, ep, dl) n = z := ⟨_, rfl⟩
      have HPK2 := Lib.hid hpk
      clear hpk
      go_upto_region 16 with fail
      by_cases c2 : ex = 2 ∧ es9 = n
      case pos =>
        have d1 : (ex == 2) = true := by simp [c2.1]
        have d2 : (es9 == n) = true := by simp [c2.2]
        have HC2 := Lib.hid (show pkN es n st (m + 1) = C + 1 by rw [HPK.out, HCC.out, if_pos (by unfold pkOf; simp [c2.1, c2.2])])
        clear c2 HPK HPK2
        go_wp2
        go_loopw [13] (fun j wr => ∃ k : Nat, k ≤ os.length ∧ j = .int .i64 k ∧ (∀ q (hq : q < os.length), q < k → ¬ (os[q].1 = (i9 : Int) ∧ os[q].2.1 = n)) ∧ Below w.heap.size w wr) (fun j _ => os.length - (intOf j).toNat)
        case atStart => exact ⟨0, Nat.zero_le _, rfl, fun q hq h => absurd h (by omega), HB.out⟩
        case round =>
          obtain ⟨k, hk, rfl, hnone, hb⟩ := hrel
          have HNO := Lib.hid hnone
          have HB2 := Lib.hid hb
          clear hnone
          by_cases hlk : k < os.length
          case neg =>
            have HAL2 := Lib.hid (show ∀ q : Nat, a < (q : Int) → q < st + (m + 1) → noOut os n q from fun q h1 h2 => by
              have h9 := HI9.out
              by_cases h3 : q < st + m
              · exact HALL.out q h1 h3
              · have h4 : q = i9 := by omega
                rw [h4]
                exact fun z hz => HNO.out z hz (by omega))
            have HIX := Lib.hid (show ((i9 + 1 : Nat) : Int) = ((st + (m + 1) : Nat) : Int) by have h9 := HI9.out; omega)
            have hm2 : st + (m + 1) ≤ es.length := by have h9 := HI9.out; omega
            clear hb
            go_wp2
            go_roundw
            case rel => exact ⟨m + 1, hm2, by first | (rw [← HIX.out]; go_num) | (rw [← HIX.out]; rfl), by rw [HC2.out]; (first | done | rfl | simp), HAL2.out, HB2.out⟩
            case measure => simp [intOf]; omega
          obtain ⟨b, off, o1, u, x, s, p, q, r, f, y, i, j, AA, l, cc, CC, mm, dd, rfl, hbl, hek, k0, k1, _⟩ := (hO.below hb).at_ k hlk
          have hkj : (k : Int) < (os.length : Int) := by omega
          have hkj0 : (0 : Int) ≤ (k : Int) := by omega
          have HEK := Lib.hid (show os[k].1 = o1 ∧ os[k].2.1 = u by rw [hek]; exact ⟨rfl, rfl⟩)
          clear hek hb
          have hstep : ¬ (o1 = (i9 : Int) ∧ u = n) → ∀ q (hq : q < os.length), q < k + 1 → ¬ (os[q].1 = (i9 : Int) ∧ os[q].2.1 = n) := fun h z hz hzk => by
            rcases Nat.lt_succ_iff_lt_or_eq.1 hzk with h1 | h1
            · exact HNO.out z hz h1
            · subst h1
              rw [HEK.out.1, HEK.out.2]
              exact h
          have HSTEP := Lib.hid hstep
          clear hstep
          by_cases c5 : o1 = (i9 : Int)
          case neg =>
            have d5 : (o1 == (i9 : Int)) = false := by simp [c5]
            have HNX := Lib.hid (HSTEP.out (fun h => c5 h.1))
            clear c5
            go_wp2
            go_roundw
            case rel => exact ⟨k + 1, by omega, by go_num, HNX.out, HB2.out⟩
            case measure => simp [intOf]; omega
          have d5 : (o1 == (i9 : Int)) = true := by simp [c5]
          by_cases c6 : u = n
          case neg =>
            have d6 : (u == n) = false := by simp [c6]
            have HNX := Lib.hid (HSTEP.out (fun h => c6 h.2))
            clear c5 c6
            go_wp2
            go_roundw
            case rel => exact ⟨k + 1, by omega, by go_num, HNX.out, HB2.out⟩
            case measure => simp [intOf]; omega
          have d6 : (u == n) = true := by simp [c6]
          have hz : WV = ((C + 1) : Nat) := by
            rw [← HWV.out, ← HC2.out]
            refine waits_end HOK.out (by rw [HAK.out]; exact HST.out) hst0 ?_
            have h9 := HI9.out
            have h8 := HST.out
            rw [HAK.out, endW_hit HOK.out hlk (HEK.out.1.trans c5) (HEK.out.2.trans c6) (by omega) (fun q h1 h2 => HALL.out q h1 (by omega))]
            omega
          subst hz
          clear c5 c6
          go_wp2
          go_ret
          exact ⟨by first | rfl | (congr 3; done) | simp, HB2.out⟩
      by_cases c3 : ex = 2
      case pos =>
        have d1 : (ex == 2) = true := by simp [c3]
        have d2 : (es9 == n) = false := by simp; intro h; exact c2 ⟨c3, h⟩
        have HC2 := Lib.hid (show pkN es n st (m + 1) = C by rw [HPK.out, HCC.out, if_neg (by unfold pkOf; simp; intro _ h; exact c2 ⟨c3, h⟩)]; rfl)
        clear c2 c3 HPK HPK2
        go_wp2
        go_loopw [13] (fun j wr => ∃ k : Nat, k ≤ os.length ∧ j = .int .i64 k ∧ (∀ q (hq : q < os.length), q < k → ¬ (os[q].1 = (i9 : Int) ∧ os[q].2.1 = n)) ∧ Below w.heap.size w wr) (fun j _ => os.length - (intOf j).toNat)
        case atStart => exact ⟨0, Nat.zero_le _, rfl, fun q hq h => absurd h (by omega), HB.out⟩
        case round =>
          obtain ⟨k, hk, rfl, hnone, hb⟩ := hrel
          have HNO := Lib.hid hnone
          have HB2 := Lib.hid hb
          clear hnone
          by_cases hlk : k < os.length
          case neg =>
            have HAL2 := Lib.hid (show ∀ q : Nat, a < (q : Int) → q < st + (m + 1) → noOut os n q from fun q h1 h2 => by
              have h9 := HI9.out
              by_cases h3 : q < st + m
              · exact HALL.out q h1 h3
              · have h4 : q = i9 := by omega
                rw [h4]
                exact fun z hz => HNO.out z hz (by omega))
            have HIX := Lib.hid (show ((i9 + 1 : Nat) : Int) = ((st + (m + 1) : Nat) : Int) by have h9 := HI9.out; omega)
            have hm2 : st + (m + 1) ≤ es.length := by have h9 := HI9.out; omega
            clear hb
            go_wp2
            go_roundw
            case rel => exact ⟨m + 1, hm2, by first | (rw [← HIX.out]; go_num) | (rw [← HIX.out]; rfl), by rw [HC2.out]; (first | done | rfl | simp), HAL2.out, HB2.out⟩
            case measure => simp [intOf]; omega
          obtain ⟨b, off, o1, u, x, s, p, q, r, f, y, i, j, AA, l, cc, CC, mm, dd, rfl, hbl, hek, k0, k1, _⟩ := (hO.below hb).at_ k hlk
          have hkj : (k : Int) < (os.length : Int) := by omega
          have hkj0 : (0 : Int) ≤ (k : Int) := by omega
          have HEK := Lib.hid (show os[k].1 = o1 ∧ os[k].2.1 = u by rw [hek]; exact ⟨rfl, rfl⟩)
          clear hek hb
          have hstep : ¬ (o1 = (i9 : Int) ∧ u = n) → ∀ q (hq : q < os.length), q < k + 1 → ¬ (os[q].1 = (i9 : Int) ∧ os[q].2.1 = n) := fun h z hz hzk => by
            rcases Nat.lt_succ_iff_lt_or_eq.1 hzk with h1 | h1
            · exact HNO.out z hz h1
            · subst h1
              rw [HEK.out.1, HEK.out.2]
              exact h
          have HSTEP := Lib.hid hstep
          clear hstep
          by_cases c5 : o1 = (i9 : Int)
          case neg =>
            have d5 : (o1 == (i9 : Int)) = false := by simp [c5]
            have HNX := Lib.hid (HSTEP.out (fun h => c5 h.1))
            clear c5
            go_wp2
            go_roundw
            case rel => exact ⟨k + 1, by omega, by go_num, HNX.out, HB2.out⟩
            case measure => simp [intOf]; omega
          have d5 : (o1 == (i9 : Int)) = true := by simp [c5]
          by_cases c6 : u = n
          case neg =>
            have d6 : (u == n) = false := by simp [c6]
            have HNX := Lib.hid (HSTEP.out (fun h => c6 h.2))
            clear c5 c6
            go_wp2
            go_roundw
            case rel => exact ⟨k + 1, by omega, by go_num, HNX.out, HB2.out⟩
            case measure => simp [intOf]; omega
          have d6 : (u == n) = true := by simp [c6]
          have hz : WV = ((C) : Nat) := by
            rw [← HWV.out, ← HC2.out]
            refine waits_end HOK.out (by rw [HAK.out]; exact HST.out) hst0 ?_
            have h9 := HI9.out
            have h8 := HST.out
            rw [HAK.out, endW_hit HOK.out hlk (HEK.out.1.trans c5) (HEK.out.2.trans c6) (by omega) (fun q h1 h2 => HALL.out q h1 (by omega))]
            omega
          subst hz
          clear c5 c6
          go_wp2
          go_ret
          exact ⟨by first | rfl | (congr 3; done) | simp, HB2.out⟩
      have d1 : (ex == 2) = false := by simp [c3]
      have HC2 := Lib.hid (show pkN es n st (m + 1) = C by rw [HPK.out, HCC.out, if_neg (by unfold pkOf; simp; intro h; exact absurd h c3)]; rfl)
      clear c2 c3 HPK HPK2
      go_wp2
      go_loopw [13] (fun j wr => ∃ k : Nat, k ≤ os.length ∧ j = .int .i64 k ∧ (∀ q (hq : q < os.length), q < k → ¬ (os[q].1 = (i9 : Int) ∧ os[q].2.1 = n)) ∧ Below w.heap.size w wr) (fun j _ => os.length - (intOf j).toNat)
      case atStart => exact ⟨0, Nat.zero_le _, rfl, fun q hq h => absurd h (by omega), HB.out⟩
      case round =>
        obtain ⟨k, hk, rfl, hnone, hb⟩ := hrel
        have HNO := Lib.hid hnone
        have HB2 := Lib.hid hb
        clear hnone
        by_cases hlk : k < os.length
        case neg =>
          have HAL2 := Lib.hid (show ∀ q : Nat, a < (q : Int) → q < st + (m + 1) → noOut os n q from fun q h1 h2 => by
            have h9 := HI9.out
            by_cases h3 : q < st + m
            · exact HALL.out q h1 h3
            · have h4 : q = i9 := by omega
              rw [h4]
              exact fun z hz => HNO.out z hz (by omega))
          have HIX := Lib.hid (show ((i9 + 1 : Nat) : Int) = ((st + (m + 1) : Nat) : Int) by have h9 := HI9.out; omega)
          have hm2 : st + (m + 1) ≤ es.length := by have h9 := HI9.out; omega
          clear hb
          go_wp2
          go_roundw
          case rel => exact ⟨m + 1, hm2, by first | (rw [← HIX.out]; go_num) | (rw [← HIX.out]; rfl), by rw [HC2.out]; (first | done | rfl | simp), HAL2.out, HB2.out⟩
          case measure => simp [intOf]; omega
        obtain ⟨b, off, o1, u, x, s, p, q, r, f, y, i, j, AA, l, cc, CC, mm, dd, rfl, hbl, hek, k0, k1, _⟩ := (hO.below hb).at_ k hlk
        have hkj : (k : Int) < (os.length : Int) := by omega
        have hkj0 : (0 : Int) ≤ (k : Int) := by omega
        have HEK := Lib.hid (show os[k].1 = o1 ∧ os[k].2.1 = u by rw [hek]; exact ⟨rfl, rfl⟩)
        clear hek hb
        have hstep : ¬ (o1 = (i9 : Int) ∧ u = n) → ∀ q (hq : q < os.length), q < k + 1 → ¬ (os[q].1 = (i9 : Int) ∧ os[q].2.1 = n) := fun h z hz hzk => by
          rcases Nat.lt_succ_iff_lt_or_eq.1 hzk with h1 | h1
          · exact HNO.out z hz h1
          · subst h1
            rw [HEK.out.1, HEK.out.2]
            exact h
        have HSTEP := Lib.hid hstep
        clear hstep
        by_cases c5 : o1 = (i9 : Int)
        case neg =>
          have d5 : (o1 == (i9 : Int)) = false := by simp [c5]
          have HNX := Lib.hid (HSTEP.out (fun h => c5 h.1))
          clear c5
          go_wp2
          go_roundw
          case rel => exact ⟨k + 1, by omega, by go_num, HNX.out, HB2.out⟩
          case measure => simp [intOf]; omega
        have d5 : (o1 == (i9 : Int)) = true := by simp [c5]
        by_cases c6 : u = n
        case neg =>
          have d6 : (u == n) = false := by simp [c6]
          have HNX := Lib.hid (HSTEP.out (fun h => c6 h.2))
          clear c5 c6
          go_wp2
          go_roundw
          case rel => exact ⟨k + 1, by omega, by go_num, HNX.out, HB2.out⟩
          case measure => simp [intOf]; omega
        have d6 : (u == n) = true := by simp [c6]
        have hz : WV = ((C) : Nat) := by
          rw [← HWV.out, ← HC2.out]
          refine waits_end HOK.out (by rw [HAK.out]; exact HST.out) hst0 ?_
          have h9 := HI9.out
          have h8 := HST.out
          rw [HAK.out, endW_hit HOK.out hlk (HEK.out.1.trans c5) (HEK.out.2.trans c6) (by omega) (fun q h1 h2 => HALL.out q h1 (by omega))]
          omega
        subst hz
        clear c5 c6
        go_wp2
        go_ret
        exact ⟨by first | rfl | (congr 3; done) | simp, HB2.out⟩
end Go.Proofs.YtgpjjolgpppeeaaDoor
