/-
  Texts of one claim in one: I29, P24, WFnBars. Own work.
-/
import Derived.Test.YtgpjjolgpppeeaaI23
import Derived.Test.YtgpjjolgpppeeaaQTop0FnBars
import Derived.Test.YtgpjjolgpppeeaaQTop1FnBars
import Derived.ProofKit
import Derived.OpenShut
import Derived.OpenVars
import Derived.ChangeOld
import Derived.Deep.DeepHandedRow
import Derived.Deep.RegionHeld3
import Derived.Deep.DeepCutAuto

/-
  Chapter 7, LeaseBars in the program and in the model: contracts. Own work.
-/
namespace Go.Proofs.Ytgpjjolgpppeeaa
open Go.RowKit P
set_option linter.unusedVariables false
set_option linter.unusedSimpArgs false
set_option maxRecDepth 100000

/-- Does the lease l bar the edit from session n? -/
def barE (n a m : Int) (lp : List UInt8) (l : Le) : Bool := decide (l.2.2.1 ≠ n) && hits a m lp l.1 l.2.1
def barsE (es : List Le) (n a m : Int) (lp : List UInt8) (now : Int) : Bool := leOk es && es.any (fun l => decide (now < l.2.2.2) && barE n a m lp l)
theorem barsE_exp (es : List Le) (n a m : Int) (lp : List UInt8) (now : Int) : (leExp es now).any (barE n a m lp) = barsE es n a m lp now := by
  unfold leExp barsE
  by_cases h : leOk es = true
  · rw [if_pos h, List.any_filter, h, Bool.true_and]
  · rw [if_neg h, Bool.eq_false_iff.2 h]; rfl

set_option maxHeartbeats 4000000 in
theorem barBy_any (i j s0 t0 n a m : Int) (Ap : Option Addr) (lp : List UInt8) (cp g h : Nat) (w : World) (hl9 : lp.length ≤ 9223372036854775807) (hB : Blk w g #[.int .i64 n] 3) (hE : Blk w h #[.int .i64 a, .int .i64 m, .slice Ap lp.length cp] 37) :
    Calls Try.prog 66 #[.agg #[.int .i64 i, .int .i64 j, .int .i64 s0, .int .i64 t0], .pointer (some ⟨g, 0, none⟩), .pointer (some ⟨h, 0, none⟩)] w fun e w' => e = .returned (.bool (barE n a m lp (i, j, s0, t0))) ∧ Below w.heap.size w w' := by
  have hal := (Below.refl w.heap.size w).alloc (Nat.le_refl _) (.cells #[.int .i64 i, .int .i64 j, .int .i64 s0, .int .i64 t0] 43)
  have b1 := Blk.new w #[.int .i64 i, .int .i64 j, .int .i64 s0, .int .i64 t0] 43
  have b0 := hB.below hal
  have b2 := hE.below hal
  have p0 := b0.cell 0
  have r0 := b2.cell 0
  have r1 := b2.cell 1
  have r2 := b2.cell 2
  have q0 := b1.cell 0
  have q1 := b1.cell 1
  have q2 := b1.cell 2
  clear b0 b1 b2
  by_cases hs : s0 = n
  · have hne : (s0 != n) = false := by simp [hs]
    have hr : barE n a m lp (i, j, s0, t0) = false := by unfold barE; simp [hs]
    rw [hr]
    clear hs hr
    go_enter Try.func66, Try.ntmps66
    go_wp2
    go_ret
    exact ⟨rfl, hal⟩
  · have hne : (s0 != n) = true := by simp [hs]
    have hr : barE n a m lp (i, j, s0, t0) = hits a m lp i j := by unfold barE; simp [hs]
    rw [hr]
    clear hs hr
    go_enter Try.func66, Try.ntmps66
    go_wp2_with fail
    refine (implEditHits_any a m Ap lp cp i j _ hl9).mono ?_
    rintro e w1 ⟨rfl, hb1⟩
    have hb9 := below_then hal hb1
    go_wp2
    go_ret
    exact ⟨rfl, hb9⟩

set_option maxHeartbeats 4000000 in
theorem barIx_any (A : Option Addr) (es : List Le) (c : Nat) (g h : Nat) (p : Le → Bool) (w : World) (hl : es.length ≤ 1048576) (hA : Ll w A es) (hcall : ∀ (W : World) (x y s t : Int), leIn (x, y, s, t) → Below w.heap.size w W → Calls Try.prog 66 #[.agg #[.int .i64 x, .int .i64 y, .int .i64 s, .int .i64 t], .pointer (some ⟨g, 0, none⟩), .pointer (some ⟨h, 0, none⟩)] W fun e w' => e = .returned (.bool (p (x, y, s, t))) ∧ Below W.heap.size W w') :
    Calls Try.prog 123 #[.slice A es.length c, .func (.func 66) #[] #[.pointer (some ⟨g, 0, none⟩), .pointer (some ⟨h, 0, none⟩)]] w fun e w' => (∃ r : Int, e = .returned (.int .i64 r) ∧ decide (0 ≤ r) = es.any p) ∧ Below w.heap.size w w' := by
  have hn9 : es.length ≤ 9223372036854775807 := by omega
  go_enter Try.func123, Try.ntmps123
  go_wp2
  go_loopw [8] (fun i wr => ∃ k : Nat, k ≤ es.length ∧ i = .int .i64 k ∧ Hid ((es.take k).any p = false) ∧ Below w.heap.size w wr)
    (fun i _ => es.length - (intOf i).toNat)
  case atStart => exact ⟨0, Nat.zero_le _, rfl, Lib.hid (by simp), Below.refl _ _⟩
  case round =>
    obtain ⟨k, hk, rfl, HALL, hb⟩ := hrel
    by_cases hlt : k < es.length
    · have hki : (k : Int) < (es.length : Int) := by omega
      obtain ⟨b, off, x, y, s, t, rfl, hbl, hek, k0, k1, k2, k3, hin⟩ := (hA.below hb).at_ k hlt
      have hc := Lib.hid (hcall wr x y s t hin hb)
      have hnx : (es.take (k + 1)).any p = ((es.take k).any p || p (x, y, s, t)) := by
        rw [List.take_succ_eq_append_getElem hlt, List.any_append, hek]; simp
      have hal : p (x, y, s, t) = true → es.any p = true := fun h => List.any_eq_true.2 ⟨_, List.getElem_mem hlt, by rw [hek]; exact h⟩
      have HNX := Lib.hid hnx
      have HAL := Lib.hid hal
      obtain ⟨q, hq⟩ : ∃ q, p (x, y, s, t) = q := ⟨_, rfl⟩
      have HQ := Lib.hid hq
      clear hnx hal hek hin hq
      go_wp2_with fail
      refine hc.out.mono ?_
      rintro e w1 ⟨rfl, hb1⟩
      rw [HQ.out]
      have hb9 := below_then hb hb1
      clear k0 k1 k2 k3
      cases q
      · have HN := Lib.hid (show (es.take (k + 1)).any p = false by rw [HNX.out, HALL.out, HQ.out]; rfl)
        go_wp2
        go_roundw
        case rel => exact ⟨k + 1, by omega, by go_num, HN, hb9⟩
        case measure => simp [intOf]; omega
      · have HN := Lib.hid (HAL.out HQ.out)
        go_wp2
        go_ret
        exact ⟨⟨_, rfl, by rw [HN.out]; exact decide_eq_true (by omega)⟩, hb9⟩
    · have e : k = es.length := by omega
      have HN := Lib.hid (show es.any p = false by have h9 := HALL.out; rw [e, List.take_length] at h9; exact h9)
      clear e
      go_wp2
      go_ret
      exact ⟨⟨_, rfl, by rw [HN.out]; rfl⟩, hb⟩

set_option maxHeartbeats 4000000 in
theorem bar_any (A : Option Addr) (es : List Le) (c : Nat) (g h : Nat) (p : Le → Bool) (w : World) (hl : es.length ≤ 1048576) (hA : Ll w A es) (hcall : ∀ (W : World) (x y s t : Int), leIn (x, y, s, t) → Below w.heap.size w W → Calls Try.prog 66 #[.agg #[.int .i64 x, .int .i64 y, .int .i64 s, .int .i64 t], .pointer (some ⟨g, 0, none⟩), .pointer (some ⟨h, 0, none⟩)] W fun e w' => e = .returned (.bool (p (x, y, s, t))) ∧ Below W.heap.size W w') :
    Calls Try.prog 64 #[.slice A es.length c, .func (.func 66) #[] #[.pointer (some ⟨g, 0, none⟩), .pointer (some ⟨h, 0, none⟩)]] w fun e w' => e = .returned (.bool (es.any p)) ∧ Below w.heap.size w w' := by
  have hix := Lib.hid (barIx_any A es c g h p w hl hA hcall)
  clear hcall hA
  go_enter Try.func64, Try.ntmps64
  go_wp2_with fail
  refine hix.out.mono ?_
  rintro e w1 ⟨⟨r, rfl, hr⟩, hb1⟩
  have HR := Lib.hid hr
  clear hr
  go_wp2
  go_ret
  exact ⟨ret_bool (by first | exact HR.out | simpa using HR.out), hb1⟩

set_option maxHeartbeats 4000000 in
theorem implLeaseBars_any (A : Option Addr) (es : List Le) (c : Nat) (n a m : Int) (Ap : Option Addr) (lp : List UInt8) (cp : Nat) (now : Int) (w : World) (hl : es.length ≤ 1048576) (hl9 : lp.length ≤ 9223372036854775807) (hA : Ll w A es) :
    Calls Try.prog 20 #[.slice A es.length c, .int .i64 n, .agg #[.int .i64 a, .int .i64 m, .slice Ap lp.length cp], .int .i64 now] w fun e w' => e = .returned (.bool (barsE es n a m lp now)) ∧ Below w.heap.size w w' := by
  have hal := ((Below.refl w.heap.size w).alloc (Nat.le_refl _) (.cells #[.int .i64 n] 3)).alloc (by simp) (.cells #[.int .i64 a, .int .i64 m, .slice Ap lp.length cp] 37)
  have HBX := Lib.hid ((Blk.new w #[.int .i64 n] 3).alloc (.cells #[.int .i64 a, .int .i64 m, .slice Ap lp.length cp] 37))
  have hbe := Blk.new (w.alloc (.cells #[.int .i64 n] 3)) #[.int .i64 a, .int .i64 m, .slice Ap lp.length cp] 37
  simp only [World.size_alloc] at hbe
  have HBE := Lib.hid hbe
  have HA := Lib.hid (hA.below hal)
  have HX := Lib.hid (barsE_exp es n a m lp now)
  have hxl := leExp_len es now
  clear hA hbe
  go_enter Try.func20, Try.ntmps20
  go_wp2_with fail
  refine (implLeaseExpire_any A es c now _ hl HA.out).mono ?_
  rintro e w1 ⟨v, rfl, hO, hb1⟩
  obtain ⟨A1, c1, rfl, _, _, hA1⟩ := hO.ll
  have HA1 := Lib.hid hA1
  have HBX1 := Lib.hid (HBX.out.below hb1)
  have HBE1 := Lib.hid (HBE.out.below hb1)
  have hb9 := below_then hal hb1
  clear hO hA1 hb1
  go_wp2_with fail
  refine (bar_any A1 (leExp es now) c1 w.heap.size (w.heap.size + 1) (barE n a m lp) _ (by omega) HA1.out (fun W x1 y1 s1 t1 _ hW => barBy_any x1 y1 s1 t1 n a m Ap lp cp w.heap.size (w.heap.size + 1) W hl9 (HBX1.out.below hW) (HBE1.out.below hW))).mono ?_
  rintro e w2 ⟨rfl, hb2⟩
  rw [HX.out]
  have hb10 := below_then hb9 hb2
  go_wp2
  go_ret
  exact ⟨rfl, hb10⟩

set_option maxHeartbeats 8000000 in
theorem specLeaseBars_any (A : Option Addr) (es : List Le) (c : Nat) (n a m : Int) (Ap : Option Addr) (lp : List UInt8) (cp : Nat) (now : Int) (w : World) (hl : es.length ≤ 1048576) (hl9 : lp.length ≤ 9223372036854775807) (hA : Ll w A es) :
    Calls Try.prog 21 #[.slice A es.length c, .int .i64 n, .agg #[.int .i64 a, .int .i64 m, .slice Ap lp.length cp], .int .i64 now] w fun e w' => e = .returned (.bool (barsE es n a m lp now)) ∧ Below w.heap.size w w' := by
  have hn9 : es.length ≤ 9223372036854775807 := by omega
  obtain ⟨z, hz⟩ : ∃ z, leOk es = z := ⟨_, rfl⟩
  have HZ := Lib.hid hz
  have HR := Lib.hid (show barsE es n a m lp now = (z && es.any (fun l => decide (now < l.2.2.2) && barE n a m lp l)) by unfold barsE; rw [hz])
  have hal := (Below.refl w.heap.size w).alloc (Nat.le_refl _) (.cells #[.int .i64 a, .int .i64 m, .slice Ap lp.length cp] 37)
  have hbx := Blk.new w #[.int .i64 a, .int .i64 m, .slice Ap lp.length cp] 37
  clear hz
  go_enter Try.func21, Try.ntmps21
  go_wp2
  go_loopw [9] (fun i wr => ∃ k : Nat, k ≤ es.length ∧ i = .int .i64 k ∧ (z = false → k = 0) ∧ Hid ((es.take k).any (fun l => decide (now < l.2.2.2) && barE n a m lp l) = false) ∧ Blk wr w.heap.size #[.int .i64 a, .int .i64 m, .slice Ap lp.length cp] 37 ∧ Below w.heap.size w wr)
    (fun i _ => es.length - (intOf i).toNat)
  case atStart => exact ⟨0, Nat.zero_le _, rfl, fun _ => rfl, Lib.hid (by simp), hbx, hal⟩
  case round =>
    obtain ⟨k, hk, rfl, hz0, HALL, hbx2, hb⟩ := hrel
    have BX := Lib.hid hbx2
    have HB := Lib.hid hb
    have HA := Lib.hid (hA.below hb)
    clear hbx hbx2 hal hz0 hb
    go_wp2_with fail
    refine (specLeasesOk_any A es c _ hn9 HA.out).mono ?_
    rintro e w1 ⟨rfl, hb1⟩
    rw [HZ.out]
    have BX := Lib.hid (BX.out.below hb1)
    have HB := Lib.hid (below_then HB.out hb1)
    clear hb1 HA
    cases z
    · go_wp2
      go_ret
      exact ⟨ret_bool (by rw [HR.out]; rfl), HB.out⟩
    by_cases hlt : k < es.length
    · have hki0 : (0 : Int) ≤ (k : Int) := by omega
      have hki : (k : Int) < (es.length : Int) := by omega
      obtain ⟨b, off, x0, y0, s0, t0, rfl, hbl, hek, k0, k1, k2, k3, hin0⟩ := (hA.below HB.out).at_ k hlt
      have hnx : (es.take (k + 1)).any (fun l => decide (now < l.2.2.2) && barE n a m lp l) = ((es.take k).any (fun l => decide (now < l.2.2.2) && barE n a m lp l) || (decide (now < t0) && (decide (s0 ≠ n) && hits a m lp x0 y0))) := by
        rw [List.take_succ_eq_append_getElem hlt, List.any_append, hek]; simp [barE]
      have hal : (decide (now < t0) && (decide (s0 ≠ n) && hits a m lp x0 y0)) = true → es.any (fun l => decide (now < l.2.2.2) && barE n a m lp l) = true := fun h => List.any_eq_true.2 ⟨_, List.getElem_mem hlt, by rw [hek]; exact h⟩
      have HNX := Lib.hid hnx
      have HAL := Lib.hid hal
      have zb := BX.out.lt
      have p0 := BX.out.cell 0
      have p1 := BX.out.cell 1
      have p2 := BX.out.cell 2
      clear hnx hal hek hin0
      by_cases hs : s0 = n
      · have hne : (s0 != n) = false := by simp [hs]
        have HN9 := Lib.hid (show (es.take (k + 1)).any (fun l => decide (now < l.2.2.2) && barE n a m lp l) = false by rw [HNX.out, HALL.out]; simp [hs])
        clear hs
        go_wp2_with fail
        refine wp_region_held_drew (S := (fun V => V.cell? ⟨b, off + k * 4, none⟩ = some (.int .i64 x0) ∧ V.cell? ⟨b, off + k * 4 + 1, none⟩ = some (.int .i64 y0) ∧ V.cell? ⟨b, off + k * 4 + 2, none⟩ = some (.int .i64 s0) ∧ V.cell? ⟨b, off + k * 4 + 3, none⟩ = some (.int .i64 t0) ∧ V.cell? ⟨w.heap.size, 0, none⟩ = some (.int .i64 a) ∧ V.cell? ⟨w.heap.size, 1, none⟩ = some (.int .i64 m) ∧ V.cell? ⟨w.heap.size, 2, none⟩ = some (.slice Ap lp.length cp))) (by kernel_rfl) (by exact ⟨k0, k1, k2, k3, p0, p1, p2⟩) (fun hHeld => ?_)
        refine wpAnyH_take (i := 0) (oi := ?_) (v := ?_) ?_ ?_ ?_ ?_ ?_ ?_ (by exact hHeld) ?_
        rotate_left 2
        · (simp only [List.getElem?_toArray, List.getElem?_cons_zero]; try rfl)
        · kernel_rfl
        · kernel_rfl
        · kernel_rfl
        · exact fun _ _ _ h => h
        · refine Or.inl ⟨by rfl, ?_⟩
          (intro V hSV; (try dsimp only at hSV); obtain ⟨q0, q1, q2, q3, q4, q5, q6⟩ := hSV; go_simp; try with_reducible rfl)
        (try simp only [Act.put, List.setIfInBounds_toArray, List.set_cons_zero, List.set_cons_succ])
        refine wpAnyH_take (i := 1) (oi := ?_) (v := ?_) ?_ ?_ ?_ ?_ ?_ ?_ (by exact hHeld) ?_
        rotate_left 2
        · (simp only [List.getElem?_toArray, List.getElem?_cons_zero, List.getElem?_cons_succ]; try rfl)
        · kernel_rfl
        · kernel_rfl
        · kernel_rfl
        · exact fun _ _ _ h => h
        · refine Or.inl ⟨by rfl, ?_⟩
          (intro V hSV; (try dsimp only at hSV); obtain ⟨q0, q1, q2, q3, q4, q5, q6⟩ := hSV; go_simp; try with_reducible rfl)
        (try simp only [Act.put, List.setIfInBounds_toArray, List.set_cons_zero, List.set_cons_succ])
        refine wpAnyH_take (i := 2) (oi := ?_) (v := ?_) ?_ ?_ ?_ ?_ ?_ ?_ (by exact hHeld) ?_
        rotate_left 2
        · (simp only [List.getElem?_toArray, List.getElem?_cons_zero, List.getElem?_cons_succ]; try rfl)
        · kernel_rfl
        · kernel_rfl
        · kernel_rfl
        · exact fun _ _ _ h => h
        · refine Or.inl ⟨by rfl, ?_⟩
          (intro V hSV; (try dsimp only at hSV); obtain ⟨q0, q1, q2, q3, q4, q5, q6⟩ := hSV; go_simp; try with_reducible rfl)
        (try simp only [Act.put, List.setIfInBounds_toArray, List.set_cons_zero, List.set_cons_succ])
        refine wpAnyH_take (i := 3) (oi := ?_) (v := ?_) ?_ ?_ ?_ ?_ ?_ ?_ (by exact hHeld) ?_
        rotate_left 2
        · (simp only [List.getElem?_toArray, List.getElem?_cons_zero, List.getElem?_cons_succ]; try rfl)
        · kernel_rfl
        · kernel_rfl
        · kernel_rfl
        · exact fun _ _ _ h => h
        · refine Or.inl ⟨by rfl, ?_⟩
          (intro V hSV; (try dsimp only at hSV); obtain ⟨q0, q1, q2, q3, q4, q5, q6⟩ := hSV; go_simp; try with_reducible rfl)
        (try simp only [Act.put, List.setIfInBounds_toArray, List.set_cons_zero, List.set_cons_succ])
        refine wpAnyH_take (i := 4) (oi := ?_) (v := ?_) ?_ ?_ ?_ ?_ ?_ ?_ (by exact hHeld) ?_
        rotate_left 2
        · (simp only [List.getElem?_toArray, List.getElem?_cons_zero, List.getElem?_cons_succ]; try rfl)
        · kernel_rfl
        · kernel_rfl
        · kernel_rfl
        · exact fun _ _ _ h => h
        · refine Or.inl ⟨by rfl, ?_⟩
          (intro V hSV; (try dsimp only at hSV); obtain ⟨q0, q1, q2, q3, q4, q5, q6⟩ := hSV; go_simp; try with_reducible rfl)
        (try simp only [Act.put, List.setIfInBounds_toArray, List.set_cons_zero, List.set_cons_succ])
        refine wpAnyH_take (i := 5) (oi := ?_) (v := ?_) ?_ ?_ ?_ ?_ ?_ ?_ (by exact hHeld) ?_
        rotate_left 2
        · (simp only [List.getElem?_toArray, List.getElem?_cons_zero, List.getElem?_cons_succ]; try rfl)
        · kernel_rfl
        · kernel_rfl
        · kernel_rfl
        · exact fun _ _ _ h => h
        · refine Or.inl ⟨by rfl, ?_⟩
          (intro V hSV; (try dsimp only at hSV); obtain ⟨q0, q1, q2, q3, q4, q5, q6⟩ := hSV; go_simp; try with_reducible rfl)
        (try simp only [Act.put, List.setIfInBounds_toArray, List.set_cons_zero, List.set_cons_succ])
        refine wpAnyH_take (i := 6) (oi := ?_) (v := ?_) ?_ ?_ ?_ ?_ ?_ ?_ (by exact hHeld) ?_
        rotate_left 2
        · (simp only [List.getElem?_toArray, List.getElem?_cons_zero, List.getElem?_cons_succ]; try rfl)
        · kernel_rfl
        · kernel_rfl
        · kernel_rfl
        · exact fun _ _ _ h => h
        · refine Or.inl ⟨by rfl, ?_⟩
          (intro V hSV; (try dsimp only at hSV); obtain ⟨q0, q1, q2, q3, q4, q5, q6⟩ := hSV; go_simp; try with_reducible rfl)
        (try simp only [Act.put, List.setIfInBounds_toArray, List.set_cons_zero, List.set_cons_succ])
        refine wpAnyH_take (i := 7) (oi := ?_) (v := ?_) ?_ ?_ ?_ ?_ ?_ ?_ (by exact hHeld) ?_
        rotate_left 2
        · (simp only [List.getElem?_toArray, List.getElem?_cons_zero, List.getElem?_cons_succ]; try rfl)
        · kernel_rfl
        · kernel_rfl
        · kernel_rfl
        · exact fun _ _ _ h => h
        · refine Or.inl ⟨by rfl, ?_⟩
          (intro V hSV; (try dsimp only at hSV); obtain ⟨q0, q1, q2, q3, q4, q5, q6⟩ := hSV; go_simp; try with_reducible rfl)
        (try simp only [Act.put, List.setIfInBounds_toArray, List.set_cons_zero, List.set_cons_succ])
        refine wpAnyH_take (i := 8) (oi := ?_) (v := undef) ?_ ?_ ?_ ?_ ?_ ?_ (by exact hHeld) ?_
        rotate_left 1
        · (simp only [List.getElem?_toArray, List.getElem?_cons_zero, List.getElem?_cons_succ]; try rfl)
        · kernel_rfl
        · kernel_rfl
        · kernel_rfl
        · exact fun _ _ _ h => h
        · refine Or.inr ?_
          exact ⟨by rfl, rfl⟩
        (try simp only [Act.put, List.setIfInBounds_toArray, List.set_cons_zero, List.set_cons_succ])
        refine wpAnyH_take (i := 9) (oi := ?_) (v := undef) ?_ ?_ ?_ ?_ ?_ ?_ (by exact hHeld) ?_
        rotate_left 1
        · (simp only [List.getElem?_toArray, List.getElem?_cons_zero, List.getElem?_cons_succ]; try rfl)
        · kernel_rfl
        · kernel_rfl
        · kernel_rfl
        · exact fun _ _ _ h => h
        · refine Or.inr ?_
          exact ⟨by rfl, rfl⟩
        (try simp only [Act.put, List.setIfInBounds_toArray, List.set_cons_zero, List.set_cons_succ])
        refine wpAnyH_take (i := 10) (oi := ?_) (v := undef) ?_ ?_ ?_ ?_ ?_ ?_ (by exact hHeld) ?_
        rotate_left 1
        · (simp only [List.getElem?_toArray, List.getElem?_cons_zero, List.getElem?_cons_succ]; try rfl)
        · kernel_rfl
        · kernel_rfl
        · kernel_rfl
        · exact fun _ _ _ h => h
        · refine Or.inr ?_
          exact ⟨by rfl, rfl⟩
        (try simp only [Act.put, List.setIfInBounds_toArray, List.set_cons_zero, List.set_cons_succ])
        refine wpAnyH_take (i := 11) (oi := ?_) (v := undef) ?_ ?_ ?_ ?_ ?_ ?_ (by exact hHeld) ?_
        rotate_left 1
        · (simp only [List.getElem?_toArray, List.getElem?_cons_zero, List.getElem?_cons_succ]; try rfl)
        · kernel_rfl
        · kernel_rfl
        · kernel_rfl
        · exact fun _ _ _ h => h
        · refine Or.inr ?_
          exact ⟨by rfl, rfl⟩
        (try simp only [Act.put, List.setIfInBounds_toArray, List.set_cons_zero, List.set_cons_succ])
        refine wpAnyH_take (i := 12) (oi := ?_) (v := undef) ?_ ?_ ?_ ?_ ?_ ?_ (by exact hHeld) ?_
        rotate_left 1
        · (simp only [List.getElem?_toArray, List.getElem?_cons_zero, List.getElem?_cons_succ]; try rfl)
        · kernel_rfl
        · kernel_rfl
        · kernel_rfl
        · exact fun _ _ _ h => h
        · refine Or.inr ?_
          exact ⟨by rfl, rfl⟩
        (try simp only [Act.put, List.setIfInBounds_toArray, List.set_cons_zero, List.set_cons_succ])
        refine wpAnyH_take (i := 13) (oi := ?_) (v := undef) ?_ ?_ ?_ ?_ ?_ ?_ (by exact hHeld) ?_
        rotate_left 1
        · (simp only [List.getElem?_toArray, List.getElem?_cons_zero, List.getElem?_cons_succ]; try rfl)
        · kernel_rfl
        · kernel_rfl
        · kernel_rfl
        · exact fun _ _ _ h => h
        · refine Or.inr ?_
          exact ⟨by rfl, rfl⟩
        (try simp only [Act.put, List.setIfInBounds_toArray, List.set_cons_zero, List.set_cons_succ])
        refine wpAnyH_take (i := 14) (oi := ?_) (v := undef) ?_ ?_ ?_ ?_ ?_ ?_ (by exact hHeld) ?_
        rotate_left 1
        · (simp only [List.getElem?_toArray, List.getElem?_cons_zero, List.getElem?_cons_succ]; try rfl)
        · kernel_rfl
        · kernel_rfl
        · kernel_rfl
        · exact fun _ _ _ h => h
        · refine Or.inr ?_
          exact ⟨by rfl, rfl⟩
        (try simp only [Act.put, List.setIfInBounds_toArray, List.set_cons_zero, List.set_cons_succ])
        refine wpAnyH_take (i := 15) (oi := ?_) (v := ?_) ?_ ?_ ?_ ?_ ?_ ?_ (by exact hHeld) ?_
        rotate_left 2
        · (simp only [List.getElem?_toArray, List.getElem?_cons_zero, List.getElem?_cons_succ]; try rfl)
        · kernel_rfl
        · kernel_rfl
        · kernel_rfl
        · exact fun _ _ _ h => h
        · refine Or.inl ⟨by rfl, ?_⟩
          (intro V hSV; (try dsimp only at hSV); obtain ⟨q0, q1, q2, q3, q4, q5, q6⟩ := hSV; go_simp; try with_reducible rfl)
        (try simp only [Act.put, List.setIfInBounds_toArray, List.set_cons_zero, List.set_cons_succ])
        refine wpAnyH_take (i := 16) (oi := ?_) (v := ?_) ?_ ?_ ?_ ?_ ?_ ?_ (by exact hHeld) ?_
        rotate_left 2
        · (simp only [List.getElem?_toArray, List.getElem?_cons_zero, List.getElem?_cons_succ]; try rfl)
        · kernel_rfl
        · kernel_rfl
        · kernel_rfl
        · exact fun _ _ _ h => h
        · refine Or.inl ⟨by rfl, ?_⟩
          (intro V hSV; (try dsimp only at hSV); obtain ⟨q0, q1, q2, q3, q4, q5, q6⟩ := hSV; go_simp; try with_reducible rfl)
        (try simp only [Act.put, List.setIfInBounds_toArray, List.set_cons_zero, List.set_cons_succ])
        refine wpAnyH_take (i := 17) (oi := ?_) (v := undef) ?_ ?_ ?_ ?_ ?_ ?_ (by exact hHeld) ?_
        rotate_left 1
        · (simp only [List.getElem?_toArray, List.getElem?_cons_zero, List.getElem?_cons_succ]; try rfl)
        · kernel_rfl
        · kernel_rfl
        · kernel_rfl
        · exact fun _ _ _ h => h
        · refine Or.inr ?_
          exact ⟨by rfl, rfl⟩
        (try simp only [Act.put, List.setIfInBounds_toArray, List.set_cons_zero, List.set_cons_succ])
        refine wpAnyH_take (i := 18) (oi := ?_) (v := undef) ?_ ?_ ?_ ?_ ?_ ?_ (by exact hHeld) ?_
        rotate_left 1
        · (simp only [List.getElem?_toArray, List.getElem?_cons_zero, List.getElem?_cons_succ]; try rfl)
        · kernel_rfl
        · kernel_rfl
        · kernel_rfl
        · exact fun _ _ _ h => h
        · refine Or.inr ?_
          exact ⟨by rfl, rfl⟩
        (try simp only [Act.put, List.setIfInBounds_toArray, List.set_cons_zero, List.set_cons_succ])
        refine wpAnyH_take (i := 19) (oi := ?_) (v := undef) ?_ ?_ ?_ ?_ ?_ ?_ (by exact hHeld) ?_
        rotate_left 1
        · (simp only [List.getElem?_toArray, List.getElem?_cons_zero, List.getElem?_cons_succ]; try rfl)
        · kernel_rfl
        · kernel_rfl
        · kernel_rfl
        · exact fun _ _ _ h => h
        · refine Or.inr ?_
          exact ⟨by rfl, rfl⟩
        (try simp only [Act.put, List.setIfInBounds_toArray, List.set_cons_zero, List.set_cons_succ])
        refine wpAnyH_take (i := 20) (oi := ?_) (v := undef) ?_ ?_ ?_ ?_ ?_ ?_ (by exact hHeld) ?_
        rotate_left 1
        · (simp only [List.getElem?_toArray, List.getElem?_cons_zero, List.getElem?_cons_succ]; try rfl)
        · kernel_rfl
        · kernel_rfl
        · kernel_rfl
        · exact fun _ _ _ h => h
        · refine Or.inr ?_
          exact ⟨by rfl, rfl⟩
        (try simp only [Act.put, List.setIfInBounds_toArray, List.set_cons_zero, List.set_cons_succ])
        refine wpAnyH_take (i := 21) (oi := ?_) (v := undef) ?_ ?_ ?_ ?_ ?_ ?_ (by exact hHeld) ?_
        rotate_left 1
        · (simp only [List.getElem?_toArray, List.getElem?_cons_zero, List.getElem?_cons_succ]; try rfl)
        · kernel_rfl
        · kernel_rfl
        · kernel_rfl
        · exact fun _ _ _ h => h
        · refine Or.inr ?_
          exact ⟨by rfl, rfl⟩
        (try simp only [Act.put, List.setIfInBounds_toArray, List.set_cons_zero, List.set_cons_succ])
        refine wpAnyH_take (i := 22) (oi := ?_) (v := undef) ?_ ?_ ?_ ?_ ?_ ?_ (by exact hHeld) ?_
        rotate_left 1
        · (simp only [List.getElem?_toArray, List.getElem?_cons_zero, List.getElem?_cons_succ]; try rfl)
        · kernel_rfl
        · kernel_rfl
        · kernel_rfl
        · exact fun _ _ _ h => h
        · refine Or.inr ?_
          exact ⟨by rfl, rfl⟩
        (try simp only [Act.put, List.setIfInBounds_toArray, List.set_cons_zero, List.set_cons_succ])
        refine wpAnyH_take (i := 23) (oi := ?_) (v := undef) ?_ ?_ ?_ ?_ ?_ ?_ (by exact hHeld) ?_
        rotate_left 1
        · (simp only [List.getElem?_toArray, List.getElem?_cons_zero, List.getElem?_cons_succ]; try rfl)
        · kernel_rfl
        · kernel_rfl
        · kernel_rfl
        · exact fun _ _ _ h => h
        · refine Or.inr ?_
          exact ⟨by rfl, rfl⟩
        (try simp only [Act.put, List.setIfInBounds_toArray, List.set_cons_zero, List.set_cons_succ])
        refine wpAnyH_take (i := 24) (oi := ?_) (v := undef) ?_ ?_ ?_ ?_ ?_ ?_ (by exact hHeld) ?_
        rotate_left 1
        · (simp only [List.getElem?_toArray, List.getElem?_cons_zero, List.getElem?_cons_succ]; try rfl)
        · kernel_rfl
        · kernel_rfl
        · kernel_rfl
        · exact fun _ _ _ h => h
        · refine Or.inr ?_
          exact ⟨by rfl, rfl⟩
        (try simp only [Act.put, List.setIfInBounds_toArray, List.set_cons_zero, List.set_cons_succ])
        refine wpAnyH_take (i := 25) (oi := ?_) (v := undef) ?_ ?_ ?_ ?_ ?_ ?_ (by exact hHeld) ?_
        rotate_left 1
        · (simp only [List.getElem?_toArray, List.getElem?_cons_zero, List.getElem?_cons_succ]; try rfl)
        · kernel_rfl
        · kernel_rfl
        · kernel_rfl
        · exact fun _ _ _ h => h
        · refine Or.inr ?_
          exact ⟨by rfl, rfl⟩
        (try simp only [Act.put, List.setIfInBounds_toArray, List.set_cons_zero, List.set_cons_succ])
        refine wpAnyH_take (i := 26) (oi := ?_) (v := undef) ?_ ?_ ?_ ?_ ?_ ?_ (by exact hHeld) ?_
        rotate_left 1
        · (simp only [List.getElem?_toArray, List.getElem?_cons_zero, List.getElem?_cons_succ]; try rfl)
        · kernel_rfl
        · kernel_rfl
        · kernel_rfl
        · exact fun _ _ _ h => h
        · refine Or.inr ?_
          exact ⟨by rfl, rfl⟩
        (try simp only [Act.put, List.setIfInBounds_toArray, List.set_cons_zero, List.set_cons_succ])
        refine wpAnyH_take (i := 27) (oi := ?_) (v := undef) ?_ ?_ ?_ ?_ ?_ ?_ (by exact hHeld) ?_
        rotate_left 1
        · (simp only [List.getElem?_toArray, List.getElem?_cons_zero, List.getElem?_cons_succ]; try rfl)
        · kernel_rfl
        · kernel_rfl
        · kernel_rfl
        · exact fun _ _ _ h => h
        · refine Or.inr ?_
          exact ⟨by rfl, rfl⟩
        (try simp only [Act.put, List.setIfInBounds_toArray, List.set_cons_zero, List.set_cons_succ])
        refine wpAnyH_take (i := 28) (oi := ?_) (v := undef) ?_ ?_ ?_ ?_ ?_ ?_ (by exact hHeld) ?_
        rotate_left 1
        · (simp only [List.getElem?_toArray, List.getElem?_cons_zero, List.getElem?_cons_succ]; try rfl)
        · kernel_rfl
        · kernel_rfl
        · kernel_rfl
        · exact fun _ _ _ h => h
        · refine Or.inr ?_
          exact ⟨by rfl, rfl⟩
        (try simp only [Act.put, List.setIfInBounds_toArray, List.set_cons_zero, List.set_cons_succ])
        refine wpAnyH_take (i := 29) (oi := ?_) (v := ?_) ?_ ?_ ?_ ?_ ?_ ?_ (by exact hHeld) ?_
        rotate_left 2
        · (simp only [List.getElem?_toArray, List.getElem?_cons_zero, List.getElem?_cons_succ]; try rfl)
        · kernel_rfl
        · kernel_rfl
        · kernel_rfl
        · exact fun _ _ _ h => h
        · refine Or.inl ⟨by rfl, ?_⟩
          (intro V hSV; (try dsimp only at hSV); obtain ⟨q0, q1, q2, q3, q4, q5, q6⟩ := hSV; go_simp; try with_reducible rfl)
        (try simp only [Act.put, List.setIfInBounds_toArray, List.set_cons_zero, List.set_cons_succ])
        refine wpAnyH_done (by kernel_rfl) ?_ _
        clear hHeld k0 k1 k2 k3 p0 p1 p2
        have hdw : Below w1.heap.size w1 w1.drew := (Below.refl _ _).drew
        have BX := Lib.hid (BX.out.below hdw)
        have HB := Lib.hid (below_then HB.out hdw)
        clear hdw
        go_wp2
        go_roundw
        case rel => exact ⟨k + 1, by omega, by go_num, by simp, HN9, BX.out, HB.out⟩
        case measure => simp [intOf]; omega
      · have hne : (s0 != n) = true := by simp [hs]
        by_cases ha0 : now < t0
        · obtain ⟨mm, hm⟩ : ∃ mm, hits a m lp x0 y0 = mm := ⟨_, rfl⟩
          have HM := Lib.hid hm
          have HV := Lib.hid (show (decide (now < t0) && (decide (s0 ≠ n) && hits a m lp x0 y0)) = mm by rw [hm]; simp [ha0, hs])
          clear hm hs
          go_wp2_with fail
          refine wp_region_held_drew (S := (fun V => V.cell? ⟨b, off + k * 4, none⟩ = some (.int .i64 x0) ∧ V.cell? ⟨b, off + k * 4 + 1, none⟩ = some (.int .i64 y0) ∧ V.cell? ⟨b, off + k * 4 + 2, none⟩ = some (.int .i64 s0) ∧ V.cell? ⟨b, off + k * 4 + 3, none⟩ = some (.int .i64 t0) ∧ V.cell? ⟨w.heap.size, 0, none⟩ = some (.int .i64 a) ∧ V.cell? ⟨w.heap.size, 1, none⟩ = some (.int .i64 m) ∧ V.cell? ⟨w.heap.size, 2, none⟩ = some (.slice Ap lp.length cp))) (by kernel_rfl) (by exact ⟨k0, k1, k2, k3, p0, p1, p2⟩) (fun hHeld => ?_)
          refine wpAnyH_take (i := 0) (oi := ?_) (v := ?_) ?_ ?_ ?_ ?_ ?_ ?_ (by exact hHeld) ?_
          rotate_left 2
          · (simp only [List.getElem?_toArray, List.getElem?_cons_zero]; try rfl)
          · kernel_rfl
          · kernel_rfl
          · kernel_rfl
          · exact fun _ _ _ h => h
          · refine Or.inl ⟨by rfl, ?_⟩
            (intro V hSV; (try dsimp only at hSV); obtain ⟨q0, q1, q2, q3, q4, q5, q6⟩ := hSV; go_simp; try with_reducible rfl)
          (try simp only [Act.put, List.setIfInBounds_toArray, List.set_cons_zero, List.set_cons_succ])
          refine wpAnyH_take (i := 1) (oi := ?_) (v := ?_) ?_ ?_ ?_ ?_ ?_ ?_ (by exact hHeld) ?_
          rotate_left 2
          · (simp only [List.getElem?_toArray, List.getElem?_cons_zero, List.getElem?_cons_succ]; try rfl)
          · kernel_rfl
          · kernel_rfl
          · kernel_rfl
          · exact fun _ _ _ h => h
          · refine Or.inl ⟨by rfl, ?_⟩
            (intro V hSV; (try dsimp only at hSV); obtain ⟨q0, q1, q2, q3, q4, q5, q6⟩ := hSV; go_simp; try with_reducible rfl)
          (try simp only [Act.put, List.setIfInBounds_toArray, List.set_cons_zero, List.set_cons_succ])
          refine wpAnyH_take (i := 2) (oi := ?_) (v := ?_) ?_ ?_ ?_ ?_ ?_ ?_ (by exact hHeld) ?_
          rotate_left 2
          · (simp only [List.getElem?_toArray, List.getElem?_cons_zero, List.getElem?_cons_succ]; try rfl)
          · kernel_rfl
          · kernel_rfl
          · kernel_rfl
          · exact fun _ _ _ h => h
          · refine Or.inl ⟨by rfl, ?_⟩
            (intro V hSV; (try dsimp only at hSV); obtain ⟨q0, q1, q2, q3, q4, q5, q6⟩ := hSV; go_simp; try with_reducible rfl)
          (try simp only [Act.put, List.setIfInBounds_toArray, List.set_cons_zero, List.set_cons_succ])
          refine wpAnyH_take (i := 3) (oi := ?_) (v := ?_) ?_ ?_ ?_ ?_ ?_ ?_ (by exact hHeld) ?_
          rotate_left 2
          · (simp only [List.getElem?_toArray, List.getElem?_cons_zero, List.getElem?_cons_succ]; try rfl)
          · kernel_rfl
          · kernel_rfl
          · kernel_rfl
          · exact fun _ _ _ h => h
          · refine Or.inl ⟨by rfl, ?_⟩
            (intro V hSV; (try dsimp only at hSV); obtain ⟨q0, q1, q2, q3, q4, q5, q6⟩ := hSV; go_simp; try with_reducible rfl)
          (try simp only [Act.put, List.setIfInBounds_toArray, List.set_cons_zero, List.set_cons_succ])
          refine wpAnyH_take (i := 4) (oi := ?_) (v := ?_) ?_ ?_ ?_ ?_ ?_ ?_ (by exact hHeld) ?_
          rotate_left 2
          · (simp only [List.getElem?_toArray, List.getElem?_cons_zero, List.getElem?_cons_succ]; try rfl)
          · kernel_rfl
          · kernel_rfl
          · kernel_rfl
          · exact fun _ _ _ h => h
          · refine Or.inl ⟨by rfl, ?_⟩
            (intro V hSV; (try dsimp only at hSV); obtain ⟨q0, q1, q2, q3, q4, q5, q6⟩ := hSV; go_simp; try with_reducible rfl)
          (try simp only [Act.put, List.setIfInBounds_toArray, List.set_cons_zero, List.set_cons_succ])
          refine wpAnyH_take (i := 5) (oi := ?_) (v := ?_) ?_ ?_ ?_ ?_ ?_ ?_ (by exact hHeld) ?_
          rotate_left 2
          · (simp only [List.getElem?_toArray, List.getElem?_cons_zero, List.getElem?_cons_succ]; try rfl)
          · kernel_rfl
          · kernel_rfl
          · kernel_rfl
          · exact fun _ _ _ h => h
          · refine Or.inl ⟨by rfl, ?_⟩
            (intro V hSV; (try dsimp only at hSV); obtain ⟨q0, q1, q2, q3, q4, q5, q6⟩ := hSV; go_simp; try with_reducible rfl)
          (try simp only [Act.put, List.setIfInBounds_toArray, List.set_cons_zero, List.set_cons_succ])
          refine wpAnyH_take (i := 6) (oi := ?_) (v := ?_) ?_ ?_ ?_ ?_ ?_ ?_ (by exact hHeld) ?_
          rotate_left 2
          · (simp only [List.getElem?_toArray, List.getElem?_cons_zero, List.getElem?_cons_succ]; try rfl)
          · kernel_rfl
          · kernel_rfl
          · kernel_rfl
          · exact fun _ _ _ h => h
          · refine Or.inl ⟨by rfl, ?_⟩
            (intro V hSV; (try dsimp only at hSV); obtain ⟨q0, q1, q2, q3, q4, q5, q6⟩ := hSV; go_simp; try with_reducible rfl)
          (try simp only [Act.put, List.setIfInBounds_toArray, List.set_cons_zero, List.set_cons_succ])
          refine wpAnyH_take (i := 7) (oi := ?_) (v := ?_) ?_ ?_ ?_ ?_ ?_ ?_ (by exact hHeld) ?_
          rotate_left 2
          · (simp only [List.getElem?_toArray, List.getElem?_cons_zero, List.getElem?_cons_succ]; try rfl)
          · kernel_rfl
          · kernel_rfl
          · kernel_rfl
          · exact fun _ _ _ h => h
          · refine Or.inl ⟨by rfl, ?_⟩
            (intro V hSV; (try dsimp only at hSV); obtain ⟨q0, q1, q2, q3, q4, q5, q6⟩ := hSV; go_simp; try with_reducible rfl)
          (try simp only [Act.put, List.setIfInBounds_toArray, List.set_cons_zero, List.set_cons_succ])
          refine wpAnyH_take (i := 8) (oi := ?_) (v := ?_) ?_ ?_ ?_ ?_ ?_ ?_ (by exact hHeld) ?_
          rotate_left 2
          · (simp only [List.getElem?_toArray, List.getElem?_cons_zero, List.getElem?_cons_succ]; try rfl)
          · kernel_rfl
          · kernel_rfl
          · kernel_rfl
          · exact fun _ _ _ h => h
          · refine Or.inl ⟨by rfl, ?_⟩
            (intro V hSV; (try dsimp only at hSV); obtain ⟨q0, q1, q2, q3, q4, q5, q6⟩ := hSV; go_simp; try with_reducible rfl)
          (try simp only [Act.put, List.setIfInBounds_toArray, List.set_cons_zero, List.set_cons_succ])
          refine wpAnyH_take (i := 9) (oi := ?_) (v := ?_) ?_ ?_ ?_ ?_ ?_ ?_ (by exact hHeld) ?_
          rotate_left 2
          · (simp only [List.getElem?_toArray, List.getElem?_cons_zero, List.getElem?_cons_succ]; try rfl)
          · kernel_rfl
          · kernel_rfl
          · kernel_rfl
          · exact fun _ _ _ h => h
          · refine Or.inl ⟨by rfl, ?_⟩
            (intro V hSV; (try dsimp only at hSV); obtain ⟨q0, q1, q2, q3, q4, q5, q6⟩ := hSV; go_simp; try with_reducible rfl)
          (try simp only [Act.put, List.setIfInBounds_toArray, List.set_cons_zero, List.set_cons_succ])
          refine wpAnyH_take (i := 10) (oi := ?_) (v := ?_) ?_ ?_ ?_ ?_ ?_ ?_ (by exact hHeld) ?_
          rotate_left 2
          · (simp only [List.getElem?_toArray, List.getElem?_cons_zero, List.getElem?_cons_succ]; try rfl)
          · kernel_rfl
          · kernel_rfl
          · kernel_rfl
          · exact fun _ _ _ h => h
          · refine Or.inl ⟨by rfl, ?_⟩
            (intro V hSV; (try dsimp only at hSV); obtain ⟨q0, q1, q2, q3, q4, q5, q6⟩ := hSV; go_simp; try with_reducible rfl)
          (try simp only [Act.put, List.setIfInBounds_toArray, List.set_cons_zero, List.set_cons_succ])
          refine wpAnyH_take (i := 11) (oi := ?_) (v := ?_) ?_ ?_ ?_ ?_ ?_ ?_ (by exact hHeld) ?_
          rotate_left 2
          · (simp only [List.getElem?_toArray, List.getElem?_cons_zero, List.getElem?_cons_succ]; try rfl)
          · kernel_rfl
          · kernel_rfl
          · kernel_rfl
          · exact fun _ _ _ h => h
          · refine Or.inl ⟨by rfl, ?_⟩
            (intro V hSV; (try dsimp only at hSV); obtain ⟨q0, q1, q2, q3, q4, q5, q6⟩ := hSV; go_simp; try with_reducible rfl)
          (try simp only [Act.put, List.setIfInBounds_toArray, List.set_cons_zero, List.set_cons_succ])
          refine wpAnyH_take (i := 12) (oi := ?_) (v := ?_) ?_ ?_ ?_ ?_ ?_ ?_ (by exact hHeld) ?_
          rotate_left 2
          · (simp only [List.getElem?_toArray, List.getElem?_cons_zero, List.getElem?_cons_succ]; try rfl)
          · kernel_rfl
          · kernel_rfl
          · kernel_rfl
          · exact fun _ _ _ h => h
          · refine Or.inl ⟨by rfl, ?_⟩
            (intro V hSV; (try dsimp only at hSV); obtain ⟨q0, q1, q2, q3, q4, q5, q6⟩ := hSV; go_simp; try with_reducible rfl)
          (try simp only [Act.put, List.setIfInBounds_toArray, List.set_cons_zero, List.set_cons_succ])
          refine wpAnyH_take (i := 13) (oi := ?_) (v := ?_) ?_ ?_ ?_ ?_ ?_ ?_ (by exact hHeld) ?_
          rotate_left 2
          · (simp only [List.getElem?_toArray, List.getElem?_cons_zero, List.getElem?_cons_succ]; try rfl)
          · kernel_rfl
          · kernel_rfl
          · kernel_rfl
          · exact fun _ _ _ h => h
          · refine Or.inl ⟨by rfl, ?_⟩
            (intro V hSV; (try dsimp only at hSV); obtain ⟨q0, q1, q2, q3, q4, q5, q6⟩ := hSV; go_simp; try with_reducible rfl)
          (try simp only [Act.put, List.setIfInBounds_toArray, List.set_cons_zero, List.set_cons_succ])
          refine wpAnyH_take (i := 14) (oi := ?_) (v := ?_) ?_ ?_ ?_ ?_ ?_ ?_ (by exact hHeld) ?_
          rotate_left 2
          · (simp only [List.getElem?_toArray, List.getElem?_cons_zero, List.getElem?_cons_succ]; try rfl)
          · kernel_rfl
          · kernel_rfl
          · kernel_rfl
          · exact fun _ _ _ h => h
          · refine Or.inl ⟨by rfl, ?_⟩
            (intro V hSV; (try dsimp only at hSV); obtain ⟨q0, q1, q2, q3, q4, q5, q6⟩ := hSV; go_simp; try with_reducible rfl)
          (try simp only [Act.put, List.setIfInBounds_toArray, List.set_cons_zero, List.set_cons_succ])
          refine wpAnyH_take (i := 15) (oi := ?_) (v := ?_) ?_ ?_ ?_ ?_ ?_ ?_ (by exact hHeld) ?_
          rotate_left 2
          · (simp only [List.getElem?_toArray, List.getElem?_cons_zero, List.getElem?_cons_succ]; try rfl)
          · kernel_rfl
          · kernel_rfl
          · kernel_rfl
          · exact fun _ _ _ h => h
          · refine Or.inl ⟨by rfl, ?_⟩
            (intro V hSV; (try dsimp only at hSV); obtain ⟨q0, q1, q2, q3, q4, q5, q6⟩ := hSV; go_simp; try with_reducible rfl)
          (try simp only [Act.put, List.setIfInBounds_toArray, List.set_cons_zero, List.set_cons_succ])
          refine wpAnyH_take (i := 16) (oi := ?_) (v := ?_) ?_ ?_ ?_ ?_ ?_ ?_ (by exact hHeld) ?_
          rotate_left 2
          · (simp only [List.getElem?_toArray, List.getElem?_cons_zero, List.getElem?_cons_succ]; try rfl)
          · kernel_rfl
          · kernel_rfl
          · kernel_rfl
          · exact fun _ _ _ h => h
          · refine Or.inl ⟨by rfl, ?_⟩
            (intro V hSV; (try dsimp only at hSV); obtain ⟨q0, q1, q2, q3, q4, q5, q6⟩ := hSV; go_simp; try with_reducible rfl)
          (try simp only [Act.put, List.setIfInBounds_toArray, List.set_cons_zero, List.set_cons_succ])
          refine wpAnyH_take (i := 17) (oi := ?_) (v := ?_) ?_ ?_ ?_ ?_ ?_ ?_ (by exact hHeld) ?_
          rotate_left 2
          · (simp only [List.getElem?_toArray, List.getElem?_cons_zero, List.getElem?_cons_succ]; try rfl)
          · kernel_rfl
          · kernel_rfl
          · kernel_rfl
          · exact fun _ _ _ h => h
          · refine Or.inl ⟨by rfl, ?_⟩
            (intro V hSV; (try dsimp only at hSV); obtain ⟨q0, q1, q2, q3, q4, q5, q6⟩ := hSV; go_simp; try with_reducible rfl)
          (try simp only [Act.put, List.setIfInBounds_toArray, List.set_cons_zero, List.set_cons_succ])
          refine wpAnyH_take (i := 18) (oi := ?_) (v := ?_) ?_ ?_ ?_ ?_ ?_ ?_ (by exact hHeld) ?_
          rotate_left 2
          · (simp only [List.getElem?_toArray, List.getElem?_cons_zero, List.getElem?_cons_succ]; try rfl)
          · kernel_rfl
          · kernel_rfl
          · kernel_rfl
          · exact fun _ _ _ h => h
          · refine Or.inl ⟨by rfl, ?_⟩
            (intro V hSV; (try dsimp only at hSV); obtain ⟨q0, q1, q2, q3, q4, q5, q6⟩ := hSV; go_simp; try with_reducible rfl)
          (try simp only [Act.put, List.setIfInBounds_toArray, List.set_cons_zero, List.set_cons_succ])
          refine wpAnyH_take (i := 19) (oi := ?_) (v := ?_) ?_ ?_ ?_ ?_ ?_ ?_ (by exact hHeld) ?_
          rotate_left 2
          · (simp only [List.getElem?_toArray, List.getElem?_cons_zero, List.getElem?_cons_succ]; try rfl)
          · kernel_rfl
          · kernel_rfl
          · kernel_rfl
          · exact fun _ _ _ h => h
          · refine Or.inl ⟨by rfl, ?_⟩
            (intro V hSV; (try dsimp only at hSV); obtain ⟨q0, q1, q2, q3, q4, q5, q6⟩ := hSV; go_simp; try with_reducible rfl)
          (try simp only [Act.put, List.setIfInBounds_toArray, List.set_cons_zero, List.set_cons_succ])
          refine wpAnyH_take (i := 20) (oi := ?_) (v := ?_) ?_ ?_ ?_ ?_ ?_ ?_ (by exact hHeld) ?_
          rotate_left 2
          · (simp only [List.getElem?_toArray, List.getElem?_cons_zero, List.getElem?_cons_succ]; try rfl)
          · kernel_rfl
          · kernel_rfl
          · kernel_rfl
          · exact fun _ _ _ h => h
          · refine Or.inl ⟨by rfl, ?_⟩
            (intro V hSV; (try dsimp only at hSV); obtain ⟨q0, q1, q2, q3, q4, q5, q6⟩ := hSV; go_simp; try with_reducible rfl)
          (try simp only [Act.put, List.setIfInBounds_toArray, List.set_cons_zero, List.set_cons_succ])
          refine wpAnyH_take (i := 21) (oi := ?_) (v := ?_) ?_ ?_ ?_ ?_ ?_ ?_ (by exact hHeld) ?_
          rotate_left 2
          · (simp only [List.getElem?_toArray, List.getElem?_cons_zero, List.getElem?_cons_succ]; try rfl)
          · kernel_rfl
          · kernel_rfl
          · kernel_rfl
          · exact fun _ _ _ h => h
          · refine Or.inl ⟨by rfl, ?_⟩
            (intro V hSV; (try dsimp only at hSV); obtain ⟨q0, q1, q2, q3, q4, q5, q6⟩ := hSV; go_simp; try with_reducible rfl)
          (try simp only [Act.put, List.setIfInBounds_toArray, List.set_cons_zero, List.set_cons_succ])
          refine wpAnyH_take (i := 22) (oi := ?_) (v := ?_) ?_ ?_ ?_ ?_ ?_ ?_ (by exact hHeld) ?_
          rotate_left 2
          · (simp only [List.getElem?_toArray, List.getElem?_cons_zero, List.getElem?_cons_succ]; try rfl)
          · kernel_rfl
          · kernel_rfl
          · kernel_rfl
          · exact fun _ _ _ h => h
          · refine Or.inl ⟨by rfl, ?_⟩
            (intro V hSV; (try dsimp only at hSV); obtain ⟨q0, q1, q2, q3, q4, q5, q6⟩ := hSV; go_simp; try with_reducible rfl)
          (try simp only [Act.put, List.setIfInBounds_toArray, List.set_cons_zero, List.set_cons_succ])
          refine wpAnyH_take (i := 23) (oi := ?_) (v := ?_) ?_ ?_ ?_ ?_ ?_ ?_ (by exact hHeld) ?_
          rotate_left 2
          · (simp only [List.getElem?_toArray, List.getElem?_cons_zero, List.getElem?_cons_succ]; try rfl)
          · kernel_rfl
          · kernel_rfl
          · kernel_rfl
          · exact fun _ _ _ h => h
          · refine Or.inl ⟨by rfl, ?_⟩
            (intro V hSV; (try dsimp only at hSV); obtain ⟨q0, q1, q2, q3, q4, q5, q6⟩ := hSV; go_simp; try with_reducible rfl)
          (try simp only [Act.put, List.setIfInBounds_toArray, List.set_cons_zero, List.set_cons_succ])
          refine wpAnyH_take (i := 24) (oi := ?_) (v := ?_) ?_ ?_ ?_ ?_ ?_ ?_ (by exact hHeld) ?_
          rotate_left 2
          · (simp only [List.getElem?_toArray, List.getElem?_cons_zero, List.getElem?_cons_succ]; try rfl)
          · kernel_rfl
          · kernel_rfl
          · kernel_rfl
          · exact fun _ _ _ h => h
          · refine Or.inl ⟨by rfl, ?_⟩
            (intro V hSV; (try dsimp only at hSV); obtain ⟨q0, q1, q2, q3, q4, q5, q6⟩ := hSV; go_simp; try with_reducible rfl)
          (try simp only [Act.put, List.setIfInBounds_toArray, List.set_cons_zero, List.set_cons_succ])
          refine wpAnyH_take (i := 25) (oi := ?_) (v := ?_) ?_ ?_ ?_ ?_ ?_ ?_ (by exact hHeld) ?_
          rotate_left 2
          · (simp only [List.getElem?_toArray, List.getElem?_cons_zero, List.getElem?_cons_succ]; try rfl)
          · kernel_rfl
          · kernel_rfl
          · kernel_rfl
          · exact fun _ _ _ h => h
          · refine Or.inl ⟨by rfl, ?_⟩
            (intro V hSV; (try dsimp only at hSV); obtain ⟨q0, q1, q2, q3, q4, q5, q6⟩ := hSV; go_simp; try with_reducible rfl)
          (try simp only [Act.put, List.setIfInBounds_toArray, List.set_cons_zero, List.set_cons_succ])
          refine wpAnyH_take (i := 26) (oi := ?_) (v := ?_) ?_ ?_ ?_ ?_ ?_ ?_ (by exact hHeld) ?_
          rotate_left 2
          · (simp only [List.getElem?_toArray, List.getElem?_cons_zero, List.getElem?_cons_succ]; try rfl)
          · kernel_rfl
          · kernel_rfl
          · kernel_rfl
          · exact fun _ _ _ h => h
          · refine Or.inl ⟨by rfl, ?_⟩
            (intro V hSV; (try dsimp only at hSV); obtain ⟨q0, q1, q2, q3, q4, q5, q6⟩ := hSV; go_simp; try with_reducible rfl)
          (try simp only [Act.put, List.setIfInBounds_toArray, List.set_cons_zero, List.set_cons_succ])
          refine wpAnyH_take (i := 27) (oi := ?_) (v := ?_) ?_ ?_ ?_ ?_ ?_ ?_ (by exact hHeld) ?_
          rotate_left 2
          · (simp only [List.getElem?_toArray, List.getElem?_cons_zero, List.getElem?_cons_succ]; try rfl)
          · kernel_rfl
          · kernel_rfl
          · kernel_rfl
          · exact fun _ _ _ h => h
          · refine Or.inl ⟨by rfl, ?_⟩
            (intro V hSV; (try dsimp only at hSV); obtain ⟨q0, q1, q2, q3, q4, q5, q6⟩ := hSV; go_simp; try with_reducible rfl)
          (try simp only [Act.put, List.setIfInBounds_toArray, List.set_cons_zero, List.set_cons_succ])
          refine wpAnyH_ready (rs := [28]) (by kernel_rfl) (by simp) ?_
          refine AllReadyH.cons rfl (fun K hK => ?_) AllReadyH.nil
          go_simp
          refine (specEditHits_any a m Ap lp cp x0 y0 _ hl9).mono ?_
          rintro e y1 ⟨rfl, hby1⟩
          rw [HM.out]
          have hby1 : Below w1.heap.size w1 y1 := ⟨hby1.os, hby1.tape, hby1.output, hby1.size, hby1.block⟩
          have hbR := hby1
          go_wp2_with fail
          refine hK.out _ _ (by exact ⟨((hbR).cell (p := ⟨b, off + k * 4, none⟩) hbl).trans k0, ((hbR).cell (p := ⟨b, off + k * 4 + 1, none⟩) hbl).trans k1, ((hbR).cell (p := ⟨b, off + k * 4 + 2, none⟩) hbl).trans k2, ((hbR).cell (p := ⟨b, off + k * 4 + 3, none⟩) hbl).trans k3, ((hbR).cell (p := ⟨w.heap.size, 0, none⟩) zb).trans p0, ((hbR).cell (p := ⟨w.heap.size, 1, none⟩) zb).trans p1, ((hbR).cell (p := ⟨w.heap.size, 2, none⟩) zb).trans p2⟩) (fun hHeld => ?_)
          clear hK K
          (try simp only [Act.put, List.setIfInBounds_toArray, List.set_cons_zero, List.set_cons_succ])
          refine wpAnyH_take (i := 29) (oi := ?_) (v := ?_) ?_ ?_ ?_ ?_ ?_ ?_ (by exact hHeld) ?_
          rotate_left 2
          · (simp only [List.getElem?_toArray, List.getElem?_cons_zero, List.getElem?_cons_succ]; try rfl)
          · kernel_rfl
          · kernel_rfl
          · kernel_rfl
          · exact fun _ _ _ h => h
          · refine Or.inl ⟨by rfl, ?_⟩
            (intro V hSV; (try dsimp only at hSV); obtain ⟨q0, q1, q2, q3, q4, q5, q6⟩ := hSV; go_simp; try with_reducible rfl)
          (try simp only [Act.put, List.setIfInBounds_toArray, List.set_cons_zero, List.set_cons_succ])
          refine wpAnyH_done (by kernel_rfl) ?_ _
          have BX := Lib.hid (BX.out.below hby1)
          have HB := Lib.hid (below_then HB.out hby1)
          clear hbR hby1
          clear hHeld k0 k1 k2 k3 p0 p1 p2
          cases mm
          · have HN9 := Lib.hid (show (es.take (k + 1)).any (fun l => decide (now < l.2.2.2) && barE n a m lp l) = false by rw [HNX.out, HALL.out, HV.out]; rfl)
            go_wp2
            go_roundw
            case rel => exact ⟨k + 1, by omega, by go_num, by simp, HN9, BX.out, HB.out⟩
            case measure => simp [intOf]; omega
          · have HH := Lib.hid (HAL.out HV.out)
            go_wp2
            go_ret
            exact ⟨ret_bool (by rw [HR.out, HH.out]; rfl), HB.out⟩
        · have HN9 := Lib.hid (show (es.take (k + 1)).any (fun l => decide (now < l.2.2.2) && barE n a m lp l) = false by rw [HNX.out, HALL.out]; simp [ha0])
          have had : decide (now < t0) = false := decide_eq_false ha0
          clear hs
          go_wp2_with fail
          refine wp_region_held_drew (S := (fun V => V.cell? ⟨b, off + k * 4, none⟩ = some (.int .i64 x0) ∧ V.cell? ⟨b, off + k * 4 + 1, none⟩ = some (.int .i64 y0) ∧ V.cell? ⟨b, off + k * 4 + 2, none⟩ = some (.int .i64 s0) ∧ V.cell? ⟨b, off + k * 4 + 3, none⟩ = some (.int .i64 t0) ∧ V.cell? ⟨w.heap.size, 0, none⟩ = some (.int .i64 a) ∧ V.cell? ⟨w.heap.size, 1, none⟩ = some (.int .i64 m) ∧ V.cell? ⟨w.heap.size, 2, none⟩ = some (.slice Ap lp.length cp))) (by kernel_rfl) (by exact ⟨k0, k1, k2, k3, p0, p1, p2⟩) (fun hHeld => ?_)
          refine wpAnyH_take (i := 0) (oi := ?_) (v := ?_) ?_ ?_ ?_ ?_ ?_ ?_ (by exact hHeld) ?_
          rotate_left 2
          · (simp only [List.getElem?_toArray, List.getElem?_cons_zero]; try rfl)
          · kernel_rfl
          · kernel_rfl
          · kernel_rfl
          · exact fun _ _ _ h => h
          · refine Or.inl ⟨by rfl, ?_⟩
            (intro V hSV; (try dsimp only at hSV); obtain ⟨q0, q1, q2, q3, q4, q5, q6⟩ := hSV; go_simp; try with_reducible rfl)
          (try simp only [Act.put, List.setIfInBounds_toArray, List.set_cons_zero, List.set_cons_succ])
          refine wpAnyH_take (i := 1) (oi := ?_) (v := ?_) ?_ ?_ ?_ ?_ ?_ ?_ (by exact hHeld) ?_
          rotate_left 2
          · (simp only [List.getElem?_toArray, List.getElem?_cons_zero, List.getElem?_cons_succ]; try rfl)
          · kernel_rfl
          · kernel_rfl
          · kernel_rfl
          · exact fun _ _ _ h => h
          · refine Or.inl ⟨by rfl, ?_⟩
            (intro V hSV; (try dsimp only at hSV); obtain ⟨q0, q1, q2, q3, q4, q5, q6⟩ := hSV; go_simp; try with_reducible rfl)
          (try simp only [Act.put, List.setIfInBounds_toArray, List.set_cons_zero, List.set_cons_succ])
          refine wpAnyH_take (i := 2) (oi := ?_) (v := ?_) ?_ ?_ ?_ ?_ ?_ ?_ (by exact hHeld) ?_
          rotate_left 2
          · (simp only [List.getElem?_toArray, List.getElem?_cons_zero, List.getElem?_cons_succ]; try rfl)
          · kernel_rfl
          · kernel_rfl
          · kernel_rfl
          · exact fun _ _ _ h => h
          · refine Or.inl ⟨by rfl, ?_⟩
            (intro V hSV; (try dsimp only at hSV); obtain ⟨q0, q1, q2, q3, q4, q5, q6⟩ := hSV; go_simp; try with_reducible rfl)
          (try simp only [Act.put, List.setIfInBounds_toArray, List.set_cons_zero, List.set_cons_succ])
          refine wpAnyH_take (i := 3) (oi := ?_) (v := ?_) ?_ ?_ ?_ ?_ ?_ ?_ (by exact hHeld) ?_
          rotate_left 2
          · (simp only [List.getElem?_toArray, List.getElem?_cons_zero, List.getElem?_cons_succ]; try rfl)
          · kernel_rfl
          · kernel_rfl
          · kernel_rfl
          · exact fun _ _ _ h => h
          · refine Or.inl ⟨by rfl, ?_⟩
            (intro V hSV; (try dsimp only at hSV); obtain ⟨q0, q1, q2, q3, q4, q5, q6⟩ := hSV; go_simp; try with_reducible rfl)
          (try simp only [Act.put, List.setIfInBounds_toArray, List.set_cons_zero, List.set_cons_succ])
          refine wpAnyH_take (i := 4) (oi := ?_) (v := ?_) ?_ ?_ ?_ ?_ ?_ ?_ (by exact hHeld) ?_
          rotate_left 2
          · (simp only [List.getElem?_toArray, List.getElem?_cons_zero, List.getElem?_cons_succ]; try rfl)
          · kernel_rfl
          · kernel_rfl
          · kernel_rfl
          · exact fun _ _ _ h => h
          · refine Or.inl ⟨by rfl, ?_⟩
            (intro V hSV; (try dsimp only at hSV); obtain ⟨q0, q1, q2, q3, q4, q5, q6⟩ := hSV; go_simp; try with_reducible rfl)
          (try simp only [Act.put, List.setIfInBounds_toArray, List.set_cons_zero, List.set_cons_succ])
          refine wpAnyH_take (i := 5) (oi := ?_) (v := ?_) ?_ ?_ ?_ ?_ ?_ ?_ (by exact hHeld) ?_
          rotate_left 2
          · (simp only [List.getElem?_toArray, List.getElem?_cons_zero, List.getElem?_cons_succ]; try rfl)
          · kernel_rfl
          · kernel_rfl
          · kernel_rfl
          · exact fun _ _ _ h => h
          · refine Or.inl ⟨by rfl, ?_⟩
            (intro V hSV; (try dsimp only at hSV); obtain ⟨q0, q1, q2, q3, q4, q5, q6⟩ := hSV; go_simp; try with_reducible rfl)
          (try simp only [Act.put, List.setIfInBounds_toArray, List.set_cons_zero, List.set_cons_succ])
          refine wpAnyH_take (i := 6) (oi := ?_) (v := ?_) ?_ ?_ ?_ ?_ ?_ ?_ (by exact hHeld) ?_
          rotate_left 2
          · (simp only [List.getElem?_toArray, List.getElem?_cons_zero, List.getElem?_cons_succ]; try rfl)
          · kernel_rfl
          · kernel_rfl
          · kernel_rfl
          · exact fun _ _ _ h => h
          · refine Or.inl ⟨by rfl, ?_⟩
            (intro V hSV; (try dsimp only at hSV); obtain ⟨q0, q1, q2, q3, q4, q5, q6⟩ := hSV; go_simp; try with_reducible rfl)
          (try simp only [Act.put, List.setIfInBounds_toArray, List.set_cons_zero, List.set_cons_succ])
          refine wpAnyH_take (i := 7) (oi := ?_) (v := ?_) ?_ ?_ ?_ ?_ ?_ ?_ (by exact hHeld) ?_
          rotate_left 2
          · (simp only [List.getElem?_toArray, List.getElem?_cons_zero, List.getElem?_cons_succ]; try rfl)
          · kernel_rfl
          · kernel_rfl
          · kernel_rfl
          · exact fun _ _ _ h => h
          · refine Or.inl ⟨by rfl, ?_⟩
            (intro V hSV; (try dsimp only at hSV); obtain ⟨q0, q1, q2, q3, q4, q5, q6⟩ := hSV; go_simp; try with_reducible rfl)
          (try simp only [Act.put, List.setIfInBounds_toArray, List.set_cons_zero, List.set_cons_succ])
          refine wpAnyH_take (i := 8) (oi := ?_) (v := ?_) ?_ ?_ ?_ ?_ ?_ ?_ (by exact hHeld) ?_
          rotate_left 2
          · (simp only [List.getElem?_toArray, List.getElem?_cons_zero, List.getElem?_cons_succ]; try rfl)
          · kernel_rfl
          · kernel_rfl
          · kernel_rfl
          · exact fun _ _ _ h => h
          · refine Or.inl ⟨by rfl, ?_⟩
            (intro V hSV; (try dsimp only at hSV); obtain ⟨q0, q1, q2, q3, q4, q5, q6⟩ := hSV; go_simp; try with_reducible rfl)
          (try simp only [Act.put, List.setIfInBounds_toArray, List.set_cons_zero, List.set_cons_succ])
          refine wpAnyH_take (i := 9) (oi := ?_) (v := ?_) ?_ ?_ ?_ ?_ ?_ ?_ (by exact hHeld) ?_
          rotate_left 2
          · (simp only [List.getElem?_toArray, List.getElem?_cons_zero, List.getElem?_cons_succ]; try rfl)
          · kernel_rfl
          · kernel_rfl
          · kernel_rfl
          · exact fun _ _ _ h => h
          · refine Or.inl ⟨by rfl, ?_⟩
            (intro V hSV; (try dsimp only at hSV); obtain ⟨q0, q1, q2, q3, q4, q5, q6⟩ := hSV; go_simp; try with_reducible rfl)
          (try simp only [Act.put, List.setIfInBounds_toArray, List.set_cons_zero, List.set_cons_succ])
          refine wpAnyH_take (i := 10) (oi := ?_) (v := ?_) ?_ ?_ ?_ ?_ ?_ ?_ (by exact hHeld) ?_
          rotate_left 2
          · (simp only [List.getElem?_toArray, List.getElem?_cons_zero, List.getElem?_cons_succ]; try rfl)
          · kernel_rfl
          · kernel_rfl
          · kernel_rfl
          · exact fun _ _ _ h => h
          · refine Or.inl ⟨by rfl, ?_⟩
            (intro V hSV; (try dsimp only at hSV); obtain ⟨q0, q1, q2, q3, q4, q5, q6⟩ := hSV; go_simp; try with_reducible rfl)
          (try simp only [Act.put, List.setIfInBounds_toArray, List.set_cons_zero, List.set_cons_succ])
          refine wpAnyH_take (i := 11) (oi := ?_) (v := ?_) ?_ ?_ ?_ ?_ ?_ ?_ (by exact hHeld) ?_
          rotate_left 2
          · (simp only [List.getElem?_toArray, List.getElem?_cons_zero, List.getElem?_cons_succ]; try rfl)
          · kernel_rfl
          · kernel_rfl
          · kernel_rfl
          · exact fun _ _ _ h => h
          · refine Or.inl ⟨by rfl, ?_⟩
            (intro V hSV; (try dsimp only at hSV); obtain ⟨q0, q1, q2, q3, q4, q5, q6⟩ := hSV; go_simp; try with_reducible rfl)
          (try simp only [Act.put, List.setIfInBounds_toArray, List.set_cons_zero, List.set_cons_succ])
          refine wpAnyH_take (i := 12) (oi := ?_) (v := ?_) ?_ ?_ ?_ ?_ ?_ ?_ (by exact hHeld) ?_
          rotate_left 2
          · (simp only [List.getElem?_toArray, List.getElem?_cons_zero, List.getElem?_cons_succ]; try rfl)
          · kernel_rfl
          · kernel_rfl
          · kernel_rfl
          · exact fun _ _ _ h => h
          · refine Or.inl ⟨by rfl, ?_⟩
            (intro V hSV; (try dsimp only at hSV); obtain ⟨q0, q1, q2, q3, q4, q5, q6⟩ := hSV; go_simp; try with_reducible rfl)
          (try simp only [Act.put, List.setIfInBounds_toArray, List.set_cons_zero, List.set_cons_succ])
          refine wpAnyH_take (i := 13) (oi := ?_) (v := ?_) ?_ ?_ ?_ ?_ ?_ ?_ (by exact hHeld) ?_
          rotate_left 2
          · (simp only [List.getElem?_toArray, List.getElem?_cons_zero, List.getElem?_cons_succ]; try rfl)
          · kernel_rfl
          · kernel_rfl
          · kernel_rfl
          · exact fun _ _ _ h => h
          · refine Or.inl ⟨by rfl, ?_⟩
            (intro V hSV; (try dsimp only at hSV); obtain ⟨q0, q1, q2, q3, q4, q5, q6⟩ := hSV; go_simp; try with_reducible rfl)
          (try simp only [Act.put, List.setIfInBounds_toArray, List.set_cons_zero, List.set_cons_succ])
          refine wpAnyH_take (i := 14) (oi := ?_) (v := ?_) ?_ ?_ ?_ ?_ ?_ ?_ (by exact hHeld) ?_
          rotate_left 2
          · (simp only [List.getElem?_toArray, List.getElem?_cons_zero, List.getElem?_cons_succ]; try rfl)
          · kernel_rfl
          · kernel_rfl
          · kernel_rfl
          · exact fun _ _ _ h => h
          · refine Or.inl ⟨by rfl, ?_⟩
            (intro V hSV; (try dsimp only at hSV); obtain ⟨q0, q1, q2, q3, q4, q5, q6⟩ := hSV; go_simp; try with_reducible rfl)
          (try simp only [Act.put, List.setIfInBounds_toArray, List.set_cons_zero, List.set_cons_succ])
          refine wpAnyH_take (i := 15) (oi := ?_) (v := ?_) ?_ ?_ ?_ ?_ ?_ ?_ (by exact hHeld) ?_
          rotate_left 2
          · (simp only [List.getElem?_toArray, List.getElem?_cons_zero, List.getElem?_cons_succ]; try rfl)
          · kernel_rfl
          · kernel_rfl
          · kernel_rfl
          · exact fun _ _ _ h => h
          · refine Or.inl ⟨by rfl, ?_⟩
            (intro V hSV; (try dsimp only at hSV); obtain ⟨q0, q1, q2, q3, q4, q5, q6⟩ := hSV; go_simp; try with_reducible rfl)
          (try simp only [Act.put, List.setIfInBounds_toArray, List.set_cons_zero, List.set_cons_succ])
          refine wpAnyH_take (i := 16) (oi := ?_) (v := ?_) ?_ ?_ ?_ ?_ ?_ ?_ (by exact hHeld) ?_
          rotate_left 2
          · (simp only [List.getElem?_toArray, List.getElem?_cons_zero, List.getElem?_cons_succ]; try rfl)
          · kernel_rfl
          · kernel_rfl
          · kernel_rfl
          · exact fun _ _ _ h => h
          · refine Or.inl ⟨by rfl, ?_⟩
            (intro V hSV; (try dsimp only at hSV); obtain ⟨q0, q1, q2, q3, q4, q5, q6⟩ := hSV; go_simp; try with_reducible rfl)
          (try simp only [Act.put, List.setIfInBounds_toArray, List.set_cons_zero, List.set_cons_succ])
          refine wpAnyH_take (i := 17) (oi := ?_) (v := undef) ?_ ?_ ?_ ?_ ?_ ?_ (by exact hHeld) ?_
          rotate_left 1
          · (simp only [List.getElem?_toArray, List.getElem?_cons_zero, List.getElem?_cons_succ]; try rfl)
          · kernel_rfl
          · kernel_rfl
          · kernel_rfl
          · exact fun _ _ _ h => h
          · refine Or.inr ?_
            exact ⟨by rfl, rfl⟩
          (try simp only [Act.put, List.setIfInBounds_toArray, List.set_cons_zero, List.set_cons_succ])
          refine wpAnyH_take (i := 18) (oi := ?_) (v := undef) ?_ ?_ ?_ ?_ ?_ ?_ (by exact hHeld) ?_
          rotate_left 1
          · (simp only [List.getElem?_toArray, List.getElem?_cons_zero, List.getElem?_cons_succ]; try rfl)
          · kernel_rfl
          · kernel_rfl
          · kernel_rfl
          · exact fun _ _ _ h => h
          · refine Or.inr ?_
            exact ⟨by rfl, rfl⟩
          (try simp only [Act.put, List.setIfInBounds_toArray, List.set_cons_zero, List.set_cons_succ])
          refine wpAnyH_take (i := 19) (oi := ?_) (v := undef) ?_ ?_ ?_ ?_ ?_ ?_ (by exact hHeld) ?_
          rotate_left 1
          · (simp only [List.getElem?_toArray, List.getElem?_cons_zero, List.getElem?_cons_succ]; try rfl)
          · kernel_rfl
          · kernel_rfl
          · kernel_rfl
          · exact fun _ _ _ h => h
          · refine Or.inr ?_
            exact ⟨by rfl, rfl⟩
          (try simp only [Act.put, List.setIfInBounds_toArray, List.set_cons_zero, List.set_cons_succ])
          refine wpAnyH_take (i := 20) (oi := ?_) (v := undef) ?_ ?_ ?_ ?_ ?_ ?_ (by exact hHeld) ?_
          rotate_left 1
          · (simp only [List.getElem?_toArray, List.getElem?_cons_zero, List.getElem?_cons_succ]; try rfl)
          · kernel_rfl
          · kernel_rfl
          · kernel_rfl
          · exact fun _ _ _ h => h
          · refine Or.inr ?_
            exact ⟨by rfl, rfl⟩
          (try simp only [Act.put, List.setIfInBounds_toArray, List.set_cons_zero, List.set_cons_succ])
          refine wpAnyH_take (i := 21) (oi := ?_) (v := undef) ?_ ?_ ?_ ?_ ?_ ?_ (by exact hHeld) ?_
          rotate_left 1
          · (simp only [List.getElem?_toArray, List.getElem?_cons_zero, List.getElem?_cons_succ]; try rfl)
          · kernel_rfl
          · kernel_rfl
          · kernel_rfl
          · exact fun _ _ _ h => h
          · refine Or.inr ?_
            exact ⟨by rfl, rfl⟩
          (try simp only [Act.put, List.setIfInBounds_toArray, List.set_cons_zero, List.set_cons_succ])
          refine wpAnyH_take (i := 22) (oi := ?_) (v := undef) ?_ ?_ ?_ ?_ ?_ ?_ (by exact hHeld) ?_
          rotate_left 1
          · (simp only [List.getElem?_toArray, List.getElem?_cons_zero, List.getElem?_cons_succ]; try rfl)
          · kernel_rfl
          · kernel_rfl
          · kernel_rfl
          · exact fun _ _ _ h => h
          · refine Or.inr ?_
            exact ⟨by rfl, rfl⟩
          (try simp only [Act.put, List.setIfInBounds_toArray, List.set_cons_zero, List.set_cons_succ])
          refine wpAnyH_take (i := 23) (oi := ?_) (v := undef) ?_ ?_ ?_ ?_ ?_ ?_ (by exact hHeld) ?_
          rotate_left 1
          · (simp only [List.getElem?_toArray, List.getElem?_cons_zero, List.getElem?_cons_succ]; try rfl)
          · kernel_rfl
          · kernel_rfl
          · kernel_rfl
          · exact fun _ _ _ h => h
          · refine Or.inr ?_
            exact ⟨by rfl, rfl⟩
          (try simp only [Act.put, List.setIfInBounds_toArray, List.set_cons_zero, List.set_cons_succ])
          refine wpAnyH_take (i := 24) (oi := ?_) (v := undef) ?_ ?_ ?_ ?_ ?_ ?_ (by exact hHeld) ?_
          rotate_left 1
          · (simp only [List.getElem?_toArray, List.getElem?_cons_zero, List.getElem?_cons_succ]; try rfl)
          · kernel_rfl
          · kernel_rfl
          · kernel_rfl
          · exact fun _ _ _ h => h
          · refine Or.inr ?_
            exact ⟨by rfl, rfl⟩
          (try simp only [Act.put, List.setIfInBounds_toArray, List.set_cons_zero, List.set_cons_succ])
          refine wpAnyH_take (i := 25) (oi := ?_) (v := undef) ?_ ?_ ?_ ?_ ?_ ?_ (by exact hHeld) ?_
          rotate_left 1
          · (simp only [List.getElem?_toArray, List.getElem?_cons_zero, List.getElem?_cons_succ]; try rfl)
          · kernel_rfl
          · kernel_rfl
          · kernel_rfl
          · exact fun _ _ _ h => h
          · refine Or.inr ?_
            exact ⟨by rfl, rfl⟩
          (try simp only [Act.put, List.setIfInBounds_toArray, List.set_cons_zero, List.set_cons_succ])
          refine wpAnyH_take (i := 26) (oi := ?_) (v := undef) ?_ ?_ ?_ ?_ ?_ ?_ (by exact hHeld) ?_
          rotate_left 1
          · (simp only [List.getElem?_toArray, List.getElem?_cons_zero, List.getElem?_cons_succ]; try rfl)
          · kernel_rfl
          · kernel_rfl
          · kernel_rfl
          · exact fun _ _ _ h => h
          · refine Or.inr ?_
            exact ⟨by rfl, rfl⟩
          (try simp only [Act.put, List.setIfInBounds_toArray, List.set_cons_zero, List.set_cons_succ])
          refine wpAnyH_take (i := 27) (oi := ?_) (v := undef) ?_ ?_ ?_ ?_ ?_ ?_ (by exact hHeld) ?_
          rotate_left 1
          · (simp only [List.getElem?_toArray, List.getElem?_cons_zero, List.getElem?_cons_succ]; try rfl)
          · kernel_rfl
          · kernel_rfl
          · kernel_rfl
          · exact fun _ _ _ h => h
          · refine Or.inr ?_
            exact ⟨by rfl, rfl⟩
          (try simp only [Act.put, List.setIfInBounds_toArray, List.set_cons_zero, List.set_cons_succ])
          refine wpAnyH_take (i := 28) (oi := ?_) (v := undef) ?_ ?_ ?_ ?_ ?_ ?_ (by exact hHeld) ?_
          rotate_left 1
          · (simp only [List.getElem?_toArray, List.getElem?_cons_zero, List.getElem?_cons_succ]; try rfl)
          · kernel_rfl
          · kernel_rfl
          · kernel_rfl
          · exact fun _ _ _ h => h
          · refine Or.inr ?_
            exact ⟨by rfl, rfl⟩
          (try simp only [Act.put, List.setIfInBounds_toArray, List.set_cons_zero, List.set_cons_succ])
          refine wpAnyH_take (i := 29) (oi := ?_) (v := ?_) ?_ ?_ ?_ ?_ ?_ ?_ (by exact hHeld) ?_
          rotate_left 2
          · (simp only [List.getElem?_toArray, List.getElem?_cons_zero, List.getElem?_cons_succ]; try rfl)
          · kernel_rfl
          · kernel_rfl
          · kernel_rfl
          · exact fun _ _ _ h => h
          · refine Or.inl ⟨by rfl, ?_⟩
            (intro V hSV; (try dsimp only at hSV); obtain ⟨q0, q1, q2, q3, q4, q5, q6⟩ := hSV; go_simp; try with_reducible rfl)
          (try simp only [Act.put, List.setIfInBounds_toArray, List.set_cons_zero, List.set_cons_succ])
          refine wpAnyH_done (by kernel_rfl) ?_ _
          clear hHeld k0 k1 k2 k3 p0 p1 p2
          have hdw : Below w1.heap.size w1 w1.drew := (Below.refl _ _).drew
          have BX := Lib.hid (BX.out.below hdw)
          have HB := Lib.hid (below_then HB.out hdw)
          clear hdw
          go_wp2
          go_roundw
          case rel => exact ⟨k + 1, by omega, by go_num, by simp, HN9, BX.out, HB.out⟩
          case measure => simp [intOf]; omega
    · have e : k = es.length := by omega
      have HH := Lib.hid (show es.any (fun l => decide (now < l.2.2.2) && barE n a m lp l) = false by have h9 := HALL.out; rw [e, List.take_length] at h9; exact h9)
      have hki : ¬ (k : Int) < (es.length : Int) := by omega
      clear e
      go_wp2
      go_ret
      exact ⟨ret_bool (by rw [HR.out, HH.out]; rfl), HB.out⟩
end Go.Proofs.Ytgpjjolgpppeeaa

/-
  What bars an edit, at one lease, plain mathematics. Own work.
-/
namespace Go.Proofs.Ytgpjjolgpppeeaa
open Go.RowKit P
set_option linter.unusedVariables false
set_option linter.unusedSimpArgs false

theorem leOk_one {l : Le} (h : leRight l = true) : leOk [l] = true := leOk_of (by simp) (fun x hx => by
  have e : x = l := by simpa using hx
  rw [e]; exact h) (List.pairwise_singleton _ _)
/-- The answers that the law on bars asks for, at one lease. -/
theorem one_bars {i j s t o : Int} (h : leRight (i, j, s, t) = true) (ho : o = Int.tmod s 8 + 1) :
    barsE [(i, j, s, t)] o i 0 [97] 0 = false ∧ barsE [(i, j, s, t)] o j 0 [97] 0 = false ∧ barsE [(i, j, s, t)] s i 1 [] 0 = false ∧ barsE [(i, j, s, t)] o i 1 [] t = false ∧
    barsE [(i, j, s, t)] o i 1 [] (t - 1) = decide (i < j) ∧ barsE [(i, j, s, t)] o ((i + j).tdiv 2) 0 [97] 0 = decide (i + 1 < j) := by
  have hk := leOk_one h
  unfold leRight at h
  rw [decide_eq_true_eq] at h
  obtain ⟨h1, h2, h3, h4, h5, h6, h7⟩ := h
  simp only at h1 h2 h3 h4 h5 h6 h7
  have hos : s ≠ o := by
    rw [ho, Int.tmod_eq_emod_of_nonneg (by omega)]
    omega
  have hmid : (i + j).tdiv 2 = (i + j) / 2 := Int.tdiv_eq_ediv_of_nonneg (by omega)
  have ht0 : (0 : Int) < t := by omega
  have ht1 : t - 1 < t := by omega
  unfold barsE
  rw [hk, hmid]
  simp only [List.any_cons, List.any_nil, Bool.true_and, Bool.or_false, barE, hits, edSmall, isPlace]
  refine ⟨?_, ?_, ?_, ?_, ?_, ?_⟩ <;> (rw [Bool.eq_iff_iff]; simp <;> omega)
end Go.Proofs.Ytgpjjolgpppeeaa

/-
  FnBars, its walk. Own work.
-/
namespace Go.Proofs.Ytgpjjolgpppeeaa.fnBars
open Go.ChangeShapes Go.WideShapes Go.ChangeAt Go.RowKit P
set_option linter.unusedVariables false
set_option maxRecDepth 100000

set_option maxHeartbeats 16000000 in
theorem walk (A : Option Addr) (l : List UInt8) (c : Nat) (hc : l.length ≤ c) (hm : c ≤ maxLen) (w : World) (hB : Bs w A l) :
    Calls Try.prog 4 #[.slice A l.length c] w fun e w' => e = .returned (.bool true) ∧ Below w.heap.size w w' := by
  by_cases hbig : 1048576 < l.length
  · have hb : decide (1048576 < l.length) = true := decide_eq_true hbig
    have HBG := Lib.hid hb
    clear hb hbig
    go_enter Try.func4, Try.ntmps4
    go_wp2_with (go_at_call 18; refine (big_any _ _ _ _).mono ?_; rintro e w' ⟨rfl, rfl⟩; rw [HBG.out])
    go_ret
    exact ⟨rfl, Below.refl _ _⟩
  have hl : l.length ≤ 1048576 := by omega
  have hb : decide (1048576 < l.length) = false := decide_eq_false hbig
  have HBG := Lib.hid hb
  clear hb hbig hc hm
  go_enter Try.func4, Try.ntmps4
  go_wp2_with fail
  refine (big_any _ _ _ _).mono ?_
  rintro e w0 ⟨rfl, rfl⟩
  rw [HBG.out]
  go_wp2_with fail
  refine (drawLeaseBars_any A l c _ hl (by exact hB)).mono ?_
  rintro e w1 ⟨v, es, q, a, m, P, p, d, n, rfl, how1, hes, hq, ha, hm, hn, hp5, hpd, hdm, hP1, hb1⟩
  obtain ⟨A1, c1, rfl, hcap, hcm, hL1⟩ := how1.ll
  have hal := (Below.refl w1.heap.size w1).alloc (Nat.le_refl _) (.cells #[.int .i64 a, .int .i64 m, .slice P p.length d] 37)
  have BE := Lib.hid (EBox.new w1 a m P p.length d)
  have LL := Lib.hid (hL1.below hal)
  have HB := Lib.hid (below_then hb1 hal)
  have HC := Lib.hid (hB.below HB.out)
  have hp9 : p.length ≤ 9223372036854775807 := by omega
  obtain ⟨z, hz⟩ : ∃ z, barsE es q a m p n = z := ⟨_, rfl⟩
  have HZ := Lib.hid hz
  have hzz : (z != z) = false := by simp
  clear HBG how1 hL1 hb1 hal hz hq ha hm hn hP1
  go_upto_region 4 with fail
  generalize w1.alloc (.cells #[.int .i64 a, .int .i64 m, .slice P p.length d] 37) = W2 at *
  have e0 := BE.out.c0
  have e1 := BE.out.c1
  have e2 := BE.out.c2
  have elt := BE.out.lt
  refine wp_region_held_drew (S := (fun V => V.cell? ⟨w1.heap.size, 0, none⟩ = some (.int .i64 a) ∧ V.cell? ⟨w1.heap.size, 1, none⟩ = some (.int .i64 m) ∧ V.cell? ⟨w1.heap.size, 2, none⟩ = some (.slice P p.length d))) (by kernel_rfl) (by exact ⟨e0, e1, e2⟩) (fun hHeld => ?_)
  refine wpAnyH_take (i := 0) (oi := ?_) (v := ?_) ?_ ?_ ?_ ?_ ?_ ?_ (by exact hHeld) ?_
  rotate_left 2
  · (simp only [List.getElem?_toArray, List.getElem?_cons_zero]; try rfl)
  · kernel_rfl
  · kernel_rfl
  · kernel_rfl
  · exact fun _ _ _ h => h
  · refine Or.inl ⟨by rfl, ?_⟩
    (intro V hSV; (try dsimp only at hSV); obtain ⟨q0, q1, q2⟩ := hSV; go_simp; try with_reducible rfl)
  (try simp only [Act.put, List.setIfInBounds_toArray, List.set_cons_zero, List.set_cons_succ])
  refine wpAnyH_take (i := 1) (oi := ?_) (v := ?_) ?_ ?_ ?_ ?_ ?_ ?_ (by exact hHeld) ?_
  rotate_left 2
  · (simp only [List.getElem?_toArray, List.getElem?_cons_zero, List.getElem?_cons_succ]; try rfl)
  · kernel_rfl
  · kernel_rfl
  · kernel_rfl
  · exact fun _ _ _ h => h
  · refine Or.inl ⟨by rfl, ?_⟩
    (intro V hSV; (try dsimp only at hSV); obtain ⟨q0, q1, q2⟩ := hSV; go_simp; try with_reducible rfl)
  (try simp only [Act.put, List.setIfInBounds_toArray, List.set_cons_zero, List.set_cons_succ])
  refine wpAnyH_take (i := 2) (oi := ?_) (v := ?_) ?_ ?_ ?_ ?_ ?_ ?_ (by exact hHeld) ?_
  rotate_left 2
  · (simp only [List.getElem?_toArray, List.getElem?_cons_zero, List.getElem?_cons_succ]; try rfl)
  · kernel_rfl
  · kernel_rfl
  · kernel_rfl
  · exact fun _ _ _ h => h
  · refine Or.inl ⟨by rfl, ?_⟩
    (intro V hSV; (try dsimp only at hSV); obtain ⟨q0, q1, q2⟩ := hSV; go_simp; try with_reducible rfl)
  (try simp only [Act.put, List.setIfInBounds_toArray, List.set_cons_zero, List.set_cons_succ])
  refine wpAnyH_take (i := 3) (oi := ?_) (v := ?_) ?_ ?_ ?_ ?_ ?_ ?_ (by exact hHeld) ?_
  rotate_left 2
  · (simp only [List.getElem?_toArray, List.getElem?_cons_zero, List.getElem?_cons_succ]; try rfl)
  · kernel_rfl
  · kernel_rfl
  · kernel_rfl
  · exact fun _ _ _ h => h
  · refine Or.inl ⟨by rfl, ?_⟩
    (intro V hSV; (try dsimp only at hSV); obtain ⟨q0, q1, q2⟩ := hSV; go_simp; try with_reducible rfl)
  (try simp only [Act.put, List.setIfInBounds_toArray, List.set_cons_zero, List.set_cons_succ])
  refine wpAnyH_take (i := 5) (oi := ?_) (v := ?_) ?_ ?_ ?_ ?_ ?_ ?_ (by exact hHeld) ?_
  rotate_left 2
  · (simp only [List.getElem?_toArray, List.getElem?_cons_zero, List.getElem?_cons_succ]; try rfl)
  · kernel_rfl
  · kernel_rfl
  · kernel_rfl
  · exact fun _ _ _ h => h
  · refine Or.inl ⟨by rfl, ?_⟩
    (intro V hSV; (try dsimp only at hSV); obtain ⟨q0, q1, q2⟩ := hSV; go_simp; try with_reducible rfl)
  (try simp only [Act.put, List.setIfInBounds_toArray, List.set_cons_zero, List.set_cons_succ])
  refine wpAnyH_take (i := 6) (oi := ?_) (v := ?_) ?_ ?_ ?_ ?_ ?_ ?_ (by exact hHeld) ?_
  rotate_left 2
  · (simp only [List.getElem?_toArray, List.getElem?_cons_zero, List.getElem?_cons_succ]; try rfl)
  · kernel_rfl
  · kernel_rfl
  · kernel_rfl
  · exact fun _ _ _ h => h
  · refine Or.inl ⟨by rfl, ?_⟩
    (intro V hSV; (try dsimp only at hSV); obtain ⟨q0, q1, q2⟩ := hSV; go_simp; try with_reducible rfl)
  (try simp only [Act.put, List.setIfInBounds_toArray, List.set_cons_zero, List.set_cons_succ])
  refine wpAnyH_take (i := 7) (oi := ?_) (v := ?_) ?_ ?_ ?_ ?_ ?_ ?_ (by exact hHeld) ?_
  rotate_left 2
  · (simp only [List.getElem?_toArray, List.getElem?_cons_zero, List.getElem?_cons_succ]; try rfl)
  · kernel_rfl
  · kernel_rfl
  · kernel_rfl
  · exact fun _ _ _ h => h
  · refine Or.inl ⟨by rfl, ?_⟩
    (intro V hSV; (try dsimp only at hSV); obtain ⟨q0, q1, q2⟩ := hSV; go_simp; try with_reducible rfl)
  (try simp only [Act.put, List.setIfInBounds_toArray, List.set_cons_zero, List.set_cons_succ])
  refine wpAnyH_take (i := 8) (oi := ?_) (v := ?_) ?_ ?_ ?_ ?_ ?_ ?_ (by exact hHeld) ?_
  rotate_left 2
  · (simp only [List.getElem?_toArray, List.getElem?_cons_zero, List.getElem?_cons_succ]; try rfl)
  · kernel_rfl
  · kernel_rfl
  · kernel_rfl
  · exact fun _ _ _ h => h
  · refine Or.inl ⟨by rfl, ?_⟩
    (intro V hSV; (try dsimp only at hSV); obtain ⟨q0, q1, q2⟩ := hSV; go_simp; try with_reducible rfl)
  (try simp only [Act.put, List.setIfInBounds_toArray, List.set_cons_zero, List.set_cons_succ])
  refine wpAnyH_ready (rs := [4]) (by kernel_rfl) (by simp) ?_
  refine AllReadyH.cons rfl (fun K hK => ?_) AllReadyH.nil
  go_simp
  refine (implLeaseBars_any A1 es c1 q a m P p d n _ (by omega) hp9 (by exact LL.out)).mono ?_
  rintro e w3 ⟨rfl, hb⟩
  rw [HZ.out]
  have hb : Below W2.heap.size W2 w3 := ⟨hb.os, hb.tape, hb.output, hb.size, hb.block⟩
  have H1 := Lib.hid hb
  clear hb
  go_wp2_with fail
  refine hK.out _ _ (by exact ⟨((H1.out).cell (p := ⟨w1.heap.size, 0, none⟩) elt).trans e0, ((H1.out).cell (p := ⟨w1.heap.size, 1, none⟩) elt).trans e1, ((H1.out).cell (p := ⟨w1.heap.size, 2, none⟩) elt).trans e2⟩) (fun hHeld => ?_)
  clear hK K
  (try simp only [Act.put, List.setIfInBounds_toArray, List.set_cons_zero, List.set_cons_succ])
  refine wpAnyH_ready (rs := [9]) (by kernel_rfl) (by simp) ?_
  refine AllReadyH.cons rfl (fun K hK => ?_) AllReadyH.nil
  go_simp
  refine (specLeaseBars_any A1 es c1 q a m P p d n _ (by omega) hp9 (by exact LL.out.below H1.out)).mono ?_
  rintro e w4 ⟨rfl, hb⟩
  rw [HZ.out]
  have hb : Below w3.heap.size w3 w4 := ⟨hb.os, hb.tape, hb.output, hb.size, hb.block⟩
  have H2 := Lib.hid (below_then H1.out hb)
  clear hb
  go_wp2_with fail
  refine hK.out _ _ (by exact ⟨((H2.out).cell (p := ⟨w1.heap.size, 0, none⟩) elt).trans e0, ((H2.out).cell (p := ⟨w1.heap.size, 1, none⟩) elt).trans e1, ((H2.out).cell (p := ⟨w1.heap.size, 2, none⟩) elt).trans e2⟩) (fun hHeld => ?_)
  clear hK K
  (try simp only [Act.put, List.setIfInBounds_toArray, List.set_cons_zero, List.set_cons_succ])
  refine wpAnyH_take (i := 10) (oi := ?_) (v := ?_) ?_ ?_ ?_ ?_ ?_ ?_ (by exact hHeld) ?_
  rotate_left 2
  · (simp only [List.getElem?_toArray, List.getElem?_cons_zero, List.getElem?_cons_succ]; try rfl)
  · kernel_rfl
  · kernel_rfl
  · kernel_rfl
  · exact fun _ _ _ h => h
  · refine Or.inl ⟨by rfl, ?_⟩
    (intro V hSV; (try dsimp only at hSV); obtain ⟨q0, q1, q2⟩ := hSV; go_simp; try with_reducible rfl)
  (try simp only [Act.put, List.setIfInBounds_toArray, List.set_cons_zero, List.set_cons_succ])
  refine wpAnyH_done (by kernel_rfl) ?_ _
  clear hHeld e0 e1 e2 elt
  have BE := Lib.hid (BE.out.below H2.out)
  have LL := Lib.hid (LL.out.below H2.out)
  have HC := Lib.hid (HC.out.below H2.out)
  have HB := Lib.hid (below_then HB.out H2.out)
  clear H1 H2
  obtain ⟨ok, hok⟩ : ∃ ok, leOk es = ok := ⟨_, rfl⟩
  have HK := Lib.hid hok
  clear hok
  go_wp2_with fail
  refine (specLeasesOk_any A1 es c1 _ (by omega) (by exact LL.out)).mono ?_
  rintro e w5 ⟨rfl, hb⟩
  rw [HK.out]
  have BE := Lib.hid (BE.out.below hb)
  have LL := Lib.hid (LL.out.below hb)
  have HC := Lib.hid (HC.out.below hb)
  have HB := Lib.hid (below_then HB.out hb)
  clear hb
  by_cases hgo : ok = true ∧ 0 < es.length
  case neg =>
    have hzf : z = false := by
      rw [← HZ.out]
      unfold barsE
      cases ok with
      | false => rw [HK.out]; rfl
      | true =>
        have h0 : es = [] := by simpa using hgo
        rw [h0]; simp
    subst hzf
    have hcl := fun (W : World) (h : Ll W A1 es) => implLeaseBars_any A1 es c1 q a m P p d n W (by omega) hp9 h
    obtain ⟨nn, hnn⟩ : ∃ nn, es.length = nn := ⟨_, rfl⟩
    have HNN := Lib.hid hnn
    have hgo2 : ok = true → nn = 0 := fun h => by
      have h1 : ¬ 0 < es.length := fun h2 => hgo ⟨h, h2⟩
      omega
    simp only [hnn, HZ.out] at hcl
    have HCL := Lib.hid hcl
    clear hcl hgo
    cases ok
    case false =>
      have e0 := BE.out.c0
      have e1 := BE.out.c1
      have e2 := BE.out.c2
      have elt := BE.out.lt
      rw [hnn]
      clear hnn
      clear hgo2
      go_wp2_with fail
      refine (HCL.out _ (by exact LL.out)).mono ?_
      rintro e w6 ⟨rfl, hb⟩
      have HB := Lib.hid (below_then HB.out hb)
      clear hb
      go_wp2
      go_ret
      exact ⟨rfl, HB.out⟩
    case true =>
      have h0 : ((nn : Int) == 0) = true := by rw [hgo2 rfl]; rfl
      clear hgo2
      have e0 := BE.out.c0
      have e1 := BE.out.c1
      have e2 := BE.out.c2
      have elt := BE.out.lt
      rw [hnn]
      clear hnn
      go_wp2_with fail
      refine (HCL.out _ (by exact LL.out)).mono ?_
      rintro e w6 ⟨rfl, hb⟩
      have HB := Lib.hid (below_then HB.out hb)
      clear hb
      go_wp2
      go_ret
      exact ⟨rfl, HB.out⟩
  obtain ⟨rfl, hlen⟩ := hgo
  have hlen1 : (0 : Int) < (es.length : Int) := by omega
  have hlen2 : ((es.length : Int) == 0) = false := beq_eq_false_iff_ne.2 (by omega)
  go_wp2_with fail
  refine (lawPickN_any 3 (by omega) A l c (es.length : Int) _ hl (by omega) (by omega) (by exact HC.out)).mono ?_
  rintro e w6 ⟨⟨x, rfl, hx0, hx1⟩, hb⟩
  obtain ⟨k, rfl⟩ := Int.eq_ofNat_of_zero_le hx0
  have hk : k < es.length := by omega
  have hk0 : (0 : Int) ≤ (k : Int) := by omega
  have hk1 : (k : Int) < (es.length : Int) := by omega
  have BE := Lib.hid (BE.out.below hb)
  have LL := Lib.hid (LL.out.below hb)
  have HC := Lib.hid (HC.out.below hb)
  have HB := Lib.hid (below_then HB.out hb)
  clear hb hx0 hx1
  obtain ⟨b9, off, i, j, s, t, rfl, hbl, hek, k0, k1, k2, k3, hin⟩ := LL.out.at_ k hk
  have hrt := leRight_of HK.out hk
  rw [hek] at hrt
  have hrt2 := hrt
  unfold leRight at hrt2
  rw [decide_eq_true_eq] at hrt2
  obtain ⟨r1, r2, r3, r4, r5, r6, r7⟩ := hrt2
  simp only at r1 r2 r3 r4 r5 r6 r7
  obtain ⟨ot, hot⟩ : ∃ ot, Int.tmod s 8 + 1 = ot := ⟨_, rfl⟩
  have hmod : Int.tmod s 8 = s % 8 := Int.tmod_eq_emod_of_nonneg (by omega)
  obtain ⟨B1, B2, B3, B4, B5, B6⟩ := one_bars hrt hot.symm
  have B1 := Lib.hid B1
  have B2 := Lib.hid B2
  have B3 := Lib.hid B3
  have B4 := Lib.hid B4
  have B5 := Lib.hid B5
  have B6 := Lib.hid B6
  have hin : leIn (i, j, s, t) := hin
  have HIN := Lib.hid hin
  have hal := (Below.refl w6.heap.size w6).alloc (Nat.le_refl _) (.cells #[.int .i64 i, .int .i64 j, .int .i64 s, .int .i64 t] 43)
  have BL := Lib.hid (Blk.new w6 #[.int .i64 i, .int .i64 j, .int .i64 s, .int .i64 t] 43)
  clear hek hrt hin
  go_upto_region 9 with fail
  have LL := Lib.hid (LL.out.below hal)
  have HC := Lib.hid (HC.out.below hal)
  have HB := Lib.hid (below_then HB.out hal)
  clear hal k0 k1 k2 k3
  generalize w6.alloc (.cells #[.int .i64 i, .int .i64 j, .int .i64 s, .int .i64 t] 43) = W6 at *
  generalize w6.heap.size = lb at *
  have l0 := BL.out.cell 0
  have l1 := BL.out.cell 1
  have l2 := BL.out.cell 2
  have l3 := BL.out.cell 3
  have llt := BL.out.lt
  go_upto_region 10 with fail
  have hal := (Below.refl W6.heap.size W6).alloc (Nat.le_refl _) (.cells #[.int .i64 i, .int .i64 j, .int .i64 s, .int .i64 t] 43)
  have ON : Hid (Ll (W6.alloc (.cells #[.int .i64 i, .int .i64 j, .int .i64 s, .int .i64 t] 43)) (some ⟨W6.heap.size, 0, none⟩) [(i, j, s, t)]) := Lib.hid (ll_new W6 HIN.out)
  clear l0 l1 l2 l3 llt
  have LL := Lib.hid (LL.out.below hal)
  have HC := Lib.hid (HC.out.below hal)
  have BL := Lib.hid (BL.out.below hal)
  have HB := Lib.hid (below_then HB.out hal)
  clear hal
  generalize W6.alloc (.cells #[.int .i64 i, .int .i64 j, .int .i64 s, .int .i64 t] 43) = W7 at *
  generalize W6.heap.size = ob at *
  have l0 := BL.out.cell 0
  have l1 := BL.out.cell 1
  have l2 := BL.out.cell 2
  have l3 := BL.out.cell 3
  have llt := BL.out.lt
  have hw1 : IntKind.i64.wrap (Int.tmod s 8) = Int.tmod s 8 := IntWalk.i64_in _ ⟨by omega, by omega⟩
  have hw2 : IntKind.i64.wrap (Int.tmod s 8 + 1) = ot := by rw [hot]; exact IntWalk.i64_in _ ⟨by omega, by omega⟩
  have hot2 : s % 8 + 1 = ot := by rw [← hot, hmod]
  clear hmod hot
  go_upto_region 11 with fail
  try rw [hot2]
  clear hot2
  clear hw1 hw2
  clear l0 l1 l2 l3 llt
  have l0 := BL.out.cell 0
  have l1 := BL.out.cell 1
  have l2 := BL.out.cell 2
  have l3 := BL.out.cell 3
  have llt := BL.out.lt
  have hcv := Lib.run_convert_bytes_const (P := Try.prog) W7 33 5 #[.int .u8 97] 1 1 (by kernel_rfl) (by kernel_rfl)
  simp only [List.size_toArray, List.length_cons, List.length_nil, Nat.zero_add, Nat.reduceAdd] at hcv
  go_upto_region 12 with fail
  clear hcv
  have hal := ((Below.refl W7.heap.size W7).alloc (Nat.le_refl _) (.cells #[.int .u8 97] 5 (1, 2))).alloc (by simp) (.cells #[.int .i64 (i), .int .i64 (0), .slice (some ⟨W7.heap.size, 0, none⟩) 1 1] 37)
  have BA := Lib.hid (EBox.new (W7.alloc (.cells #[.int .u8 97] 5 (1, 2))) (i) (0) (some ⟨W7.heap.size, 0, none⟩) 1 1)
  clear l0 l1 l2 l3 llt
  have LL := Lib.hid (LL.out.below hal)
  have HC := Lib.hid (HC.out.below hal)
  have BL := Lib.hid (BL.out.below hal)
  have ON := Lib.hid (ON.out.below hal)
  have HB := Lib.hid (below_then HB.out hal)
  clear hal
  try simp only [World.size_alloc] at *
  generalize (W7.alloc (.cells #[.int .u8 97] 5 (1, 2))).alloc (.cells #[.int .i64 (i), .int .i64 (0), .slice (some ⟨W7.heap.size, 0, none⟩) 1 1] 37) = W8 at *
  have l0 := BL.out.cell 0
  have l1 := BL.out.cell 1
  have l2 := BL.out.cell 2
  have l3 := BL.out.cell 3
  have llt := BL.out.lt
  have hcv := Lib.run_convert_bytes_const (P := Try.prog) W8 33 5 #[.int .u8 97] 1 1 (by kernel_rfl) (by kernel_rfl)
  simp only [List.size_toArray, List.length_cons, List.length_nil, Nat.zero_add, Nat.reduceAdd] at hcv
  go_upto_region 13 with fail
  clear hcv
  have hal := ((Below.refl W8.heap.size W8).alloc (Nat.le_refl _) (.cells #[.int .u8 97] 5 (1, 2))).alloc (by simp) (.cells #[.int .i64 (j), .int .i64 (0), .slice (some ⟨W8.heap.size, 0, none⟩) 1 1] 37)
  have BJ := Lib.hid (EBox.new (W8.alloc (.cells #[.int .u8 97] 5 (1, 2))) (j) (0) (some ⟨W8.heap.size, 0, none⟩) 1 1)
  clear l0 l1 l2 l3 llt
  have LL := Lib.hid (LL.out.below hal)
  have HC := Lib.hid (HC.out.below hal)
  have BL := Lib.hid (BL.out.below hal)
  have ON := Lib.hid (ON.out.below hal)
  have BA := Lib.hid (BA.out.below hal)
  have HB := Lib.hid (below_then HB.out hal)
  clear hal
  try simp only [World.size_alloc] at *
  generalize (W8.alloc (.cells #[.int .u8 97] 5 (1, 2))).alloc (.cells #[.int .i64 (j), .int .i64 (0), .slice (some ⟨W8.heap.size, 0, none⟩) 1 1] 37) = W9 at *
  have l0 := BL.out.cell 0
  have l1 := BL.out.cell 1
  have l2 := BL.out.cell 2
  have l3 := BL.out.cell 3
  have llt := BL.out.lt
  go_upto_region 14 with fail
  have hal := (Below.refl W9.heap.size W9).alloc (Nat.le_refl _) (.cells #[.int .i64 (i), .int .i64 (1), .slice none 0 0] 37)
  have BC := Lib.hid (EBox.new W9 (i) (1) none 0 0)
  clear l0 l1 l2 l3 llt
  have LL := Lib.hid (LL.out.below hal)
  have HC := Lib.hid (HC.out.below hal)
  have BL := Lib.hid (BL.out.below hal)
  have ON := Lib.hid (ON.out.below hal)
  have BA := Lib.hid (BA.out.below hal)
  have BJ := Lib.hid (BJ.out.below hal)
  have HB := Lib.hid (below_then HB.out hal)
  clear hal
  generalize W9.alloc (.cells #[.int .i64 (i), .int .i64 (1), .slice none 0 0] 37) = W10 at *
  have d1 := fun (W : World) (h : Ll W (some ⟨ob, 0, none⟩) [(i, j, s, t)]) => implLeaseBars_any (some ⟨ob, 0, none⟩) [(i, j, s, t)] 1 ot i 0 (some ⟨W7.heap.size, 0, none⟩) [97] 1 0 W (by simp) (by simp) h
  simp only [List.length_cons, List.length_nil, Nat.zero_add, B1.out] at d1
  have Hd1 := Lib.hid d1
  clear d1
  have d2 := fun (W : World) (h : Ll W (some ⟨ob, 0, none⟩) [(i, j, s, t)]) => implLeaseBars_any (some ⟨ob, 0, none⟩) [(i, j, s, t)] 1 ot j 0 (some ⟨W8.heap.size, 0, none⟩) [97] 1 0 W (by simp) (by simp) h
  simp only [List.length_cons, List.length_nil, Nat.zero_add, B2.out] at d2
  have Hd2 := Lib.hid d2
  clear d2
  have d3 := fun (W : World) (h : Ll W (some ⟨ob, 0, none⟩) [(i, j, s, t)]) => implLeaseBars_any (some ⟨ob, 0, none⟩) [(i, j, s, t)] 1 s i 1 none [] 0 0 W (by simp) (by simp) h
  simp only [List.length_cons, List.length_nil, Nat.zero_add, B3.out] at d3
  have Hd3 := Lib.hid d3
  clear d3
  have d4 := fun (W : World) (h : Ll W (some ⟨ob, 0, none⟩) [(i, j, s, t)]) => implLeaseBars_any (some ⟨ob, 0, none⟩) [(i, j, s, t)] 1 ot i 1 none [] 0 t W (by simp) (by simp) h
  simp only [List.length_cons, List.length_nil, Nat.zero_add, B4.out] at d4
  have Hd4 := Lib.hid d4
  clear d4
  have p0 := BA.out.c0
  have p1 := BA.out.c1
  have p2 := BA.out.c2
  have plt := BA.out.lt
  go_wp2_with fail
  refine (Hd1.out _ (by exact ON.out)).mono ?_
  rintro e x1 ⟨rfl, hb⟩
  have LL := Lib.hid (LL.out.below hb)
  have HC := Lib.hid (HC.out.below hb)
  have BL := Lib.hid (BL.out.below hb)
  have ON := Lib.hid (ON.out.below hb)
  have BA := Lib.hid (BA.out.below hb)
  have BJ := Lib.hid (BJ.out.below hb)
  have BC := Lib.hid (BC.out.below hb)
  have HB := Lib.hid (below_then HB.out hb)
  clear hb p0 p1 p2 plt
  have p0 := BJ.out.c0
  have p1 := BJ.out.c1
  have p2 := BJ.out.c2
  have plt := BJ.out.lt
  go_wp2_with fail
  refine (Hd2.out _ (by exact ON.out)).mono ?_
  rintro e x2 ⟨rfl, hb⟩
  have LL := Lib.hid (LL.out.below hb)
  have HC := Lib.hid (HC.out.below hb)
  have BL := Lib.hid (BL.out.below hb)
  have ON := Lib.hid (ON.out.below hb)
  have BA := Lib.hid (BA.out.below hb)
  have BJ := Lib.hid (BJ.out.below hb)
  have BC := Lib.hid (BC.out.below hb)
  have HB := Lib.hid (below_then HB.out hb)
  clear hb p0 p1 p2 plt
  have l0 := BL.out.cell 0
  have l1 := BL.out.cell 1
  have l2 := BL.out.cell 2
  have l3 := BL.out.cell 3
  have llt := BL.out.lt
  have p0 := BC.out.c0
  have p1 := BC.out.c1
  have p2 := BC.out.c2
  have plt := BC.out.lt
  go_wp2_with fail
  refine (Hd3.out _ (by exact ON.out)).mono ?_
  rintro e x3 ⟨rfl, hb⟩
  have LL := Lib.hid (LL.out.below hb)
  have HC := Lib.hid (HC.out.below hb)
  have BL := Lib.hid (BL.out.below hb)
  have ON := Lib.hid (ON.out.below hb)
  have BA := Lib.hid (BA.out.below hb)
  have BJ := Lib.hid (BJ.out.below hb)
  have BC := Lib.hid (BC.out.below hb)
  have HB := Lib.hid (below_then HB.out hb)
  clear hb p0 p1 p2 plt
  clear l0 l1 l2 l3 llt
  have l0 := BL.out.cell 0
  have l1 := BL.out.cell 1
  have l2 := BL.out.cell 2
  have l3 := BL.out.cell 3
  have llt := BL.out.lt
  have p0 := BC.out.c0
  have p1 := BC.out.c1
  have p2 := BC.out.c2
  have plt := BC.out.lt
  go_wp2_with fail
  refine (Hd4.out _ (by exact ON.out)).mono ?_
  rintro e x4 ⟨rfl, hb⟩
  have LL := Lib.hid (LL.out.below hb)
  have HC := Lib.hid (HC.out.below hb)
  have BL := Lib.hid (BL.out.below hb)
  have ON := Lib.hid (ON.out.below hb)
  have BA := Lib.hid (BA.out.below hb)
  have BJ := Lib.hid (BJ.out.below hb)
  have BC := Lib.hid (BC.out.below hb)
  have HB := Lib.hid (below_then HB.out hb)
  clear hb p0 p1 p2 plt
  clear l0 l1 l2 l3 llt
  clear BA BJ Hd1 Hd2 Hd3 Hd4
  have hm1 : IntKind.i64.wrap (i + j) = i + j := IntWalk.i64_in _ ⟨by omega, by omega⟩
  have hmq : (i + j).tdiv 2 = (i + j) / 2 := Int.tdiv_eq_ediv_of_nonneg (by omega)
  have hm2 : IntKind.i64.wrap ((i + j).tdiv 2) = (i + j).tdiv 2 := IntWalk.i64_in _ ⟨by omega, by omega⟩
  clear hmq
  have l0 := BL.out.cell 0
  have l1 := BL.out.cell 1
  have l2 := BL.out.cell 2
  have l3 := BL.out.cell 3
  have llt := BL.out.lt
  have hcv := Lib.run_convert_bytes_const (P := Try.prog) x4 33 5 #[.int .u8 97] 1 1 (by kernel_rfl) (by kernel_rfl)
  simp only [List.size_toArray, List.length_cons, List.length_nil, Nat.zero_add, Nat.reduceAdd] at hcv
  go_upto_region 17 with fail
  clear hcv
  have hal := ((Below.refl x4.heap.size x4).alloc (Nat.le_refl _) (.cells #[.int .u8 97] 5 (1, 2))).alloc (by simp) (.cells #[.int .i64 ((i + j).tdiv 2), .int .i64 (0), .slice (some ⟨x4.heap.size, 0, none⟩) 1 1] 37)
  have BM := Lib.hid (EBox.new (x4.alloc (.cells #[.int .u8 97] 5 (1, 2))) ((i + j).tdiv 2) (0) (some ⟨x4.heap.size, 0, none⟩) 1 1)
  clear l0 l1 l2 l3 llt
  have LL := Lib.hid (LL.out.below hal)
  have HC := Lib.hid (HC.out.below hal)
  have BL := Lib.hid (BL.out.below hal)
  have ON := Lib.hid (ON.out.below hal)
  have BC := Lib.hid (BC.out.below hal)
  have HB := Lib.hid (below_then HB.out hal)
  clear hal
  try simp only [World.size_alloc] at *
  generalize (x4.alloc (.cells #[.int .u8 97] 5 (1, 2))).alloc (.cells #[.int .i64 ((i + j).tdiv 2), .int .i64 (0), .slice (some ⟨x4.heap.size, 0, none⟩) 1 1] 37) = X5 at *
  clear hm1 hm2
  have d5 := fun (W : World) (h : Ll W (some ⟨ob, 0, none⟩) [(i, j, s, t)]) => implLeaseBars_any (some ⟨ob, 0, none⟩) [(i, j, s, t)] 1 ot i 1 none [] 0 (t - 1) W (by simp) (by simp) h
  simp only [List.length_cons, List.length_nil, Nat.zero_add, B5.out] at d5
  have Hd5 := Lib.hid d5
  clear d5
  have d6 := fun (W : World) (h : Ll W (some ⟨ob, 0, none⟩) [(i, j, s, t)]) => implLeaseBars_any (some ⟨ob, 0, none⟩) [(i, j, s, t)] 1 ot ((i + j).tdiv 2) 0 (some ⟨x4.heap.size, 0, none⟩) [97] 1 0 W (by simp) (by simp) h
  simp only [List.length_cons, List.length_nil, Nat.zero_add, B6.out] at d6
  have Hd6 := Lib.hid d6
  clear d6
  have hs1 : IntKind.i64.wrap (t - 1) = t - 1 := IntWalk.i64_in _ ⟨by omega, by omega⟩
  have hs2 : IntKind.i64.wrap (i + 1) = i + 1 := IntWalk.i64_in _ ⟨by omega, by omega⟩
  have l0 := BL.out.cell 0
  have l1 := BL.out.cell 1
  have l2 := BL.out.cell 2
  have l3 := BL.out.cell 3
  have llt := BL.out.lt
  have c0 := BC.out.c0
  have c1 := BC.out.c1
  have c2 := BC.out.c2
  have clt := BC.out.lt
  have y0 := BM.out.c0
  have y1 := BM.out.c1
  have y2 := BM.out.c2
  have ylt := BM.out.lt
  by_cases hij : i < j
  case neg =>
    have g1 : decide (i < j) = false := by simp; omega
    have g2 : decide (i + 1 < j) = false := by simp; omega
    have g3 : decide (j > i) = false := by simp; omega
    have g4 : decide (j > i + 1) = false := by simp; omega
    rw [g1] at Hd5
    rw [g2] at Hd6
    refine wp_region_held_drew (S := (fun V => V.cell? ⟨lb, 0, none⟩ = some (.int .i64 i) ∧ V.cell? ⟨lb, 1, none⟩ = some (.int .i64 j) ∧ V.cell? ⟨lb, 2, none⟩ = some (.int .i64 s) ∧ V.cell? ⟨lb, 3, none⟩ = some (.int .i64 t) ∧ V.cell? ⟨W9.heap.size, 0, none⟩ = some (.int .i64 i) ∧ V.cell? ⟨W9.heap.size, 1, none⟩ = some (.int .i64 1) ∧ V.cell? ⟨W9.heap.size, 2, none⟩ = some (.slice none 0 0) ∧ V.cell? ⟨x4.heap.size + 1, 0, none⟩ = some (.int .i64 ((i + j).tdiv 2)) ∧ V.cell? ⟨x4.heap.size + 1, 1, none⟩ = some (.int .i64 0) ∧ V.cell? ⟨x4.heap.size + 1, 2, none⟩ = some (.slice (some ⟨x4.heap.size, 0, none⟩) 1 1))) (by kernel_rfl) (by exact ⟨l0, l1, l2, l3, c0, c1, c2, y0, y1, y2⟩) (fun hHeld => ?_)
    refine wpAnyH_take (i := 0) (oi := ?_) (v := ?_) ?_ ?_ ?_ ?_ ?_ ?_ (by exact hHeld) ?_
    rotate_left 2
    · (simp only [List.getElem?_toArray, List.getElem?_cons_zero]; try rfl)
    · kernel_rfl
    · kernel_rfl
    · kernel_rfl
    · exact fun _ _ _ h => h
    · refine Or.inl ⟨by rfl, ?_⟩
      (intro V hSV; (try dsimp only at hSV); obtain ⟨q0, q1, q2, q3, q4, q5, q6, q7, q8, q9⟩ := hSV; go_simp; try with_reducible rfl)
    (try simp only [Act.put, List.setIfInBounds_toArray, List.set_cons_zero, List.set_cons_succ])
    refine wpAnyH_take (i := 1) (oi := ?_) (v := ?_) ?_ ?_ ?_ ?_ ?_ ?_ (by exact hHeld) ?_
    rotate_left 2
    · (simp only [List.getElem?_toArray, List.getElem?_cons_zero, List.getElem?_cons_succ]; try rfl)
    · kernel_rfl
    · kernel_rfl
    · kernel_rfl
    · exact fun _ _ _ h => h
    · refine Or.inl ⟨by rfl, ?_⟩
      (intro V hSV; (try dsimp only at hSV); obtain ⟨q0, q1, q2, q3, q4, q5, q6, q7, q8, q9⟩ := hSV; go_simp; try with_reducible rfl)
    (try simp only [Act.put, List.setIfInBounds_toArray, List.set_cons_zero, List.set_cons_succ])
    refine wpAnyH_take (i := 2) (oi := ?_) (v := ?_) ?_ ?_ ?_ ?_ ?_ ?_ (by exact hHeld) ?_
    rotate_left 2
    · (simp only [List.getElem?_toArray, List.getElem?_cons_zero, List.getElem?_cons_succ]; try rfl)
    · kernel_rfl
    · kernel_rfl
    · kernel_rfl
    · exact fun _ _ _ h => h
    · refine Or.inl ⟨by rfl, ?_⟩
      (intro V hSV; (try dsimp only at hSV); obtain ⟨q0, q1, q2, q3, q4, q5, q6, q7, q8, q9⟩ := hSV; go_simp; try with_reducible rfl)
    (try simp only [Act.put, List.setIfInBounds_toArray, List.set_cons_zero, List.set_cons_succ])
    refine wpAnyH_take (i := 3) (oi := ?_) (v := ?_) ?_ ?_ ?_ ?_ ?_ ?_ (by exact hHeld) ?_
    rotate_left 2
    · (simp only [List.getElem?_toArray, List.getElem?_cons_zero, List.getElem?_cons_succ]; try rfl)
    · kernel_rfl
    · kernel_rfl
    · kernel_rfl
    · exact fun _ _ _ h => h
    · refine Or.inl ⟨by rfl, ?_⟩
      (intro V hSV; (try dsimp only at hSV); obtain ⟨q0, q1, q2, q3, q4, q5, q6, q7, q8, q9⟩ := hSV; go_simp; try with_reducible rfl)
    (try simp only [Act.put, List.setIfInBounds_toArray, List.set_cons_zero, List.set_cons_succ])
    refine wpAnyH_take (i := 4) (oi := ?_) (v := ?_) ?_ ?_ ?_ ?_ ?_ ?_ (by exact hHeld) ?_
    rotate_left 2
    · (simp only [List.getElem?_toArray, List.getElem?_cons_zero, List.getElem?_cons_succ]; try rfl)
    · kernel_rfl
    · kernel_rfl
    · kernel_rfl
    · exact fun _ _ _ h => h
    · refine Or.inl ⟨by rfl, ?_⟩
      (intro V hSV; (try dsimp only at hSV); obtain ⟨q0, q1, q2, q3, q4, q5, q6, q7, q8, q9⟩ := hSV; go_simp; try with_reducible rfl)
    (try simp only [Act.put, List.setIfInBounds_toArray, List.set_cons_zero, List.set_cons_succ])
    refine wpAnyH_take (i := 5) (oi := ?_) (v := ?_) ?_ ?_ ?_ ?_ ?_ ?_ (by exact hHeld) ?_
    rotate_left 2
    · (simp only [List.getElem?_toArray, List.getElem?_cons_zero, List.getElem?_cons_succ]; try rfl)
    · kernel_rfl
    · kernel_rfl
    · kernel_rfl
    · exact fun _ _ _ h => h
    · refine Or.inl ⟨by rfl, ?_⟩
      (intro V hSV; (try dsimp only at hSV); obtain ⟨q0, q1, q2, q3, q4, q5, q6, q7, q8, q9⟩ := hSV; go_simp; try with_reducible rfl)
    (try simp only [Act.put, List.setIfInBounds_toArray, List.set_cons_zero, List.set_cons_succ])
    refine wpAnyH_take (i := 7) (oi := ?_) (v := ?_) ?_ ?_ ?_ ?_ ?_ ?_ (by exact hHeld) ?_
    rotate_left 2
    · (simp only [List.getElem?_toArray, List.getElem?_cons_zero, List.getElem?_cons_succ]; try rfl)
    · kernel_rfl
    · kernel_rfl
    · kernel_rfl
    · exact fun _ _ _ h => h
    · refine Or.inl ⟨by rfl, ?_⟩
      (intro V hSV; (try dsimp only at hSV); obtain ⟨q0, q1, q2, q3, q4, q5, q6, q7, q8, q9⟩ := hSV; go_simp; try with_reducible rfl)
    (try simp only [Act.put, List.setIfInBounds_toArray, List.set_cons_zero, List.set_cons_succ])
    refine wpAnyH_take (i := 8) (oi := ?_) (v := ?_) ?_ ?_ ?_ ?_ ?_ ?_ (by exact hHeld) ?_
    rotate_left 2
    · (simp only [List.getElem?_toArray, List.getElem?_cons_zero, List.getElem?_cons_succ]; try rfl)
    · kernel_rfl
    · kernel_rfl
    · kernel_rfl
    · exact fun _ _ _ h => h
    · refine Or.inl ⟨by rfl, ?_⟩
      (intro V hSV; (try dsimp only at hSV); obtain ⟨q0, q1, q2, q3, q4, q5, q6, q7, q8, q9⟩ := hSV; go_simp; try with_reducible rfl)
    (try simp only [Act.put, List.setIfInBounds_toArray, List.set_cons_zero, List.set_cons_succ])
    refine wpAnyH_take (i := 9) (oi := ?_) (v := ?_) ?_ ?_ ?_ ?_ ?_ ?_ (by exact hHeld) ?_
    rotate_left 2
    · (simp only [List.getElem?_toArray, List.getElem?_cons_zero, List.getElem?_cons_succ]; try rfl)
    · kernel_rfl
    · kernel_rfl
    · kernel_rfl
    · exact fun _ _ _ h => h
    · refine Or.inl ⟨by rfl, ?_⟩
      (intro V hSV; (try dsimp only at hSV); obtain ⟨q0, q1, q2, q3, q4, q5, q6, q7, q8, q9⟩ := hSV; go_simp; try with_reducible rfl)
    (try simp only [Act.put, List.setIfInBounds_toArray, List.set_cons_zero, List.set_cons_succ])
    refine wpAnyH_take (i := 10) (oi := ?_) (v := ?_) ?_ ?_ ?_ ?_ ?_ ?_ (by exact hHeld) ?_
    rotate_left 2
    · (simp only [List.getElem?_toArray, List.getElem?_cons_zero, List.getElem?_cons_succ]; try rfl)
    · kernel_rfl
    · kernel_rfl
    · kernel_rfl
    · exact fun _ _ _ h => h
    · refine Or.inl ⟨by rfl, ?_⟩
      (intro V hSV; (try dsimp only at hSV); obtain ⟨q0, q1, q2, q3, q4, q5, q6, q7, q8, q9⟩ := hSV; go_simp; try with_reducible rfl)
    (try simp only [Act.put, List.setIfInBounds_toArray, List.set_cons_zero, List.set_cons_succ])
    refine wpAnyH_take (i := 11) (oi := ?_) (v := ?_) ?_ ?_ ?_ ?_ ?_ ?_ (by exact hHeld) ?_
    rotate_left 2
    · (simp only [List.getElem?_toArray, List.getElem?_cons_zero, List.getElem?_cons_succ]; try rfl)
    · kernel_rfl
    · kernel_rfl
    · kernel_rfl
    · exact fun _ _ _ h => h
    · refine Or.inl ⟨by rfl, ?_⟩
      (intro V hSV; (try dsimp only at hSV); obtain ⟨q0, q1, q2, q3, q4, q5, q6, q7, q8, q9⟩ := hSV; go_simp; try with_reducible rfl)
    (try simp only [Act.put, List.setIfInBounds_toArray, List.set_cons_zero, List.set_cons_succ])
    refine wpAnyH_ready (rs := [6]) (by kernel_rfl) (by simp) ?_
    refine AllReadyH.cons rfl (fun K hK => ?_) AllReadyH.nil
    go_simp
    refine (Hd5.out _ (by exact ON.out)).mono ?_
    rintro e u1 ⟨rfl, hb⟩
    have hb : Below X5.heap.size X5 u1 := ⟨hb.os, hb.tape, hb.output, hb.size, hb.block⟩
    have H1 := Lib.hid hb
    clear hb
    go_wp2_with fail
    refine hK.out _ _ (by exact ⟨((H1.out).cell (p := ⟨lb, 0, none⟩) llt).trans l0, ((H1.out).cell (p := ⟨lb, 1, none⟩) llt).trans l1, ((H1.out).cell (p := ⟨lb, 2, none⟩) llt).trans l2, ((H1.out).cell (p := ⟨lb, 3, none⟩) llt).trans l3, ((H1.out).cell (p := ⟨W9.heap.size, 0, none⟩) clt).trans c0, ((H1.out).cell (p := ⟨W9.heap.size, 1, none⟩) clt).trans c1, ((H1.out).cell (p := ⟨W9.heap.size, 2, none⟩) clt).trans c2, ((H1.out).cell (p := ⟨x4.heap.size + 1, 0, none⟩) ylt).trans y0, ((H1.out).cell (p := ⟨x4.heap.size + 1, 1, none⟩) ylt).trans y1, ((H1.out).cell (p := ⟨x4.heap.size + 1, 2, none⟩) ylt).trans y2⟩) (fun hHeld => ?_)
    clear hK K
    (try simp only [Act.put, List.setIfInBounds_toArray, List.set_cons_zero, List.set_cons_succ])
    refine wpAnyH_take (i := 12) (oi := ?_) (v := ?_) ?_ ?_ ?_ ?_ ?_ ?_ (by exact hHeld) ?_
    rotate_left 2
    · (simp only [List.getElem?_toArray, List.getElem?_cons_zero, List.getElem?_cons_succ]; try rfl)
    · kernel_rfl
    · kernel_rfl
    · kernel_rfl
    · exact fun _ _ _ h => h
    · refine Or.inl ⟨by rfl, ?_⟩
      (intro V hSV; (try dsimp only at hSV); obtain ⟨q0, q1, q2, q3, q4, q5, q6, q7, q8, q9⟩ := hSV; go_simp; try with_reducible rfl)
    (try simp only [Act.put, List.setIfInBounds_toArray, List.set_cons_zero, List.set_cons_succ])
    refine wpAnyH_take (i := 13) (oi := ?_) (v := ?_) ?_ ?_ ?_ ?_ ?_ ?_ (by exact hHeld) ?_
    rotate_left 2
    · (simp only [List.getElem?_toArray, List.getElem?_cons_zero, List.getElem?_cons_succ]; try rfl)
    · kernel_rfl
    · kernel_rfl
    · kernel_rfl
    · exact fun _ _ _ h => h
    · refine Or.inl ⟨by rfl, ?_⟩
      (intro V hSV; (try dsimp only at hSV); obtain ⟨q0, q1, q2, q3, q4, q5, q6, q7, q8, q9⟩ := hSV; go_simp; try with_reducible rfl)
    (try simp only [Act.put, List.setIfInBounds_toArray, List.set_cons_zero, List.set_cons_succ])
    refine wpAnyH_take (i := 14) (oi := ?_) (v := ?_) ?_ ?_ ?_ ?_ ?_ ?_ (by exact hHeld) ?_
    rotate_left 2
    · (simp only [List.getElem?_toArray, List.getElem?_cons_zero, List.getElem?_cons_succ]; try rfl)
    · kernel_rfl
    · kernel_rfl
    · kernel_rfl
    · exact fun _ _ _ h => h
    · refine Or.inl ⟨by rfl, ?_⟩
      (intro V hSV; (try dsimp only at hSV); obtain ⟨q0, q1, q2, q3, q4, q5, q6, q7, q8, q9⟩ := hSV; go_simp; try with_reducible rfl)
    (try simp only [Act.put, List.setIfInBounds_toArray, List.set_cons_zero, List.set_cons_succ])
    refine wpAnyH_take (i := 15) (oi := ?_) (v := ?_) ?_ ?_ ?_ ?_ ?_ ?_ (by exact hHeld) ?_
    rotate_left 2
    · (simp only [List.getElem?_toArray, List.getElem?_cons_zero, List.getElem?_cons_succ]; try rfl)
    · kernel_rfl
    · kernel_rfl
    · kernel_rfl
    · exact fun _ _ _ h => h
    · refine Or.inl ⟨by rfl, ?_⟩
      (intro V hSV; (try dsimp only at hSV); obtain ⟨q0, q1, q2, q3, q4, q5, q6, q7, q8, q9⟩ := hSV; go_simp; try with_reducible rfl)
    (try simp only [Act.put, List.setIfInBounds_toArray, List.set_cons_zero, List.set_cons_succ])
    refine wpAnyH_take (i := 16) (oi := ?_) (v := ?_) ?_ ?_ ?_ ?_ ?_ ?_ (by exact hHeld) ?_
    rotate_left 2
    · (simp only [List.getElem?_toArray, List.getElem?_cons_zero, List.getElem?_cons_succ]; try rfl)
    · kernel_rfl
    · kernel_rfl
    · kernel_rfl
    · exact fun _ _ _ h => h
    · refine Or.inl ⟨by rfl, ?_⟩
      (intro V hSV; (try dsimp only at hSV); obtain ⟨q0, q1, q2, q3, q4, q5, q6, q7, q8, q9⟩ := hSV; go_simp; try with_reducible rfl)
    (try simp only [Act.put, List.setIfInBounds_toArray, List.set_cons_zero, List.set_cons_succ])
    refine wpAnyH_take (i := 18) (oi := ?_) (v := ?_) ?_ ?_ ?_ ?_ ?_ ?_ (by exact hHeld) ?_
    rotate_left 2
    · (simp only [List.getElem?_toArray, List.getElem?_cons_zero, List.getElem?_cons_succ]; try rfl)
    · kernel_rfl
    · kernel_rfl
    · kernel_rfl
    · exact fun _ _ _ h => h
    · refine Or.inl ⟨by rfl, ?_⟩
      (intro V hSV; (try dsimp only at hSV); obtain ⟨q0, q1, q2, q3, q4, q5, q6, q7, q8, q9⟩ := hSV; go_simp; try with_reducible rfl)
    (try simp only [Act.put, List.setIfInBounds_toArray, List.set_cons_zero, List.set_cons_succ])
    refine wpAnyH_take (i := 19) (oi := ?_) (v := ?_) ?_ ?_ ?_ ?_ ?_ ?_ (by exact hHeld) ?_
    rotate_left 2
    · (simp only [List.getElem?_toArray, List.getElem?_cons_zero, List.getElem?_cons_succ]; try rfl)
    · kernel_rfl
    · kernel_rfl
    · kernel_rfl
    · exact fun _ _ _ h => h
    · refine Or.inl ⟨by rfl, ?_⟩
      (intro V hSV; (try dsimp only at hSV); obtain ⟨q0, q1, q2, q3, q4, q5, q6, q7, q8, q9⟩ := hSV; go_simp; try with_reducible rfl)
    (try simp only [Act.put, List.setIfInBounds_toArray, List.set_cons_zero, List.set_cons_succ])
    refine wpAnyH_take (i := 20) (oi := ?_) (v := ?_) ?_ ?_ ?_ ?_ ?_ ?_ (by exact hHeld) ?_
    rotate_left 2
    · (simp only [List.getElem?_toArray, List.getElem?_cons_zero, List.getElem?_cons_succ]; try rfl)
    · kernel_rfl
    · kernel_rfl
    · kernel_rfl
    · exact fun _ _ _ h => h
    · refine Or.inl ⟨by rfl, ?_⟩
      (intro V hSV; (try dsimp only at hSV); obtain ⟨q0, q1, q2, q3, q4, q5, q6, q7, q8, q9⟩ := hSV; go_simp; try with_reducible rfl)
    (try simp only [Act.put, List.setIfInBounds_toArray, List.set_cons_zero, List.set_cons_succ])
    refine wpAnyH_take (i := 21) (oi := ?_) (v := ?_) ?_ ?_ ?_ ?_ ?_ ?_ (by exact hHeld) ?_
    rotate_left 2
    · (simp only [List.getElem?_toArray, List.getElem?_cons_zero, List.getElem?_cons_succ]; try rfl)
    · kernel_rfl
    · kernel_rfl
    · kernel_rfl
    · exact fun _ _ _ h => h
    · refine Or.inl ⟨by rfl, ?_⟩
      (intro V hSV; (try dsimp only at hSV); obtain ⟨q0, q1, q2, q3, q4, q5, q6, q7, q8, q9⟩ := hSV; go_simp; try with_reducible rfl)
    (try simp only [Act.put, List.setIfInBounds_toArray, List.set_cons_zero, List.set_cons_succ])
    refine wpAnyH_take (i := 22) (oi := ?_) (v := ?_) ?_ ?_ ?_ ?_ ?_ ?_ (by exact hHeld) ?_
    rotate_left 2
    · (simp only [List.getElem?_toArray, List.getElem?_cons_zero, List.getElem?_cons_succ]; try rfl)
    · kernel_rfl
    · kernel_rfl
    · kernel_rfl
    · exact fun _ _ _ h => h
    · refine Or.inl ⟨by rfl, ?_⟩
      (intro V hSV; (try dsimp only at hSV); obtain ⟨q0, q1, q2, q3, q4, q5, q6, q7, q8, q9⟩ := hSV; go_simp; try with_reducible rfl)
    (try simp only [Act.put, List.setIfInBounds_toArray, List.set_cons_zero, List.set_cons_succ])
    refine wpAnyH_take (i := 23) (oi := ?_) (v := ?_) ?_ ?_ ?_ ?_ ?_ ?_ (by exact hHeld) ?_
    rotate_left 2
    · (simp only [List.getElem?_toArray, List.getElem?_cons_zero, List.getElem?_cons_succ]; try rfl)
    · kernel_rfl
    · kernel_rfl
    · kernel_rfl
    · exact fun _ _ _ h => h
    · refine Or.inl ⟨by rfl, ?_⟩
      (intro V hSV; (try dsimp only at hSV); obtain ⟨q0, q1, q2, q3, q4, q5, q6, q7, q8, q9⟩ := hSV; go_simp; try with_reducible rfl)
    (try simp only [Act.put, List.setIfInBounds_toArray, List.set_cons_zero, List.set_cons_succ])
    refine wpAnyH_ready (rs := [17]) (by kernel_rfl) (by simp) ?_
    refine AllReadyH.cons rfl (fun K hK => ?_) AllReadyH.nil
    go_simp
    refine (Hd6.out _ (by exact ON.out.below H1.out)).mono ?_
    rintro e u2 ⟨rfl, hb⟩
    have hb : Below u1.heap.size u1 u2 := ⟨hb.os, hb.tape, hb.output, hb.size, hb.block⟩
    have H2 := Lib.hid (below_then H1.out hb)
    clear hb
    go_wp2_with fail
    refine hK.out _ _ (by exact ⟨((H2.out).cell (p := ⟨lb, 0, none⟩) llt).trans l0, ((H2.out).cell (p := ⟨lb, 1, none⟩) llt).trans l1, ((H2.out).cell (p := ⟨lb, 2, none⟩) llt).trans l2, ((H2.out).cell (p := ⟨lb, 3, none⟩) llt).trans l3, ((H2.out).cell (p := ⟨W9.heap.size, 0, none⟩) clt).trans c0, ((H2.out).cell (p := ⟨W9.heap.size, 1, none⟩) clt).trans c1, ((H2.out).cell (p := ⟨W9.heap.size, 2, none⟩) clt).trans c2, ((H2.out).cell (p := ⟨x4.heap.size + 1, 0, none⟩) ylt).trans y0, ((H2.out).cell (p := ⟨x4.heap.size + 1, 1, none⟩) ylt).trans y1, ((H2.out).cell (p := ⟨x4.heap.size + 1, 2, none⟩) ylt).trans y2⟩) (fun hHeld => ?_)
    clear hK K
    (try simp only [Act.put, List.setIfInBounds_toArray, List.set_cons_zero, List.set_cons_succ])
    refine wpAnyH_take (i := 24) (oi := ?_) (v := ?_) ?_ ?_ ?_ ?_ ?_ ?_ (by exact hHeld) ?_
    rotate_left 2
    · (simp only [List.getElem?_toArray, List.getElem?_cons_zero, List.getElem?_cons_succ]; try rfl)
    · kernel_rfl
    · kernel_rfl
    · kernel_rfl
    · exact fun _ _ _ h => h
    · refine Or.inl ⟨by rfl, ?_⟩
      (intro V hSV; (try dsimp only at hSV); obtain ⟨q0, q1, q2, q3, q4, q5, q6, q7, q8, q9⟩ := hSV; go_simp; try with_reducible rfl)
    (try simp only [Act.put, List.setIfInBounds_toArray, List.set_cons_zero, List.set_cons_succ])
    refine wpAnyH_take (i := 25) (oi := ?_) (v := ?_) ?_ ?_ ?_ ?_ ?_ ?_ (by exact hHeld) ?_
    rotate_left 2
    · (simp only [List.getElem?_toArray, List.getElem?_cons_zero, List.getElem?_cons_succ]; try rfl)
    · kernel_rfl
    · kernel_rfl
    · kernel_rfl
    · exact fun _ _ _ h => h
    · refine Or.inl ⟨by rfl, ?_⟩
      (intro V hSV; (try dsimp only at hSV); obtain ⟨q0, q1, q2, q3, q4, q5, q6, q7, q8, q9⟩ := hSV; go_simp; try with_reducible rfl)
    (try simp only [Act.put, List.setIfInBounds_toArray, List.set_cons_zero, List.set_cons_succ])
    refine wpAnyH_take (i := 26) (oi := ?_) (v := ?_) ?_ ?_ ?_ ?_ ?_ ?_ (by exact hHeld) ?_
    rotate_left 2
    · (simp only [List.getElem?_toArray, List.getElem?_cons_zero, List.getElem?_cons_succ]; try rfl)
    · kernel_rfl
    · kernel_rfl
    · kernel_rfl
    · exact fun _ _ _ h => h
    · refine Or.inl ⟨by rfl, ?_⟩
      (intro V hSV; (try dsimp only at hSV); obtain ⟨q0, q1, q2, q3, q4, q5, q6, q7, q8, q9⟩ := hSV; go_simp; try with_reducible rfl)
    (try simp only [Act.put, List.setIfInBounds_toArray, List.set_cons_zero, List.set_cons_succ])
    refine wpAnyH_done (by kernel_rfl) ?_ _
    clear hHeld l0 l1 l2 l3 c0 c1 c2 y0 y1 y2
    go_wp2
    have HB := Lib.hid (below_then HB.out H2.out)
    go_ret
    exact ⟨rfl, HB.out⟩
  by_cases hij2 : i + 1 < j
  case neg =>
    have g1 : decide (i < j) = true := by simp; omega
    have g2 : decide (i + 1 < j) = false := by simp; omega
    have g3 : decide (j > i) = true := by simp; omega
    have g4 : decide (j > i + 1) = false := by simp; omega
    rw [g1] at Hd5
    rw [g2] at Hd6
    refine wp_region_held_drew (S := (fun V => V.cell? ⟨lb, 0, none⟩ = some (.int .i64 i) ∧ V.cell? ⟨lb, 1, none⟩ = some (.int .i64 j) ∧ V.cell? ⟨lb, 2, none⟩ = some (.int .i64 s) ∧ V.cell? ⟨lb, 3, none⟩ = some (.int .i64 t) ∧ V.cell? ⟨W9.heap.size, 0, none⟩ = some (.int .i64 i) ∧ V.cell? ⟨W9.heap.size, 1, none⟩ = some (.int .i64 1) ∧ V.cell? ⟨W9.heap.size, 2, none⟩ = some (.slice none 0 0) ∧ V.cell? ⟨x4.heap.size + 1, 0, none⟩ = some (.int .i64 ((i + j).tdiv 2)) ∧ V.cell? ⟨x4.heap.size + 1, 1, none⟩ = some (.int .i64 0) ∧ V.cell? ⟨x4.heap.size + 1, 2, none⟩ = some (.slice (some ⟨x4.heap.size, 0, none⟩) 1 1))) (by kernel_rfl) (by exact ⟨l0, l1, l2, l3, c0, c1, c2, y0, y1, y2⟩) (fun hHeld => ?_)
    refine wpAnyH_take (i := 0) (oi := ?_) (v := ?_) ?_ ?_ ?_ ?_ ?_ ?_ (by exact hHeld) ?_
    rotate_left 2
    · (simp only [List.getElem?_toArray, List.getElem?_cons_zero]; try rfl)
    · kernel_rfl
    · kernel_rfl
    · kernel_rfl
    · exact fun _ _ _ h => h
    · refine Or.inl ⟨by rfl, ?_⟩
      (intro V hSV; (try dsimp only at hSV); obtain ⟨q0, q1, q2, q3, q4, q5, q6, q7, q8, q9⟩ := hSV; go_simp; try with_reducible rfl)
    (try simp only [Act.put, List.setIfInBounds_toArray, List.set_cons_zero, List.set_cons_succ])
    refine wpAnyH_take (i := 1) (oi := ?_) (v := ?_) ?_ ?_ ?_ ?_ ?_ ?_ (by exact hHeld) ?_
    rotate_left 2
    · (simp only [List.getElem?_toArray, List.getElem?_cons_zero, List.getElem?_cons_succ]; try rfl)
    · kernel_rfl
    · kernel_rfl
    · kernel_rfl
    · exact fun _ _ _ h => h
    · refine Or.inl ⟨by rfl, ?_⟩
      (intro V hSV; (try dsimp only at hSV); obtain ⟨q0, q1, q2, q3, q4, q5, q6, q7, q8, q9⟩ := hSV; go_simp; try with_reducible rfl)
    (try simp only [Act.put, List.setIfInBounds_toArray, List.set_cons_zero, List.set_cons_succ])
    refine wpAnyH_take (i := 2) (oi := ?_) (v := ?_) ?_ ?_ ?_ ?_ ?_ ?_ (by exact hHeld) ?_
    rotate_left 2
    · (simp only [List.getElem?_toArray, List.getElem?_cons_zero, List.getElem?_cons_succ]; try rfl)
    · kernel_rfl
    · kernel_rfl
    · kernel_rfl
    · exact fun _ _ _ h => h
    · refine Or.inl ⟨by rfl, ?_⟩
      (intro V hSV; (try dsimp only at hSV); obtain ⟨q0, q1, q2, q3, q4, q5, q6, q7, q8, q9⟩ := hSV; go_simp; try with_reducible rfl)
    (try simp only [Act.put, List.setIfInBounds_toArray, List.set_cons_zero, List.set_cons_succ])
    refine wpAnyH_take (i := 3) (oi := ?_) (v := ?_) ?_ ?_ ?_ ?_ ?_ ?_ (by exact hHeld) ?_
    rotate_left 2
    · (simp only [List.getElem?_toArray, List.getElem?_cons_zero, List.getElem?_cons_succ]; try rfl)
    · kernel_rfl
    · kernel_rfl
    · kernel_rfl
    · exact fun _ _ _ h => h
    · refine Or.inl ⟨by rfl, ?_⟩
      (intro V hSV; (try dsimp only at hSV); obtain ⟨q0, q1, q2, q3, q4, q5, q6, q7, q8, q9⟩ := hSV; go_simp; try with_reducible rfl)
    (try simp only [Act.put, List.setIfInBounds_toArray, List.set_cons_zero, List.set_cons_succ])
    refine wpAnyH_take (i := 4) (oi := ?_) (v := ?_) ?_ ?_ ?_ ?_ ?_ ?_ (by exact hHeld) ?_
    rotate_left 2
    · (simp only [List.getElem?_toArray, List.getElem?_cons_zero, List.getElem?_cons_succ]; try rfl)
    · kernel_rfl
    · kernel_rfl
    · kernel_rfl
    · exact fun _ _ _ h => h
    · refine Or.inl ⟨by rfl, ?_⟩
      (intro V hSV; (try dsimp only at hSV); obtain ⟨q0, q1, q2, q3, q4, q5, q6, q7, q8, q9⟩ := hSV; go_simp; try with_reducible rfl)
    (try simp only [Act.put, List.setIfInBounds_toArray, List.set_cons_zero, List.set_cons_succ])
    refine wpAnyH_take (i := 5) (oi := ?_) (v := ?_) ?_ ?_ ?_ ?_ ?_ ?_ (by exact hHeld) ?_
    rotate_left 2
    · (simp only [List.getElem?_toArray, List.getElem?_cons_zero, List.getElem?_cons_succ]; try rfl)
    · kernel_rfl
    · kernel_rfl
    · kernel_rfl
    · exact fun _ _ _ h => h
    · refine Or.inl ⟨by rfl, ?_⟩
      (intro V hSV; (try dsimp only at hSV); obtain ⟨q0, q1, q2, q3, q4, q5, q6, q7, q8, q9⟩ := hSV; go_simp; try with_reducible rfl)
    (try simp only [Act.put, List.setIfInBounds_toArray, List.set_cons_zero, List.set_cons_succ])
    refine wpAnyH_take (i := 7) (oi := ?_) (v := ?_) ?_ ?_ ?_ ?_ ?_ ?_ (by exact hHeld) ?_
    rotate_left 2
    · (simp only [List.getElem?_toArray, List.getElem?_cons_zero, List.getElem?_cons_succ]; try rfl)
    · kernel_rfl
    · kernel_rfl
    · kernel_rfl
    · exact fun _ _ _ h => h
    · refine Or.inl ⟨by rfl, ?_⟩
      (intro V hSV; (try dsimp only at hSV); obtain ⟨q0, q1, q2, q3, q4, q5, q6, q7, q8, q9⟩ := hSV; go_simp; try with_reducible rfl)
    (try simp only [Act.put, List.setIfInBounds_toArray, List.set_cons_zero, List.set_cons_succ])
    refine wpAnyH_take (i := 8) (oi := ?_) (v := ?_) ?_ ?_ ?_ ?_ ?_ ?_ (by exact hHeld) ?_
    rotate_left 2
    · (simp only [List.getElem?_toArray, List.getElem?_cons_zero, List.getElem?_cons_succ]; try rfl)
    · kernel_rfl
    · kernel_rfl
    · kernel_rfl
    · exact fun _ _ _ h => h
    · refine Or.inl ⟨by rfl, ?_⟩
      (intro V hSV; (try dsimp only at hSV); obtain ⟨q0, q1, q2, q3, q4, q5, q6, q7, q8, q9⟩ := hSV; go_simp; try with_reducible rfl)
    (try simp only [Act.put, List.setIfInBounds_toArray, List.set_cons_zero, List.set_cons_succ])
    refine wpAnyH_take (i := 9) (oi := ?_) (v := ?_) ?_ ?_ ?_ ?_ ?_ ?_ (by exact hHeld) ?_
    rotate_left 2
    · (simp only [List.getElem?_toArray, List.getElem?_cons_zero, List.getElem?_cons_succ]; try rfl)
    · kernel_rfl
    · kernel_rfl
    · kernel_rfl
    · exact fun _ _ _ h => h
    · refine Or.inl ⟨by rfl, ?_⟩
      (intro V hSV; (try dsimp only at hSV); obtain ⟨q0, q1, q2, q3, q4, q5, q6, q7, q8, q9⟩ := hSV; go_simp; try with_reducible rfl)
    (try simp only [Act.put, List.setIfInBounds_toArray, List.set_cons_zero, List.set_cons_succ])
    refine wpAnyH_take (i := 10) (oi := ?_) (v := ?_) ?_ ?_ ?_ ?_ ?_ ?_ (by exact hHeld) ?_
    rotate_left 2
    · (simp only [List.getElem?_toArray, List.getElem?_cons_zero, List.getElem?_cons_succ]; try rfl)
    · kernel_rfl
    · kernel_rfl
    · kernel_rfl
    · exact fun _ _ _ h => h
    · refine Or.inl ⟨by rfl, ?_⟩
      (intro V hSV; (try dsimp only at hSV); obtain ⟨q0, q1, q2, q3, q4, q5, q6, q7, q8, q9⟩ := hSV; go_simp; try with_reducible rfl)
    (try simp only [Act.put, List.setIfInBounds_toArray, List.set_cons_zero, List.set_cons_succ])
    refine wpAnyH_take (i := 11) (oi := ?_) (v := ?_) ?_ ?_ ?_ ?_ ?_ ?_ (by exact hHeld) ?_
    rotate_left 2
    · (simp only [List.getElem?_toArray, List.getElem?_cons_zero, List.getElem?_cons_succ]; try rfl)
    · kernel_rfl
    · kernel_rfl
    · kernel_rfl
    · exact fun _ _ _ h => h
    · refine Or.inl ⟨by rfl, ?_⟩
      (intro V hSV; (try dsimp only at hSV); obtain ⟨q0, q1, q2, q3, q4, q5, q6, q7, q8, q9⟩ := hSV; go_simp; try with_reducible rfl)
    (try simp only [Act.put, List.setIfInBounds_toArray, List.set_cons_zero, List.set_cons_succ])
    refine wpAnyH_ready (rs := [6]) (by kernel_rfl) (by simp) ?_
    refine AllReadyH.cons rfl (fun K hK => ?_) AllReadyH.nil
    go_simp
    refine (Hd5.out _ (by exact ON.out)).mono ?_
    rintro e u1 ⟨rfl, hb⟩
    have hb : Below X5.heap.size X5 u1 := ⟨hb.os, hb.tape, hb.output, hb.size, hb.block⟩
    have H1 := Lib.hid hb
    clear hb
    go_wp2_with fail
    refine hK.out _ _ (by exact ⟨((H1.out).cell (p := ⟨lb, 0, none⟩) llt).trans l0, ((H1.out).cell (p := ⟨lb, 1, none⟩) llt).trans l1, ((H1.out).cell (p := ⟨lb, 2, none⟩) llt).trans l2, ((H1.out).cell (p := ⟨lb, 3, none⟩) llt).trans l3, ((H1.out).cell (p := ⟨W9.heap.size, 0, none⟩) clt).trans c0, ((H1.out).cell (p := ⟨W9.heap.size, 1, none⟩) clt).trans c1, ((H1.out).cell (p := ⟨W9.heap.size, 2, none⟩) clt).trans c2, ((H1.out).cell (p := ⟨x4.heap.size + 1, 0, none⟩) ylt).trans y0, ((H1.out).cell (p := ⟨x4.heap.size + 1, 1, none⟩) ylt).trans y1, ((H1.out).cell (p := ⟨x4.heap.size + 1, 2, none⟩) ylt).trans y2⟩) (fun hHeld => ?_)
    clear hK K
    (try simp only [Act.put, List.setIfInBounds_toArray, List.set_cons_zero, List.set_cons_succ])
    refine wpAnyH_take (i := 12) (oi := ?_) (v := ?_) ?_ ?_ ?_ ?_ ?_ ?_ (by exact hHeld) ?_
    rotate_left 2
    · (simp only [List.getElem?_toArray, List.getElem?_cons_zero, List.getElem?_cons_succ]; try rfl)
    · kernel_rfl
    · kernel_rfl
    · kernel_rfl
    · exact fun _ _ _ h => h
    · refine Or.inl ⟨by rfl, ?_⟩
      (intro V hSV; (try dsimp only at hSV); obtain ⟨q0, q1, q2, q3, q4, q5, q6, q7, q8, q9⟩ := hSV; go_simp; try with_reducible rfl)
    (try simp only [Act.put, List.setIfInBounds_toArray, List.set_cons_zero, List.set_cons_succ])
    refine wpAnyH_take (i := 13) (oi := ?_) (v := ?_) ?_ ?_ ?_ ?_ ?_ ?_ (by exact hHeld) ?_
    rotate_left 2
    · (simp only [List.getElem?_toArray, List.getElem?_cons_zero, List.getElem?_cons_succ]; try rfl)
    · kernel_rfl
    · kernel_rfl
    · kernel_rfl
    · exact fun _ _ _ h => h
    · refine Or.inl ⟨by rfl, ?_⟩
      (intro V hSV; (try dsimp only at hSV); obtain ⟨q0, q1, q2, q3, q4, q5, q6, q7, q8, q9⟩ := hSV; go_simp; try with_reducible rfl)
    (try simp only [Act.put, List.setIfInBounds_toArray, List.set_cons_zero, List.set_cons_succ])
    refine wpAnyH_take (i := 14) (oi := ?_) (v := ?_) ?_ ?_ ?_ ?_ ?_ ?_ (by exact hHeld) ?_
    rotate_left 2
    · (simp only [List.getElem?_toArray, List.getElem?_cons_zero, List.getElem?_cons_succ]; try rfl)
    · kernel_rfl
    · kernel_rfl
    · kernel_rfl
    · exact fun _ _ _ h => h
    · refine Or.inl ⟨by rfl, ?_⟩
      (intro V hSV; (try dsimp only at hSV); obtain ⟨q0, q1, q2, q3, q4, q5, q6, q7, q8, q9⟩ := hSV; go_simp; try with_reducible rfl)
    (try simp only [Act.put, List.setIfInBounds_toArray, List.set_cons_zero, List.set_cons_succ])
    refine wpAnyH_take (i := 15) (oi := ?_) (v := ?_) ?_ ?_ ?_ ?_ ?_ ?_ (by exact hHeld) ?_
    rotate_left 2
    · (simp only [List.getElem?_toArray, List.getElem?_cons_zero, List.getElem?_cons_succ]; try rfl)
    · kernel_rfl
    · kernel_rfl
    · kernel_rfl
    · exact fun _ _ _ h => h
    · refine Or.inl ⟨by rfl, ?_⟩
      (intro V hSV; (try dsimp only at hSV); obtain ⟨q0, q1, q2, q3, q4, q5, q6, q7, q8, q9⟩ := hSV; go_simp; try with_reducible rfl)
    (try simp only [Act.put, List.setIfInBounds_toArray, List.set_cons_zero, List.set_cons_succ])
    refine wpAnyH_take (i := 16) (oi := ?_) (v := ?_) ?_ ?_ ?_ ?_ ?_ ?_ (by exact hHeld) ?_
    rotate_left 2
    · (simp only [List.getElem?_toArray, List.getElem?_cons_zero, List.getElem?_cons_succ]; try rfl)
    · kernel_rfl
    · kernel_rfl
    · kernel_rfl
    · exact fun _ _ _ h => h
    · refine Or.inl ⟨by rfl, ?_⟩
      (intro V hSV; (try dsimp only at hSV); obtain ⟨q0, q1, q2, q3, q4, q5, q6, q7, q8, q9⟩ := hSV; go_simp; try with_reducible rfl)
    (try simp only [Act.put, List.setIfInBounds_toArray, List.set_cons_zero, List.set_cons_succ])
    refine wpAnyH_take (i := 18) (oi := ?_) (v := ?_) ?_ ?_ ?_ ?_ ?_ ?_ (by exact hHeld) ?_
    rotate_left 2
    · (simp only [List.getElem?_toArray, List.getElem?_cons_zero, List.getElem?_cons_succ]; try rfl)
    · kernel_rfl
    · kernel_rfl
    · kernel_rfl
    · exact fun _ _ _ h => h
    · refine Or.inl ⟨by rfl, ?_⟩
      (intro V hSV; (try dsimp only at hSV); obtain ⟨q0, q1, q2, q3, q4, q5, q6, q7, q8, q9⟩ := hSV; go_simp; try with_reducible rfl)
    (try simp only [Act.put, List.setIfInBounds_toArray, List.set_cons_zero, List.set_cons_succ])
    refine wpAnyH_take (i := 19) (oi := ?_) (v := ?_) ?_ ?_ ?_ ?_ ?_ ?_ (by exact hHeld) ?_
    rotate_left 2
    · (simp only [List.getElem?_toArray, List.getElem?_cons_zero, List.getElem?_cons_succ]; try rfl)
    · kernel_rfl
    · kernel_rfl
    · kernel_rfl
    · exact fun _ _ _ h => h
    · refine Or.inl ⟨by rfl, ?_⟩
      (intro V hSV; (try dsimp only at hSV); obtain ⟨q0, q1, q2, q3, q4, q5, q6, q7, q8, q9⟩ := hSV; go_simp; try with_reducible rfl)
    (try simp only [Act.put, List.setIfInBounds_toArray, List.set_cons_zero, List.set_cons_succ])
    refine wpAnyH_take (i := 20) (oi := ?_) (v := ?_) ?_ ?_ ?_ ?_ ?_ ?_ (by exact hHeld) ?_
    rotate_left 2
    · (simp only [List.getElem?_toArray, List.getElem?_cons_zero, List.getElem?_cons_succ]; try rfl)
    · kernel_rfl
    · kernel_rfl
    · kernel_rfl
    · exact fun _ _ _ h => h
    · refine Or.inl ⟨by rfl, ?_⟩
      (intro V hSV; (try dsimp only at hSV); obtain ⟨q0, q1, q2, q3, q4, q5, q6, q7, q8, q9⟩ := hSV; go_simp; try with_reducible rfl)
    (try simp only [Act.put, List.setIfInBounds_toArray, List.set_cons_zero, List.set_cons_succ])
    refine wpAnyH_take (i := 21) (oi := ?_) (v := ?_) ?_ ?_ ?_ ?_ ?_ ?_ (by exact hHeld) ?_
    rotate_left 2
    · (simp only [List.getElem?_toArray, List.getElem?_cons_zero, List.getElem?_cons_succ]; try rfl)
    · kernel_rfl
    · kernel_rfl
    · kernel_rfl
    · exact fun _ _ _ h => h
    · refine Or.inl ⟨by rfl, ?_⟩
      (intro V hSV; (try dsimp only at hSV); obtain ⟨q0, q1, q2, q3, q4, q5, q6, q7, q8, q9⟩ := hSV; go_simp; try with_reducible rfl)
    (try simp only [Act.put, List.setIfInBounds_toArray, List.set_cons_zero, List.set_cons_succ])
    refine wpAnyH_take (i := 22) (oi := ?_) (v := ?_) ?_ ?_ ?_ ?_ ?_ ?_ (by exact hHeld) ?_
    rotate_left 2
    · (simp only [List.getElem?_toArray, List.getElem?_cons_zero, List.getElem?_cons_succ]; try rfl)
    · kernel_rfl
    · kernel_rfl
    · kernel_rfl
    · exact fun _ _ _ h => h
    · refine Or.inl ⟨by rfl, ?_⟩
      (intro V hSV; (try dsimp only at hSV); obtain ⟨q0, q1, q2, q3, q4, q5, q6, q7, q8, q9⟩ := hSV; go_simp; try with_reducible rfl)
    (try simp only [Act.put, List.setIfInBounds_toArray, List.set_cons_zero, List.set_cons_succ])
    refine wpAnyH_take (i := 23) (oi := ?_) (v := ?_) ?_ ?_ ?_ ?_ ?_ ?_ (by exact hHeld) ?_
    rotate_left 2
    · (simp only [List.getElem?_toArray, List.getElem?_cons_zero, List.getElem?_cons_succ]; try rfl)
    · kernel_rfl
    · kernel_rfl
    · kernel_rfl
    · exact fun _ _ _ h => h
    · refine Or.inl ⟨by rfl, ?_⟩
      (intro V hSV; (try dsimp only at hSV); obtain ⟨q0, q1, q2, q3, q4, q5, q6, q7, q8, q9⟩ := hSV; go_simp; try with_reducible rfl)
    (try simp only [Act.put, List.setIfInBounds_toArray, List.set_cons_zero, List.set_cons_succ])
    refine wpAnyH_ready (rs := [17]) (by kernel_rfl) (by simp) ?_
    refine AllReadyH.cons rfl (fun K hK => ?_) AllReadyH.nil
    go_simp
    refine (Hd6.out _ (by exact ON.out.below H1.out)).mono ?_
    rintro e u2 ⟨rfl, hb⟩
    have hb : Below u1.heap.size u1 u2 := ⟨hb.os, hb.tape, hb.output, hb.size, hb.block⟩
    have H2 := Lib.hid (below_then H1.out hb)
    clear hb
    go_wp2_with fail
    refine hK.out _ _ (by exact ⟨((H2.out).cell (p := ⟨lb, 0, none⟩) llt).trans l0, ((H2.out).cell (p := ⟨lb, 1, none⟩) llt).trans l1, ((H2.out).cell (p := ⟨lb, 2, none⟩) llt).trans l2, ((H2.out).cell (p := ⟨lb, 3, none⟩) llt).trans l3, ((H2.out).cell (p := ⟨W9.heap.size, 0, none⟩) clt).trans c0, ((H2.out).cell (p := ⟨W9.heap.size, 1, none⟩) clt).trans c1, ((H2.out).cell (p := ⟨W9.heap.size, 2, none⟩) clt).trans c2, ((H2.out).cell (p := ⟨x4.heap.size + 1, 0, none⟩) ylt).trans y0, ((H2.out).cell (p := ⟨x4.heap.size + 1, 1, none⟩) ylt).trans y1, ((H2.out).cell (p := ⟨x4.heap.size + 1, 2, none⟩) ylt).trans y2⟩) (fun hHeld => ?_)
    clear hK K
    (try simp only [Act.put, List.setIfInBounds_toArray, List.set_cons_zero, List.set_cons_succ])
    refine wpAnyH_take (i := 24) (oi := ?_) (v := ?_) ?_ ?_ ?_ ?_ ?_ ?_ (by exact hHeld) ?_
    rotate_left 2
    · (simp only [List.getElem?_toArray, List.getElem?_cons_zero, List.getElem?_cons_succ]; try rfl)
    · kernel_rfl
    · kernel_rfl
    · kernel_rfl
    · exact fun _ _ _ h => h
    · refine Or.inl ⟨by rfl, ?_⟩
      (intro V hSV; (try dsimp only at hSV); obtain ⟨q0, q1, q2, q3, q4, q5, q6, q7, q8, q9⟩ := hSV; go_simp; try with_reducible rfl)
    (try simp only [Act.put, List.setIfInBounds_toArray, List.set_cons_zero, List.set_cons_succ])
    refine wpAnyH_take (i := 25) (oi := ?_) (v := ?_) ?_ ?_ ?_ ?_ ?_ ?_ (by exact hHeld) ?_
    rotate_left 2
    · (simp only [List.getElem?_toArray, List.getElem?_cons_zero, List.getElem?_cons_succ]; try rfl)
    · kernel_rfl
    · kernel_rfl
    · kernel_rfl
    · exact fun _ _ _ h => h
    · refine Or.inl ⟨by rfl, ?_⟩
      (intro V hSV; (try dsimp only at hSV); obtain ⟨q0, q1, q2, q3, q4, q5, q6, q7, q8, q9⟩ := hSV; go_simp; try with_reducible rfl)
    (try simp only [Act.put, List.setIfInBounds_toArray, List.set_cons_zero, List.set_cons_succ])
    refine wpAnyH_take (i := 26) (oi := ?_) (v := ?_) ?_ ?_ ?_ ?_ ?_ ?_ (by exact hHeld) ?_
    rotate_left 2
    · (simp only [List.getElem?_toArray, List.getElem?_cons_zero, List.getElem?_cons_succ]; try rfl)
    · kernel_rfl
    · kernel_rfl
    · kernel_rfl
    · exact fun _ _ _ h => h
    · refine Or.inl ⟨by rfl, ?_⟩
      (intro V hSV; (try dsimp only at hSV); obtain ⟨q0, q1, q2, q3, q4, q5, q6, q7, q8, q9⟩ := hSV; go_simp; try with_reducible rfl)
    (try simp only [Act.put, List.setIfInBounds_toArray, List.set_cons_zero, List.set_cons_succ])
    refine wpAnyH_done (by kernel_rfl) ?_ _
    clear hHeld l0 l1 l2 l3 c0 c1 c2 y0 y1 y2
    go_wp2
    have HB := Lib.hid (below_then HB.out H2.out)
    go_ret
    exact ⟨rfl, HB.out⟩
  have g1 : decide (i < j) = true := by simp; omega
  have g2 : decide (i + 1 < j) = true := by simp; omega
  have g3 : decide (j > i) = true := by simp; omega
  have g4 : decide (j > i + 1) = true := by simp; omega
  rw [g1] at Hd5
  rw [g2] at Hd6
  refine wp_region_held_drew (S := (fun V => V.cell? ⟨lb, 0, none⟩ = some (.int .i64 i) ∧ V.cell? ⟨lb, 1, none⟩ = some (.int .i64 j) ∧ V.cell? ⟨lb, 2, none⟩ = some (.int .i64 s) ∧ V.cell? ⟨lb, 3, none⟩ = some (.int .i64 t) ∧ V.cell? ⟨W9.heap.size, 0, none⟩ = some (.int .i64 i) ∧ V.cell? ⟨W9.heap.size, 1, none⟩ = some (.int .i64 1) ∧ V.cell? ⟨W9.heap.size, 2, none⟩ = some (.slice none 0 0) ∧ V.cell? ⟨x4.heap.size + 1, 0, none⟩ = some (.int .i64 ((i + j).tdiv 2)) ∧ V.cell? ⟨x4.heap.size + 1, 1, none⟩ = some (.int .i64 0) ∧ V.cell? ⟨x4.heap.size + 1, 2, none⟩ = some (.slice (some ⟨x4.heap.size, 0, none⟩) 1 1))) (by kernel_rfl) (by exact ⟨l0, l1, l2, l3, c0, c1, c2, y0, y1, y2⟩) (fun hHeld => ?_)
  refine wpAnyH_take (i := 0) (oi := ?_) (v := ?_) ?_ ?_ ?_ ?_ ?_ ?_ (by exact hHeld) ?_
  rotate_left 2
  · (simp only [List.getElem?_toArray, List.getElem?_cons_zero]; try rfl)
  · kernel_rfl
  · kernel_rfl
  · kernel_rfl
  · exact fun _ _ _ h => h
  · refine Or.inl ⟨by rfl, ?_⟩
    (intro V hSV; (try dsimp only at hSV); obtain ⟨q0, q1, q2, q3, q4, q5, q6, q7, q8, q9⟩ := hSV; go_simp; try with_reducible rfl)
  (try simp only [Act.put, List.setIfInBounds_toArray, List.set_cons_zero, List.set_cons_succ])
  refine wpAnyH_take (i := 1) (oi := ?_) (v := ?_) ?_ ?_ ?_ ?_ ?_ ?_ (by exact hHeld) ?_
  rotate_left 2
  · (simp only [List.getElem?_toArray, List.getElem?_cons_zero, List.getElem?_cons_succ]; try rfl)
  · kernel_rfl
  · kernel_rfl
  · kernel_rfl
  · exact fun _ _ _ h => h
  · refine Or.inl ⟨by rfl, ?_⟩
    (intro V hSV; (try dsimp only at hSV); obtain ⟨q0, q1, q2, q3, q4, q5, q6, q7, q8, q9⟩ := hSV; go_simp; try with_reducible rfl)
  (try simp only [Act.put, List.setIfInBounds_toArray, List.set_cons_zero, List.set_cons_succ])
  refine wpAnyH_take (i := 2) (oi := ?_) (v := ?_) ?_ ?_ ?_ ?_ ?_ ?_ (by exact hHeld) ?_
  rotate_left 2
  · (simp only [List.getElem?_toArray, List.getElem?_cons_zero, List.getElem?_cons_succ]; try rfl)
  · kernel_rfl
  · kernel_rfl
  · kernel_rfl
  · exact fun _ _ _ h => h
  · refine Or.inl ⟨by rfl, ?_⟩
    (intro V hSV; (try dsimp only at hSV); obtain ⟨q0, q1, q2, q3, q4, q5, q6, q7, q8, q9⟩ := hSV; go_simp; try with_reducible rfl)
  (try simp only [Act.put, List.setIfInBounds_toArray, List.set_cons_zero, List.set_cons_succ])
  refine wpAnyH_take (i := 3) (oi := ?_) (v := ?_) ?_ ?_ ?_ ?_ ?_ ?_ (by exact hHeld) ?_
  rotate_left 2
  · (simp only [List.getElem?_toArray, List.getElem?_cons_zero, List.getElem?_cons_succ]; try rfl)
  · kernel_rfl
  · kernel_rfl
  · kernel_rfl
  · exact fun _ _ _ h => h
  · refine Or.inl ⟨by rfl, ?_⟩
    (intro V hSV; (try dsimp only at hSV); obtain ⟨q0, q1, q2, q3, q4, q5, q6, q7, q8, q9⟩ := hSV; go_simp; try with_reducible rfl)
  (try simp only [Act.put, List.setIfInBounds_toArray, List.set_cons_zero, List.set_cons_succ])
  refine wpAnyH_take (i := 4) (oi := ?_) (v := ?_) ?_ ?_ ?_ ?_ ?_ ?_ (by exact hHeld) ?_
  rotate_left 2
  · (simp only [List.getElem?_toArray, List.getElem?_cons_zero, List.getElem?_cons_succ]; try rfl)
  · kernel_rfl
  · kernel_rfl
  · kernel_rfl
  · exact fun _ _ _ h => h
  · refine Or.inl ⟨by rfl, ?_⟩
    (intro V hSV; (try dsimp only at hSV); obtain ⟨q0, q1, q2, q3, q4, q5, q6, q7, q8, q9⟩ := hSV; go_simp; try with_reducible rfl)
  (try simp only [Act.put, List.setIfInBounds_toArray, List.set_cons_zero, List.set_cons_succ])
  refine wpAnyH_take (i := 5) (oi := ?_) (v := ?_) ?_ ?_ ?_ ?_ ?_ ?_ (by exact hHeld) ?_
  rotate_left 2
  · (simp only [List.getElem?_toArray, List.getElem?_cons_zero, List.getElem?_cons_succ]; try rfl)
  · kernel_rfl
  · kernel_rfl
  · kernel_rfl
  · exact fun _ _ _ h => h
  · refine Or.inl ⟨by rfl, ?_⟩
    (intro V hSV; (try dsimp only at hSV); obtain ⟨q0, q1, q2, q3, q4, q5, q6, q7, q8, q9⟩ := hSV; go_simp; try with_reducible rfl)
  (try simp only [Act.put, List.setIfInBounds_toArray, List.set_cons_zero, List.set_cons_succ])
  refine wpAnyH_take (i := 7) (oi := ?_) (v := ?_) ?_ ?_ ?_ ?_ ?_ ?_ (by exact hHeld) ?_
  rotate_left 2
  · (simp only [List.getElem?_toArray, List.getElem?_cons_zero, List.getElem?_cons_succ]; try rfl)
  · kernel_rfl
  · kernel_rfl
  · kernel_rfl
  · exact fun _ _ _ h => h
  · refine Or.inl ⟨by rfl, ?_⟩
    (intro V hSV; (try dsimp only at hSV); obtain ⟨q0, q1, q2, q3, q4, q5, q6, q7, q8, q9⟩ := hSV; go_simp; try with_reducible rfl)
  (try simp only [Act.put, List.setIfInBounds_toArray, List.set_cons_zero, List.set_cons_succ])
  refine wpAnyH_take (i := 8) (oi := ?_) (v := ?_) ?_ ?_ ?_ ?_ ?_ ?_ (by exact hHeld) ?_
  rotate_left 2
  · (simp only [List.getElem?_toArray, List.getElem?_cons_zero, List.getElem?_cons_succ]; try rfl)
  · kernel_rfl
  · kernel_rfl
  · kernel_rfl
  · exact fun _ _ _ h => h
  · refine Or.inl ⟨by rfl, ?_⟩
    (intro V hSV; (try dsimp only at hSV); obtain ⟨q0, q1, q2, q3, q4, q5, q6, q7, q8, q9⟩ := hSV; go_simp; try with_reducible rfl)
  (try simp only [Act.put, List.setIfInBounds_toArray, List.set_cons_zero, List.set_cons_succ])
  refine wpAnyH_take (i := 9) (oi := ?_) (v := ?_) ?_ ?_ ?_ ?_ ?_ ?_ (by exact hHeld) ?_
  rotate_left 2
  · (simp only [List.getElem?_toArray, List.getElem?_cons_zero, List.getElem?_cons_succ]; try rfl)
  · kernel_rfl
  · kernel_rfl
  · kernel_rfl
  · exact fun _ _ _ h => h
  · refine Or.inl ⟨by rfl, ?_⟩
    (intro V hSV; (try dsimp only at hSV); obtain ⟨q0, q1, q2, q3, q4, q5, q6, q7, q8, q9⟩ := hSV; go_simp; try with_reducible rfl)
  (try simp only [Act.put, List.setIfInBounds_toArray, List.set_cons_zero, List.set_cons_succ])
  refine wpAnyH_take (i := 10) (oi := ?_) (v := ?_) ?_ ?_ ?_ ?_ ?_ ?_ (by exact hHeld) ?_
  rotate_left 2
  · (simp only [List.getElem?_toArray, List.getElem?_cons_zero, List.getElem?_cons_succ]; try rfl)
  · kernel_rfl
  · kernel_rfl
  · kernel_rfl
  · exact fun _ _ _ h => h
  · refine Or.inl ⟨by rfl, ?_⟩
    (intro V hSV; (try dsimp only at hSV); obtain ⟨q0, q1, q2, q3, q4, q5, q6, q7, q8, q9⟩ := hSV; go_simp; try with_reducible rfl)
  (try simp only [Act.put, List.setIfInBounds_toArray, List.set_cons_zero, List.set_cons_succ])
  refine wpAnyH_take (i := 11) (oi := ?_) (v := ?_) ?_ ?_ ?_ ?_ ?_ ?_ (by exact hHeld) ?_
  rotate_left 2
  · (simp only [List.getElem?_toArray, List.getElem?_cons_zero, List.getElem?_cons_succ]; try rfl)
  · kernel_rfl
  · kernel_rfl
  · kernel_rfl
  · exact fun _ _ _ h => h
  · refine Or.inl ⟨by rfl, ?_⟩
    (intro V hSV; (try dsimp only at hSV); obtain ⟨q0, q1, q2, q3, q4, q5, q6, q7, q8, q9⟩ := hSV; go_simp; try with_reducible rfl)
  (try simp only [Act.put, List.setIfInBounds_toArray, List.set_cons_zero, List.set_cons_succ])
  refine wpAnyH_ready (rs := [6]) (by kernel_rfl) (by simp) ?_
  refine AllReadyH.cons rfl (fun K hK => ?_) AllReadyH.nil
  go_simp
  refine (Hd5.out _ (by exact ON.out)).mono ?_
  rintro e u1 ⟨rfl, hb⟩
  have hb : Below X5.heap.size X5 u1 := ⟨hb.os, hb.tape, hb.output, hb.size, hb.block⟩
  have H1 := Lib.hid hb
  clear hb
  go_wp2_with fail
  refine hK.out _ _ (by exact ⟨((H1.out).cell (p := ⟨lb, 0, none⟩) llt).trans l0, ((H1.out).cell (p := ⟨lb, 1, none⟩) llt).trans l1, ((H1.out).cell (p := ⟨lb, 2, none⟩) llt).trans l2, ((H1.out).cell (p := ⟨lb, 3, none⟩) llt).trans l3, ((H1.out).cell (p := ⟨W9.heap.size, 0, none⟩) clt).trans c0, ((H1.out).cell (p := ⟨W9.heap.size, 1, none⟩) clt).trans c1, ((H1.out).cell (p := ⟨W9.heap.size, 2, none⟩) clt).trans c2, ((H1.out).cell (p := ⟨x4.heap.size + 1, 0, none⟩) ylt).trans y0, ((H1.out).cell (p := ⟨x4.heap.size + 1, 1, none⟩) ylt).trans y1, ((H1.out).cell (p := ⟨x4.heap.size + 1, 2, none⟩) ylt).trans y2⟩) (fun hHeld => ?_)
  clear hK K
  (try simp only [Act.put, List.setIfInBounds_toArray, List.set_cons_zero, List.set_cons_succ])
  refine wpAnyH_take (i := 12) (oi := ?_) (v := ?_) ?_ ?_ ?_ ?_ ?_ ?_ (by exact hHeld) ?_
  rotate_left 2
  · (simp only [List.getElem?_toArray, List.getElem?_cons_zero, List.getElem?_cons_succ]; try rfl)
  · kernel_rfl
  · kernel_rfl
  · kernel_rfl
  · exact fun _ _ _ h => h
  · refine Or.inl ⟨by rfl, ?_⟩
    (intro V hSV; (try dsimp only at hSV); obtain ⟨q0, q1, q2, q3, q4, q5, q6, q7, q8, q9⟩ := hSV; go_simp; try with_reducible rfl)
  (try simp only [Act.put, List.setIfInBounds_toArray, List.set_cons_zero, List.set_cons_succ])
  refine wpAnyH_take (i := 13) (oi := ?_) (v := ?_) ?_ ?_ ?_ ?_ ?_ ?_ (by exact hHeld) ?_
  rotate_left 2
  · (simp only [List.getElem?_toArray, List.getElem?_cons_zero, List.getElem?_cons_succ]; try rfl)
  · kernel_rfl
  · kernel_rfl
  · kernel_rfl
  · exact fun _ _ _ h => h
  · refine Or.inl ⟨by rfl, ?_⟩
    (intro V hSV; (try dsimp only at hSV); obtain ⟨q0, q1, q2, q3, q4, q5, q6, q7, q8, q9⟩ := hSV; go_simp; try with_reducible rfl)
  (try simp only [Act.put, List.setIfInBounds_toArray, List.set_cons_zero, List.set_cons_succ])
  refine wpAnyH_take (i := 14) (oi := ?_) (v := ?_) ?_ ?_ ?_ ?_ ?_ ?_ (by exact hHeld) ?_
  rotate_left 2
  · (simp only [List.getElem?_toArray, List.getElem?_cons_zero, List.getElem?_cons_succ]; try rfl)
  · kernel_rfl
  · kernel_rfl
  · kernel_rfl
  · exact fun _ _ _ h => h
  · refine Or.inl ⟨by rfl, ?_⟩
    (intro V hSV; (try dsimp only at hSV); obtain ⟨q0, q1, q2, q3, q4, q5, q6, q7, q8, q9⟩ := hSV; go_simp; try with_reducible rfl)
  (try simp only [Act.put, List.setIfInBounds_toArray, List.set_cons_zero, List.set_cons_succ])
  refine wpAnyH_take (i := 15) (oi := ?_) (v := ?_) ?_ ?_ ?_ ?_ ?_ ?_ (by exact hHeld) ?_
  rotate_left 2
  · (simp only [List.getElem?_toArray, List.getElem?_cons_zero, List.getElem?_cons_succ]; try rfl)
  · kernel_rfl
  · kernel_rfl
  · kernel_rfl
  · exact fun _ _ _ h => h
  · refine Or.inl ⟨by rfl, ?_⟩
    (intro V hSV; (try dsimp only at hSV); obtain ⟨q0, q1, q2, q3, q4, q5, q6, q7, q8, q9⟩ := hSV; go_simp; try with_reducible rfl)
  (try simp only [Act.put, List.setIfInBounds_toArray, List.set_cons_zero, List.set_cons_succ])
  refine wpAnyH_take (i := 16) (oi := ?_) (v := ?_) ?_ ?_ ?_ ?_ ?_ ?_ (by exact hHeld) ?_
  rotate_left 2
  · (simp only [List.getElem?_toArray, List.getElem?_cons_zero, List.getElem?_cons_succ]; try rfl)
  · kernel_rfl
  · kernel_rfl
  · kernel_rfl
  · exact fun _ _ _ h => h
  · refine Or.inl ⟨by rfl, ?_⟩
    (intro V hSV; (try dsimp only at hSV); obtain ⟨q0, q1, q2, q3, q4, q5, q6, q7, q8, q9⟩ := hSV; go_simp; try with_reducible rfl)
  (try simp only [Act.put, List.setIfInBounds_toArray, List.set_cons_zero, List.set_cons_succ])
  refine wpAnyH_take (i := 18) (oi := ?_) (v := ?_) ?_ ?_ ?_ ?_ ?_ ?_ (by exact hHeld) ?_
  rotate_left 2
  · (simp only [List.getElem?_toArray, List.getElem?_cons_zero, List.getElem?_cons_succ]; try rfl)
  · kernel_rfl
  · kernel_rfl
  · kernel_rfl
  · exact fun _ _ _ h => h
  · refine Or.inl ⟨by rfl, ?_⟩
    (intro V hSV; (try dsimp only at hSV); obtain ⟨q0, q1, q2, q3, q4, q5, q6, q7, q8, q9⟩ := hSV; go_simp; try with_reducible rfl)
  (try simp only [Act.put, List.setIfInBounds_toArray, List.set_cons_zero, List.set_cons_succ])
  refine wpAnyH_take (i := 19) (oi := ?_) (v := ?_) ?_ ?_ ?_ ?_ ?_ ?_ (by exact hHeld) ?_
  rotate_left 2
  · (simp only [List.getElem?_toArray, List.getElem?_cons_zero, List.getElem?_cons_succ]; try rfl)
  · kernel_rfl
  · kernel_rfl
  · kernel_rfl
  · exact fun _ _ _ h => h
  · refine Or.inl ⟨by rfl, ?_⟩
    (intro V hSV; (try dsimp only at hSV); obtain ⟨q0, q1, q2, q3, q4, q5, q6, q7, q8, q9⟩ := hSV; go_simp; try with_reducible rfl)
  (try simp only [Act.put, List.setIfInBounds_toArray, List.set_cons_zero, List.set_cons_succ])
  refine wpAnyH_take (i := 20) (oi := ?_) (v := ?_) ?_ ?_ ?_ ?_ ?_ ?_ (by exact hHeld) ?_
  rotate_left 2
  · (simp only [List.getElem?_toArray, List.getElem?_cons_zero, List.getElem?_cons_succ]; try rfl)
  · kernel_rfl
  · kernel_rfl
  · kernel_rfl
  · exact fun _ _ _ h => h
  · refine Or.inl ⟨by rfl, ?_⟩
    (intro V hSV; (try dsimp only at hSV); obtain ⟨q0, q1, q2, q3, q4, q5, q6, q7, q8, q9⟩ := hSV; go_simp; try with_reducible rfl)
  (try simp only [Act.put, List.setIfInBounds_toArray, List.set_cons_zero, List.set_cons_succ])
  refine wpAnyH_take (i := 21) (oi := ?_) (v := ?_) ?_ ?_ ?_ ?_ ?_ ?_ (by exact hHeld) ?_
  rotate_left 2
  · (simp only [List.getElem?_toArray, List.getElem?_cons_zero, List.getElem?_cons_succ]; try rfl)
  · kernel_rfl
  · kernel_rfl
  · kernel_rfl
  · exact fun _ _ _ h => h
  · refine Or.inl ⟨by rfl, ?_⟩
    (intro V hSV; (try dsimp only at hSV); obtain ⟨q0, q1, q2, q3, q4, q5, q6, q7, q8, q9⟩ := hSV; go_simp; try with_reducible rfl)
  (try simp only [Act.put, List.setIfInBounds_toArray, List.set_cons_zero, List.set_cons_succ])
  refine wpAnyH_take (i := 22) (oi := ?_) (v := ?_) ?_ ?_ ?_ ?_ ?_ ?_ (by exact hHeld) ?_
  rotate_left 2
  · (simp only [List.getElem?_toArray, List.getElem?_cons_zero, List.getElem?_cons_succ]; try rfl)
  · kernel_rfl
  · kernel_rfl
  · kernel_rfl
  · exact fun _ _ _ h => h
  · refine Or.inl ⟨by rfl, ?_⟩
    (intro V hSV; (try dsimp only at hSV); obtain ⟨q0, q1, q2, q3, q4, q5, q6, q7, q8, q9⟩ := hSV; go_simp; try with_reducible rfl)
  (try simp only [Act.put, List.setIfInBounds_toArray, List.set_cons_zero, List.set_cons_succ])
  refine wpAnyH_take (i := 23) (oi := ?_) (v := ?_) ?_ ?_ ?_ ?_ ?_ ?_ (by exact hHeld) ?_
  rotate_left 2
  · (simp only [List.getElem?_toArray, List.getElem?_cons_zero, List.getElem?_cons_succ]; try rfl)
  · kernel_rfl
  · kernel_rfl
  · kernel_rfl
  · exact fun _ _ _ h => h
  · refine Or.inl ⟨by rfl, ?_⟩
    (intro V hSV; (try dsimp only at hSV); obtain ⟨q0, q1, q2, q3, q4, q5, q6, q7, q8, q9⟩ := hSV; go_simp; try with_reducible rfl)
  (try simp only [Act.put, List.setIfInBounds_toArray, List.set_cons_zero, List.set_cons_succ])
  refine wpAnyH_ready (rs := [17]) (by kernel_rfl) (by simp) ?_
  refine AllReadyH.cons rfl (fun K hK => ?_) AllReadyH.nil
  go_simp
  refine (Hd6.out _ (by exact ON.out.below H1.out)).mono ?_
  rintro e u2 ⟨rfl, hb⟩
  have hb : Below u1.heap.size u1 u2 := ⟨hb.os, hb.tape, hb.output, hb.size, hb.block⟩
  have H2 := Lib.hid (below_then H1.out hb)
  clear hb
  go_wp2_with fail
  refine hK.out _ _ (by exact ⟨((H2.out).cell (p := ⟨lb, 0, none⟩) llt).trans l0, ((H2.out).cell (p := ⟨lb, 1, none⟩) llt).trans l1, ((H2.out).cell (p := ⟨lb, 2, none⟩) llt).trans l2, ((H2.out).cell (p := ⟨lb, 3, none⟩) llt).trans l3, ((H2.out).cell (p := ⟨W9.heap.size, 0, none⟩) clt).trans c0, ((H2.out).cell (p := ⟨W9.heap.size, 1, none⟩) clt).trans c1, ((H2.out).cell (p := ⟨W9.heap.size, 2, none⟩) clt).trans c2, ((H2.out).cell (p := ⟨x4.heap.size + 1, 0, none⟩) ylt).trans y0, ((H2.out).cell (p := ⟨x4.heap.size + 1, 1, none⟩) ylt).trans y1, ((H2.out).cell (p := ⟨x4.heap.size + 1, 2, none⟩) ylt).trans y2⟩) (fun hHeld => ?_)
  clear hK K
  (try simp only [Act.put, List.setIfInBounds_toArray, List.set_cons_zero, List.set_cons_succ])
  refine wpAnyH_take (i := 24) (oi := ?_) (v := ?_) ?_ ?_ ?_ ?_ ?_ ?_ (by exact hHeld) ?_
  rotate_left 2
  · (simp only [List.getElem?_toArray, List.getElem?_cons_zero, List.getElem?_cons_succ]; try rfl)
  · kernel_rfl
  · kernel_rfl
  · kernel_rfl
  · exact fun _ _ _ h => h
  · refine Or.inl ⟨by rfl, ?_⟩
    (intro V hSV; (try dsimp only at hSV); obtain ⟨q0, q1, q2, q3, q4, q5, q6, q7, q8, q9⟩ := hSV; go_simp; try with_reducible rfl)
  (try simp only [Act.put, List.setIfInBounds_toArray, List.set_cons_zero, List.set_cons_succ])
  refine wpAnyH_take (i := 25) (oi := ?_) (v := ?_) ?_ ?_ ?_ ?_ ?_ ?_ (by exact hHeld) ?_
  rotate_left 2
  · (simp only [List.getElem?_toArray, List.getElem?_cons_zero, List.getElem?_cons_succ]; try rfl)
  · kernel_rfl
  · kernel_rfl
  · kernel_rfl
  · exact fun _ _ _ h => h
  · refine Or.inl ⟨by rfl, ?_⟩
    (intro V hSV; (try dsimp only at hSV); obtain ⟨q0, q1, q2, q3, q4, q5, q6, q7, q8, q9⟩ := hSV; go_simp; try with_reducible rfl)
  (try simp only [Act.put, List.setIfInBounds_toArray, List.set_cons_zero, List.set_cons_succ])
  refine wpAnyH_take (i := 26) (oi := ?_) (v := ?_) ?_ ?_ ?_ ?_ ?_ ?_ (by exact hHeld) ?_
  rotate_left 2
  · (simp only [List.getElem?_toArray, List.getElem?_cons_zero, List.getElem?_cons_succ]; try rfl)
  · kernel_rfl
  · kernel_rfl
  · kernel_rfl
  · exact fun _ _ _ h => h
  · refine Or.inl ⟨by rfl, ?_⟩
    (intro V hSV; (try dsimp only at hSV); obtain ⟨q0, q1, q2, q3, q4, q5, q6, q7, q8, q9⟩ := hSV; go_simp; try with_reducible rfl)
  (try simp only [Act.put, List.setIfInBounds_toArray, List.set_cons_zero, List.set_cons_succ])
  refine wpAnyH_done (by kernel_rfl) ?_ _
  clear hHeld l0 l1 l2 l3 c0 c1 c2 y0 y1 y2
  go_wp2
  have HB := Lib.hid (below_then HB.out H2.out)
  go_ret
  exact ⟨rfl, HB.out⟩

end Go.Proofs.Ytgpjjolgpppeeaa.fnBars
