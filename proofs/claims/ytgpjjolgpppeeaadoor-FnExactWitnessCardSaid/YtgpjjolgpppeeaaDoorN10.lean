/-
  Chapter 9, ReqBytes in the model: contract. Own work.
-/
import Derived.Test.YtgpjjolgpppeeaaDoorN05
import Derived.Test.YtgpjjolgpppeeaaDoorEB
import Derived.Test.YtgpjjolgpppeeaaDoorC05
import Derived.Deep.RegionHeld3
import Derived.Deep.DeepCutAuto
namespace Go.Proofs.YtgpjjolgpppeeaaDoor
open Go.RowKit P
set_option linter.unusedVariables false
set_option linter.unusedSimpArgs false
set_option maxRecDepth 100000

theorem u8in (x : Int) (h0 : 0 ≤ x) (h1 : x < 256) : IntKind.u8.wrap x = x := IntWalk.u8_in _ ⟨h0, by omega⟩
theorem bsk4n (w : World) : Below w.heap.size w w.drew := (Below.refl w.heap.size w).drew
theorem lit2 {x y : Int} (hx : 0 ≤ x ∧ x < 256) (hy : 0 ≤ y ∧ y < 256) (W : World) : Own (W.alloc (.cells #[.int .u8 x, .int .u8 y] 5)) W.heap.size (.slice (some ⟨W.heap.size, 0, none⟩) 2 2) [u8 x, u8 y] := by
  have h := Own.new W [u8 x, u8 y] (by simp [maxLen])
  simpa [bV, u8_toNat x hx.1 hx.2, u8_toNat y hy.1 hy.2] using h
theorem lit1 {x : Int} (hx : 0 ≤ x ∧ x < 256) (W : World) : Own (W.alloc (.cells #[.int .u8 x] 5)) W.heap.size (.slice (some ⟨W.heap.size, 0, none⟩) 1 1) [u8 x] := by
  have h := Own.new W [u8 x] (by simp [maxLen])
  simpa [bV, u8_toNat x hx.1 hx.2] using h

set_option maxHeartbeats 800000 in
theorem l09Two_any (n : Int) (w : World) (h0 : 0 ≤ n) (h1 : n ≤ 65535) :
    Calls Tryd.prog 108 #[.int .i64 n] w fun e w' => ∃ v, e = .returned v ∧ Own w' w.heap.size v (w2 n) ∧ Below w.heap.size w w' := by
  have hl := lit2 (x := n / 256) (y := n % 256) (by omega) (by omega) w
  have HL := Lib.hid hl
  have hd : n.tdiv 256 = n / 256 := Int.tdiv_eq_ediv_of_nonneg h0
  have hm : n.tmod 256 = n % 256 := Int.tmod_eq_emod_of_nonneg h0
  clear hl
  go_enter Tryd.func108, Tryd.ntmps108
  go_wp2
  go_ret
  exact ⟨_, rfl, HL.out, by (repeat (first | exact Below.refl _ _ | assumption | refine Below.setCell ?_ (by first | (simp; done) | (simp; omega) | omega) _ | refine Below.drew ?_ | refine below_drewN ?_ _ | refine Below.alloc ?_ (by first | (simp; done) | (simp; omega) | omega) _))⟩

set_option maxHeartbeats 16000000 in
theorem specReqBytes_any (x s p q r : Int) (A : Option Addr) (t : List UInt8) (d : Nat) (w : World) (hl : t.length ≤ d) (hc9 : d ≤ 9223372036854775807) (hA : Bs w A t) :
    Calls Tryd.prog 98 #[.agg #[.int .i64 x, .int .i64 s, .int .i64 p, .int .i64 q, .int .i64 r, .slice A t.length d]] w fun e w' => ∃ v, e = .returned v ∧ Own w' w.heap.size v (rqBytes x s p q r t) ∧ Below w.heap.size w w' := by
  have hal := (Below.refl w.heap.size w).alloc (Nat.le_refl _) (.cells #[.int .i64 x, .int .i64 s, .int .i64 p, .int .i64 q, .int .i64 r, .slice A t.length d] 29)
  have BX := Lib.hid (Blk.new w #[.int .i64 x, .int .i64 s, .int .i64 p, .int .i64 q, .int .i64 r, .slice A t.length d] 29)
  have HB := Lib.hid hal
  obtain ⟨ok, hok⟩ : ∃ ok, rqOk x s p q r t = ok := ⟨_, rfl⟩
  have HOK := Lib.hid hok
  obtain ⟨R, hR⟩ : ∃ R, rqBytes x s p q r t = R := ⟨_, rfl⟩
  have HR := Lib.hid hR
  rw [hR]
  clear hal hok hR
  go_enter Tryd.func98, Tryd.ntmps98
  go_wp2_with fail
  generalize w.alloc (.cells #[.int .i64 x, .int .i64 s, .int .i64 p, .int .i64 q, .int .i64 r, .slice A t.length d] 29) = W0 at *
  refine (specReqOk_any x s p q r A t d _ hl hc9 (by exact hA.below HB.out)).mono ?_
  rintro e w1 ⟨rfl, hb⟩
  rw [HOK.out]
  have BX := Lib.hid (BX.out.below hb)
  have HB := Lib.hid (below_then HB.out hb)
  have HA := Lib.hid (hA.below HB.out)
  clear hb
  cases ok
  case false =>
    have e0 : R = [] := by rw [← HR.out]; unfold rqBytes; rw [HOK.out]; rfl
    have HE := Lib.hid e0
    clear e0
    go_wp2
    go_ret
    exact ⟨.slice none 0 0, rfl, by rw [HE.out]; exact Own.nil _ _, HB.out⟩
  have HE : Hid (rqEnc x s p q r t = R) := Lib.hid (by rw [← HR.out]; unfold rqBytes; rw [HOK.out]; rfl)
  have hlen := rqOk_len HOK.out
  have hrg : (1 ≤ x ∧ x ≤ 16) ∧ (1 ≤ s ∧ s ≤ 8) ∧ (0 ≤ p ∧ p ≤ 65535) ∧ (0 ≤ q ∧ q ≤ 65535) ∧ (0 ≤ r ∧ r ≤ 65535) := by
    have h := HOK.out
    unfold rqOk rqHead isW at h
    simp only [Bool.and_eq_true, decide_eq_true_eq] at h
    omega
  obtain ⟨hx1, hs1, hp1, hq1, hr1⟩ := hrg
  have x0 := BX.out.cell 0
  have x1 := BX.out.cell 1
  have x2 := BX.out.cell 2
  have x3 := BX.out.cell 3
  have x4 := BX.out.cell 4
  have x5 := BX.out.cell 5
  have hwx : IntKind.u8.wrap x = x := u8in x (by omega) (by omega)
  have hws : IntKind.u8.wrap s = s := u8in s (by omega) (by omega)
  have hwl : IntKind.u8.wrap (t.length : Int) = (t.length : Int) := u8in _ (by omega) (by omega)
  go_upto_region 3 with fail
  go_cut [3] (fun v wx => ∃ Av cv, v = .slice Av ([P.u8 x, P.u8 s] ++ w2 p).length cv ∧ Own wx (w.heap.size + 1) (.slice Av ([P.u8 x, P.u8 s] ++ w2 p).length cv) ([P.u8 x, P.u8 s] ++ w2 p) ∧ Blk wx w.heap.size #[.int .i64 x, .int .i64 s, .int .i64 p, .int .i64 q, .int .i64 r, .slice A t.length d] 29 ∧ Below w.heap.size w wx)
  case first =>
    have BX := Lib.hid (BX.out.below (bsk4n w1))
    have HB := Lib.hid (HB.out.drew)
    have HA := Lib.hid (HA.out.below (bsk4n w1))
    refine wp_region_noPanic ?_
    refine wp_region_held_drew (S := (fun V => V.cell? ⟨w.heap.size, 0, none⟩ = some (.int .i64 x) ∧ V.cell? ⟨w.heap.size, 1, none⟩ = some (.int .i64 s) ∧ V.cell? ⟨w.heap.size, 2, none⟩ = some (.int .i64 p) ∧ V.cell? ⟨w.heap.size, 3, none⟩ = some (.int .i64 q) ∧ V.cell? ⟨w.heap.size, 4, none⟩ = some (.int .i64 r) ∧ V.cell? ⟨w.heap.size, 5, none⟩ = some (.slice A t.length d))) (by kernel_rfl) (by exact ⟨x0, x1, x2, x3, x4, x5⟩) (fun hHeld => ?_)
    refine wpAnyH_take (i := 0) (oi := ?_) (v := ?_) ?_ ?_ ?_ ?_ ?_ ?_ (by exact hHeld) ?_
    rotate_left 2
    · (simp only [List.getElem?_toArray, List.getElem?_cons_zero]; try rfl)
    · kernel_rfl
    · kernel_rfl
    · kernel_rfl
    · exact fun _ _ _ h => h
    · refine Or.inl ⟨by rfl, ?_⟩
      (intro V hSV; (try dsimp only at hSV); obtain ⟨q0, q1, q2, q3, q4, q5⟩ := hSV; go_simp; try with_reducible rfl)
    (try simp only [Act.put, List.setIfInBounds_toArray, List.set_cons_zero, List.set_cons_succ])
    refine wpAnyH_take (i := 1) (oi := ?_) (v := ?_) ?_ ?_ ?_ ?_ ?_ ?_ (by exact hHeld) ?_
    rotate_left 2
    · (simp only [List.getElem?_toArray, List.getElem?_cons_zero, List.getElem?_cons_succ]; try rfl)
    · kernel_rfl
    · kernel_rfl
    · kernel_rfl
    · exact fun _ _ _ h => h
    · refine Or.inl ⟨by rfl, ?_⟩
      (intro V hSV; (try dsimp only at hSV); obtain ⟨q0, q1, q2, q3, q4, q5⟩ := hSV; go_simp; try with_reducible rfl)
    (try simp only [Act.put, List.setIfInBounds_toArray, List.set_cons_zero, List.set_cons_succ])
    refine wpAnyH_take (i := 2) (oi := ?_) (v := ?_) ?_ ?_ ?_ ?_ ?_ ?_ (by exact hHeld) ?_
    rotate_left 2
    · (simp only [List.getElem?_toArray, List.getElem?_cons_zero, List.getElem?_cons_succ]; try rfl)
    · kernel_rfl
    · kernel_rfl
    · kernel_rfl
    · exact fun _ _ _ h => h
    · refine Or.inl ⟨by rfl, ?_⟩
      (intro V hSV; (try dsimp only at hSV); obtain ⟨q0, q1, q2, q3, q4, q5⟩ := hSV; go_simp; try with_reducible rfl)
    (try simp only [Act.put, List.setIfInBounds_toArray, List.set_cons_zero, List.set_cons_succ])
    refine wpAnyH_take (i := 3) (oi := ?_) (v := ?_) ?_ ?_ ?_ ?_ ?_ ?_ (by exact hHeld) ?_
    rotate_left 2
    · (simp only [List.getElem?_toArray, List.getElem?_cons_zero, List.getElem?_cons_succ]; try rfl)
    · kernel_rfl
    · kernel_rfl
    · kernel_rfl
    · exact fun _ _ _ h => h
    · refine Or.inl ⟨by rfl, ?_⟩
      (intro V hSV; (try dsimp only at hSV); obtain ⟨q0, q1, q2, q3, q4, q5⟩ := hSV; go_simp; try with_reducible rfl)
    (try simp only [Act.put, List.setIfInBounds_toArray, List.set_cons_zero, List.set_cons_succ])
    refine wpAnyH_take (i := 4) (oi := ?_) (v := ?_) ?_ ?_ ?_ ?_ ?_ ?_ (by exact hHeld) ?_
    rotate_left 2
    · (simp only [List.getElem?_toArray, List.getElem?_cons_zero, List.getElem?_cons_succ]; try rfl)
    · kernel_rfl
    · kernel_rfl
    · kernel_rfl
    · exact fun _ _ _ h => h
    · refine Or.inl ⟨by rfl, ?_⟩
      (intro V hSV; (try dsimp only at hSV); obtain ⟨q0, q1, q2, q3, q4, q5⟩ := hSV; go_simp; try with_reducible rfl)
    (try simp only [Act.put, List.setIfInBounds_toArray, List.set_cons_zero, List.set_cons_succ])
    refine wpAnyH_take (i := 5) (oi := ?_) (v := ?_) ?_ ?_ ?_ ?_ ?_ ?_ (by exact hHeld) ?_
    rotate_left 2
    · (simp only [List.getElem?_toArray, List.getElem?_cons_zero, List.getElem?_cons_succ]; try rfl)
    · kernel_rfl
    · kernel_rfl
    · kernel_rfl
    · exact fun _ _ _ h => h
    · refine Or.inl ⟨by rfl, ?_⟩
      (intro V hSV; (try dsimp only at hSV); obtain ⟨q0, q1, q2, q3, q4, q5⟩ := hSV; go_simp; try with_reducible rfl)
    (try simp only [Act.put, List.setIfInBounds_toArray, List.set_cons_zero, List.set_cons_succ])
    refine wpAnyH_take (i := 7) (oi := ?_) (v := ?_) ?_ ?_ ?_ ?_ ?_ ?_ (by exact hHeld) ?_
    rotate_left 2
    · (simp only [List.getElem?_toArray, List.getElem?_cons_zero, List.getElem?_cons_succ]; try rfl)
    · kernel_rfl
    · kernel_rfl
    · kernel_rfl
    · exact fun _ _ _ h => h
    · refine Or.inl ⟨by rfl, ?_⟩
      (intro V hSV; (try dsimp only at hSV); obtain ⟨q0, q1, q2, q3, q4, q5⟩ := hSV; go_simp; try with_reducible rfl)
    (try simp only [Act.put, List.setIfInBounds_toArray, List.set_cons_zero, List.set_cons_succ])
    refine wpAnyH_take (i := 8) (oi := ?_) (v := ?_) ?_ ?_ ?_ ?_ ?_ ?_ (by exact hHeld) ?_
    rotate_left 2
    · (simp only [List.getElem?_toArray, List.getElem?_cons_zero, List.getElem?_cons_succ]; try rfl)
    · kernel_rfl
    · kernel_rfl
    · kernel_rfl
    · exact fun _ _ _ h => h
    · refine Or.inl ⟨by rfl, ?_⟩
      (intro V hSV; (try dsimp only at hSV); obtain ⟨q0, q1, q2, q3, q4, q5⟩ := hSV; go_simp; try with_reducible rfl)
    (try simp only [Act.put, List.setIfInBounds_toArray, List.set_cons_zero, List.set_cons_succ])
    refine wpAnyH_ready (rs := [6, 9]) (by kernel_rfl) (by simp) ?_
    refine AllReadyH.cons (o := ?_) ?_ (fun K hK => ?_) ?_
    rotate_left 1
    · (simp only [List.getElem?_toArray, List.getElem?_cons_zero, List.getElem?_cons_succ]; try rfl)
    · have VV := Lib.hid (Own.mono (lit2 (x := x) (y := s) (by omega) (by omega) (w1.drew)) (show w.heap.size + 1 ≤ (w1.drew).heap.size from BX.out.lt))
      have hbA := (Below.refl (w1.drew).heap.size (w1.drew)).alloc (Nat.le_refl _) (.cells #[.int .u8 x, .int .u8 s] 5)
      have BX := Lib.hid (BX.out.below hbA)
      have HB := Lib.hid (HB.out.trans (hbA.mono HB.out.size))
      have HA := Lib.hid (HA.out.below hbA)
      clear hbA
      go_simp
      refine hK.out _ _ (by exact ⟨BX.out.cell 0, BX.out.cell 1, BX.out.cell 2, BX.out.cell 3, BX.out.cell 4, BX.out.cell 5⟩) (fun hHeld => ?_)
      clear hK K
      (try simp only [Act.put, List.setIfInBounds_toArray, List.set_cons_zero, List.set_cons_succ])
      refine wpAnyH_ready (rs := [9]) (by kernel_rfl) (by simp) ?_
      refine AllReadyH.cons (o := ?_) ?_ (fun K hK => ?_) AllReadyH.nil
      rotate_left 1
      · (simp only [List.getElem?_toArray, List.getElem?_cons_zero, List.getElem?_cons_succ]; try rfl)
      go_simp
      refine (l09Two_any p _ (by omega) (by omega)).mono ?_
      rintro e y1 ⟨v, rfl, hown, hb⟩
      have hb : Below ((w1.drew).alloc (.cells #[.int .u8 x, .int .u8 s] 5)).heap.size ((w1.drew).alloc (.cells #[.int .u8 x, .int .u8 s] 5)) y1 := ⟨hb.os, hb.tape, hb.output, hb.size, hb.block⟩
      have hown : Own y1 ((w1.drew).alloc (.cells #[.int .u8 x, .int .u8 s] 5)).heap.size v (w2 p) := hown
      obtain ⟨AX, cX, rfl, lX, kX, _, _, _⟩ := own_plain9 hown
      have X := Lib.hid hown
      have BX := Lib.hid (BX.out.below hb)
      have HB := Lib.hid (HB.out.trans (hb.mono HB.out.size))
      have HA := Lib.hid (HA.out.below hb)
      have VV := Lib.hid (VV.out.below hb)
      clear hb hown
      go_wp2_with fail
      refine hK.out _ _ (by exact ⟨BX.out.cell 0, BX.out.cell 1, BX.out.cell 2, BX.out.cell 3, BX.out.cell 4, BX.out.cell 5⟩) (fun hHeld => ?_)
      clear hK K
      (try simp only [Act.put, List.setIfInBounds_toArray, List.set_cons_zero, List.set_cons_succ])
      refine wpAnyH_ready (rs := [10]) (by kernel_rfl) (by simp) ?_
      refine AllReadyH.cons (o := ?_) ?_ (fun K hK => ?_) AllReadyH.nil
      rotate_left 1
      · (simp only [List.getElem?_toArray, List.getElem?_cons_zero, List.getElem?_cons_succ]; try rfl)
      refine step_app_bytes9 rfl (.tmp 13) (.tmp 16) rfl _ (Value.slice (some ⟨w1.heap.size, 0, none⟩) 2 2) ([P.u8 x, P.u8 s]) (w2 p) AX (w2 p).length cX rfl rfl rfl (by exact VV.out) (by exact own_bs9 X.out) (by simp [w2_len] <;> omega) (by exact BX.out.lt) ?_
      intro v9 y9 hown hg hv9
      have hg : World.grownBy (y1) y9 ((Value.slice (some ⟨w1.heap.size, 0, none⟩) 2 2)).ownBlock := ⟨hg.os, hg.tape, hg.output, hg.size, hg.block⟩
      have hke := Keeps.of_grown hg
      have hlo := VV.out.range
      have zlo : w.heap.size < w.heap.size + 1 := by omega
      have BX := Lib.hid (BX.out.of_block (hke.block _ BX.out.lt (fun h => by have h1 := hlo _ h; omega)))
      have HB := Lib.hid (HB.out.trans (hke.below (B := w.heap.size) HB.out.size (fun k hk => by have h1 := hlo k hk; omega)))
      have HA := Lib.hid (hA.below HB.out)
      obtain ⟨AV, cV, rfl, lV, kV, _, _, _⟩ := own_plain9 hown
      have VV := Lib.hid hown
      clear hke hg hlo hown
      (try go_simp)
      refine hK.out _ _ (by exact ⟨BX.out.cell 0, BX.out.cell 1, BX.out.cell 2, BX.out.cell 3, BX.out.cell 4, BX.out.cell 5⟩) (fun hHeld => ?_)
      clear hK K
      (try simp only [Act.put, List.setIfInBounds_toArray, List.set_cons_zero, List.set_cons_succ])
      refine wpAnyH_take (i := 11) (oi := ?_) (v := ?_) ?_ ?_ ?_ ?_ ?_ ?_ (by exact hHeld) ?_
      rotate_left 2
      · (simp only [List.getElem?_toArray, List.getElem?_cons_zero, List.getElem?_cons_succ]; try rfl)
      · kernel_rfl
      · kernel_rfl
      · kernel_rfl
      · exact fun _ _ _ h => h
      · refine Or.inl ⟨by rfl, ?_⟩
        (intro V hSV; (try dsimp only at hSV); obtain ⟨q0, q1, q2, q3, q4, q5⟩ := hSV; go_simp; try with_reducible rfl)
      (try simp only [Act.put, List.setIfInBounds_toArray, List.set_cons_zero, List.set_cons_succ])
      refine wpAnyH_done (by kernel_rfl) ?_ _
      refine NoPanic.normal ?_
      go_wp2_with fail
      go_meet
      exact ⟨AV, cV, rfl, by exact VV.out, BX.out, HB.out⟩
    refine AllReadyH.cons (o := ?_) ?_ (fun K hK => ?_) AllReadyH.nil
    rotate_left 1
    · (simp only [List.getElem?_toArray, List.getElem?_cons_zero, List.getElem?_cons_succ]; try rfl)
    go_simp
    refine (l09Two_any p _ (by omega) (by omega)).mono ?_
    rintro e y1 ⟨v, rfl, hown, hb⟩
    have hb : Below (w1.drew).heap.size (w1.drew) y1 := ⟨hb.os, hb.tape, hb.output, hb.size, hb.block⟩
    have hown : Own y1 (w1.drew).heap.size v (w2 p) := hown
    obtain ⟨AX, cX, rfl, lX, kX, _, _, _⟩ := own_plain9 hown
    have X := Lib.hid hown
    have BX := Lib.hid (BX.out.below hb)
    have HB := Lib.hid (HB.out.trans (hb.mono HB.out.size))
    have HA := Lib.hid (HA.out.below hb)
    clear hb hown
    go_wp2_with fail
    refine hK.out _ _ (by exact ⟨BX.out.cell 0, BX.out.cell 1, BX.out.cell 2, BX.out.cell 3, BX.out.cell 4, BX.out.cell 5⟩) (fun hHeld => ?_)
    clear hK K
    (try simp only [Act.put, List.setIfInBounds_toArray, List.set_cons_zero, List.set_cons_succ])
    refine wpAnyH_ready (rs := [6]) (by kernel_rfl) (by simp) ?_
    refine AllReadyH.cons (o := ?_) ?_ (fun K hK => ?_) AllReadyH.nil
    rotate_left 1
    · (simp only [List.getElem?_toArray, List.getElem?_cons_zero, List.getElem?_cons_succ]; try rfl)
    have VV := Lib.hid (Own.mono (lit2 (x := x) (y := s) (by omega) (by omega) (y1)) (show w.heap.size + 1 ≤ (y1).heap.size from BX.out.lt))
    have hbA := (Below.refl (y1).heap.size (y1)).alloc (Nat.le_refl _) (.cells #[.int .u8 x, .int .u8 s] 5)
    have BX := Lib.hid (BX.out.below hbA)
    have HB := Lib.hid (HB.out.trans (hbA.mono HB.out.size))
    have HA := Lib.hid (HA.out.below hbA)
    have X := Lib.hid (X.out.below hbA)
    clear hbA
    go_simp
    refine hK.out _ _ (by exact ⟨BX.out.cell 0, BX.out.cell 1, BX.out.cell 2, BX.out.cell 3, BX.out.cell 4, BX.out.cell 5⟩) (fun hHeld => ?_)
    clear hK K
    (try simp only [Act.put, List.setIfInBounds_toArray, List.set_cons_zero, List.set_cons_succ])
    refine wpAnyH_ready (rs := [10]) (by kernel_rfl) (by simp) ?_
    refine AllReadyH.cons (o := ?_) ?_ (fun K hK => ?_) AllReadyH.nil
    rotate_left 1
    · (simp only [List.getElem?_toArray, List.getElem?_cons_zero, List.getElem?_cons_succ]; try rfl)
    refine step_app_bytes9 rfl (.tmp 13) (.tmp 16) rfl _ (Value.slice (some ⟨y1.heap.size, 0, none⟩) 2 2) ([P.u8 x, P.u8 s]) (w2 p) AX (w2 p).length cX rfl rfl rfl (by exact VV.out) (by exact own_bs9 X.out) (by simp [w2_len] <;> omega) (by exact BX.out.lt) ?_
    intro v9 y9 hown hg hv9
    have hg : World.grownBy ((y1).alloc (.cells #[.int .u8 x, .int .u8 s] 5)) y9 ((Value.slice (some ⟨y1.heap.size, 0, none⟩) 2 2)).ownBlock := ⟨hg.os, hg.tape, hg.output, hg.size, hg.block⟩
    have hke := Keeps.of_grown hg
    have hlo := VV.out.range
    have zlo : w.heap.size < w.heap.size + 1 := by omega
    have BX := Lib.hid (BX.out.of_block (hke.block _ BX.out.lt (fun h => by have h1 := hlo _ h; omega)))
    have HB := Lib.hid (HB.out.trans (hke.below (B := w.heap.size) HB.out.size (fun k hk => by have h1 := hlo k hk; omega)))
    have HA := Lib.hid (hA.below HB.out)
    obtain ⟨AV, cV, rfl, lV, kV, _, _, _⟩ := own_plain9 hown
    have VV := Lib.hid hown
    clear hke hg hlo hown
    (try go_simp)
    refine hK.out _ _ (by exact ⟨BX.out.cell 0, BX.out.cell 1, BX.out.cell 2, BX.out.cell 3, BX.out.cell 4, BX.out.cell 5⟩) (fun hHeld => ?_)
    clear hK K
    (try simp only [Act.put, List.setIfInBounds_toArray, List.set_cons_zero, List.set_cons_succ])
    refine wpAnyH_take (i := 11) (oi := ?_) (v := ?_) ?_ ?_ ?_ ?_ ?_ ?_ (by exact hHeld) ?_
    rotate_left 2
    · (simp only [List.getElem?_toArray, List.getElem?_cons_zero, List.getElem?_cons_succ]; try rfl)
    · kernel_rfl
    · kernel_rfl
    · kernel_rfl
    · exact fun _ _ _ h => h
    · refine Or.inl ⟨by rfl, ?_⟩
      (intro V hSV; (try dsimp only at hSV); obtain ⟨q0, q1, q2, q3, q4, q5⟩ := hSV; go_simp; try with_reducible rfl)
    (try simp only [Act.put, List.setIfInBounds_toArray, List.set_cons_zero, List.set_cons_succ])
    refine wpAnyH_done (by kernel_rfl) ?_ _
    refine NoPanic.normal ?_
    go_wp2_with fail
    go_meet
    exact ⟨AV, cV, rfl, by exact VV.out, BX.out, HB.out⟩
  case rest =>
  obtain ⟨AV, cV, rfl, hv, hx, hb⟩ := hcut
  clear x0 x1 x2 x3 x4 x5 HA BX HB
  have VV := Lib.hid hv
  have BX := Lib.hid hx
  have HB := Lib.hid hb
  have HA := Lib.hid (hA.below HB.out)
  have RV := Lib.hid hv.range
  clear hv hx hb
  have x0 := BX.out.cell 0
  have x1 := BX.out.cell 1
  have x2 := BX.out.cell 2
  have x3 := BX.out.cell 3
  have x4 := BX.out.cell 4
  have x5 := BX.out.cell 5
  go_upto_region 4 with fail
  go_cut [3] (fun v wx => ∃ Av cv, v = .slice Av ((([P.u8 x, P.u8 s] ++ w2 p) ++ w2 q) ++ w2 r).length cv ∧ Own wx (w.heap.size + 1) (.slice Av ((([P.u8 x, P.u8 s] ++ w2 p) ++ w2 q) ++ w2 r).length cv) ((([P.u8 x, P.u8 s] ++ w2 p) ++ w2 q) ++ w2 r) ∧ Blk wx w.heap.size #[.int .i64 x, .int .i64 s, .int .i64 p, .int .i64 q, .int .i64 r, .slice A t.length d] 29 ∧ Below w.heap.size w wx)
  case first =>
    have VV := Lib.hid (VV.out.below (bsk4n wc))
    have BX := Lib.hid (BX.out.below (bsk4n wc))
    have HB := Lib.hid (HB.out.drew)
    have HA := Lib.hid (HA.out.below (bsk4n wc))
    refine wp_region_noPanic ?_
    refine wp_region_held_drew (S := (fun V => V.cell? ⟨w.heap.size, 0, none⟩ = some (.int .i64 x) ∧ V.cell? ⟨w.heap.size, 1, none⟩ = some (.int .i64 s) ∧ V.cell? ⟨w.heap.size, 2, none⟩ = some (.int .i64 p) ∧ V.cell? ⟨w.heap.size, 3, none⟩ = some (.int .i64 q) ∧ V.cell? ⟨w.heap.size, 4, none⟩ = some (.int .i64 r) ∧ V.cell? ⟨w.heap.size, 5, none⟩ = some (.slice A t.length d))) (by kernel_rfl) (by exact ⟨x0, x1, x2, x3, x4, x5⟩) (fun hHeld => ?_)
    refine wpAnyH_take (i := 0) (oi := ?_) (v := ?_) ?_ ?_ ?_ ?_ ?_ ?_ (by exact hHeld) ?_
    rotate_left 2
    · (simp only [List.getElem?_toArray, List.getElem?_cons_zero]; try rfl)
    · kernel_rfl
    · kernel_rfl
    · kernel_rfl
    · exact fun _ _ _ h => h
    · refine Or.inl ⟨by rfl, ?_⟩
      (intro V hSV; (try dsimp only at hSV); obtain ⟨q0, q1, q2, q3, q4, q5⟩ := hSV; go_simp; try with_reducible rfl)
    (try simp only [Act.put, List.setIfInBounds_toArray, List.set_cons_zero, List.set_cons_succ])
    refine wpAnyH_take (i := 1) (oi := ?_) (v := ?_) ?_ ?_ ?_ ?_ ?_ ?_ (by exact hHeld) ?_
    rotate_left 2
    · (simp only [List.getElem?_toArray, List.getElem?_cons_zero, List.getElem?_cons_succ]; try rfl)
    · kernel_rfl
    · kernel_rfl
    · kernel_rfl
    · exact fun _ _ _ h => h
    · refine Or.inl ⟨by rfl, ?_⟩
      (intro V hSV; (try dsimp only at hSV); obtain ⟨q0, q1, q2, q3, q4, q5⟩ := hSV; go_simp; try with_reducible rfl)
    (try simp only [Act.put, List.setIfInBounds_toArray, List.set_cons_zero, List.set_cons_succ])
    refine wpAnyH_take (i := 2) (oi := ?_) (v := ?_) ?_ ?_ ?_ ?_ ?_ ?_ (by exact hHeld) ?_
    rotate_left 2
    · (simp only [List.getElem?_toArray, List.getElem?_cons_zero, List.getElem?_cons_succ]; try rfl)
    · kernel_rfl
    · kernel_rfl
    · kernel_rfl
    · exact fun _ _ _ h => h
    · refine Or.inl ⟨by rfl, ?_⟩
      (intro V hSV; (try dsimp only at hSV); obtain ⟨q0, q1, q2, q3, q4, q5⟩ := hSV; go_simp; try with_reducible rfl)
    (try simp only [Act.put, List.setIfInBounds_toArray, List.set_cons_zero, List.set_cons_succ])
    refine wpAnyH_take (i := 5) (oi := ?_) (v := ?_) ?_ ?_ ?_ ?_ ?_ ?_ (by exact hHeld) ?_
    rotate_left 2
    · (simp only [List.getElem?_toArray, List.getElem?_cons_zero, List.getElem?_cons_succ]; try rfl)
    · kernel_rfl
    · kernel_rfl
    · kernel_rfl
    · exact fun _ _ _ h => h
    · refine Or.inl ⟨by rfl, ?_⟩
      (intro V hSV; (try dsimp only at hSV); obtain ⟨q0, q1, q2, q3, q4, q5⟩ := hSV; go_simp; try with_reducible rfl)
    (try simp only [Act.put, List.setIfInBounds_toArray, List.set_cons_zero, List.set_cons_succ])
    refine wpAnyH_take (i := 6) (oi := ?_) (v := ?_) ?_ ?_ ?_ ?_ ?_ ?_ (by exact hHeld) ?_
    rotate_left 2
    · (simp only [List.getElem?_toArray, List.getElem?_cons_zero, List.getElem?_cons_succ]; try rfl)
    · kernel_rfl
    · kernel_rfl
    · kernel_rfl
    · exact fun _ _ _ h => h
    · refine Or.inl ⟨by rfl, ?_⟩
      (intro V hSV; (try dsimp only at hSV); obtain ⟨q0, q1, q2, q3, q4, q5⟩ := hSV; go_simp; try with_reducible rfl)
    (try simp only [Act.put, List.setIfInBounds_toArray, List.set_cons_zero, List.set_cons_succ])
    refine wpAnyH_ready (rs := [3]) (by kernel_rfl) (by simp) ?_
    refine AllReadyH.cons (o := ?_) ?_ (fun K hK => ?_) AllReadyH.nil
    rotate_left 1
    · (simp only [List.getElem?_toArray, List.getElem?_cons_zero, List.getElem?_cons_succ]; try rfl)
    go_simp
    refine (l09Two_any q _ (by omega) (by omega)).mono ?_
    rintro e y1 ⟨v, rfl, hown, hb⟩
    have hb : Below (wc.drew).heap.size (wc.drew) y1 := ⟨hb.os, hb.tape, hb.output, hb.size, hb.block⟩
    have hown : Own y1 (wc.drew).heap.size v (w2 q) := hown
    obtain ⟨AX, cX, rfl, lX, kX, _, _, _⟩ := own_plain9 hown
    have X := Lib.hid hown
    have BX := Lib.hid (BX.out.below hb)
    have HB := Lib.hid (HB.out.trans (hb.mono HB.out.size))
    have HA := Lib.hid (HA.out.below hb)
    have VV := Lib.hid (VV.out.below hb)
    have HZ1 := Lib.hid (show wc.heap.size ≤ y1.heap.size from hb.size)
    clear hb hown
    go_wp2_with fail
    refine hK.out _ _ (by exact ⟨BX.out.cell 0, BX.out.cell 1, BX.out.cell 2, BX.out.cell 3, BX.out.cell 4, BX.out.cell 5⟩) (fun hHeld => ?_)
    clear hK K
    (try simp only [Act.put, List.setIfInBounds_toArray, List.set_cons_zero, List.set_cons_succ])
    refine wpAnyH_ready (rs := [4]) (by kernel_rfl) (by simp) ?_
    refine AllReadyH.cons (o := ?_) ?_ (fun K hK => ?_) AllReadyH.nil
    rotate_left 1
    · (simp only [List.getElem?_toArray, List.getElem?_cons_zero, List.getElem?_cons_succ]; try rfl)
    refine step_app_bytes9 rfl (.tmp 18) (.tmp 21) rfl _ (Value.slice AV ([P.u8 x, P.u8 s] ++ w2 p).length cV) ([P.u8 x, P.u8 s] ++ w2 p) (w2 q) AX (w2 q).length cX rfl rfl rfl (by exact VV.out) (by exact own_bs9 X.out) (by simp [w2_len] <;> omega) (by exact BX.out.lt) ?_
    intro v9 y2 hown hg hv9
    have hg : World.grownBy (y1) y2 ((Value.slice AV ([P.u8 x, P.u8 s] ++ w2 p).length cV)).ownBlock := ⟨hg.os, hg.tape, hg.output, hg.size, hg.block⟩
    have hke := Keeps.of_grown hg
    have hlo := VV.out.range
    have zlo : w.heap.size < w.heap.size + 1 := by omega
    have BX := Lib.hid (BX.out.of_block (hke.block _ BX.out.lt (fun h => by have h1 := hlo _ h; omega)))
    have HB := Lib.hid (HB.out.trans (hke.below (B := w.heap.size) HB.out.size (fun k hk => by have h1 := hlo k hk; omega)))
    have HA := Lib.hid (hA.below HB.out)
    obtain ⟨AV, cV, rfl, lV, kV, _, _, _⟩ := own_plain9 hown
    have VV := Lib.hid hown
    clear hke hg hlo hown
    (try go_simp)
    refine hK.out _ _ (by exact ⟨BX.out.cell 0, BX.out.cell 1, BX.out.cell 2, BX.out.cell 3, BX.out.cell 4, BX.out.cell 5⟩) (fun hHeld => ?_)
    clear hK K
    (try simp only [Act.put, List.setIfInBounds_toArray, List.set_cons_zero, List.set_cons_succ])
    refine wpAnyH_ready (rs := [7]) (by kernel_rfl) (by simp) ?_
    refine AllReadyH.cons (o := ?_) ?_ (fun K hK => ?_) AllReadyH.nil
    rotate_left 1
    · (simp only [List.getElem?_toArray, List.getElem?_cons_zero, List.getElem?_cons_succ]; try rfl)
    go_simp
    refine (l09Two_any r _ (by omega) (by omega)).mono ?_
    rintro e y3 ⟨v, rfl, hown, hb⟩
    have hb : Below (y2).heap.size (y2) y3 := ⟨hb.os, hb.tape, hb.output, hb.size, hb.block⟩
    have hown : Own y3 (y2).heap.size v (w2 r) := hown
    obtain ⟨AX, cX, rfl, lX, kX, _, _, _⟩ := own_plain9 hown
    have X := Lib.hid hown
    have BX := Lib.hid (BX.out.below hb)
    have HB := Lib.hid (HB.out.trans (hb.mono HB.out.size))
    have HA := Lib.hid (HA.out.below hb)
    have VV := Lib.hid (VV.out.below hb)
    clear hb hown
    go_wp2_with fail
    refine hK.out _ _ (by exact ⟨BX.out.cell 0, BX.out.cell 1, BX.out.cell 2, BX.out.cell 3, BX.out.cell 4, BX.out.cell 5⟩) (fun hHeld => ?_)
    clear hK K
    (try simp only [Act.put, List.setIfInBounds_toArray, List.set_cons_zero, List.set_cons_succ])
    refine wpAnyH_ready (rs := [8]) (by kernel_rfl) (by simp) ?_
    refine AllReadyH.cons (o := ?_) ?_ (fun K hK => ?_) AllReadyH.nil
    rotate_left 1
    · (simp only [List.getElem?_toArray, List.getElem?_cons_zero, List.getElem?_cons_succ]; try rfl)
    refine step_app_bytes9 rfl (.tmp 22) (.tmp 25) rfl _ (Value.slice AV (([P.u8 x, P.u8 s] ++ w2 p) ++ w2 q).length cV) (([P.u8 x, P.u8 s] ++ w2 p) ++ w2 q) (w2 r) AX (w2 r).length cX rfl rfl rfl (by exact VV.out) (by exact own_bs9 X.out) (by simp [w2_len] <;> omega) (by exact BX.out.lt) ?_
    intro v9 y4 hown hg hv9
    have hg : World.grownBy (y3) y4 ((Value.slice AV (([P.u8 x, P.u8 s] ++ w2 p) ++ w2 q).length cV)).ownBlock := ⟨hg.os, hg.tape, hg.output, hg.size, hg.block⟩
    have hke := Keeps.of_grown hg
    have hlo := VV.out.range
    have zlo : w.heap.size < w.heap.size + 1 := by omega
    have BX := Lib.hid (BX.out.of_block (hke.block _ BX.out.lt (fun h => by have h1 := hlo _ h; omega)))
    have HB := Lib.hid (HB.out.trans (hke.below (B := w.heap.size) HB.out.size (fun k hk => by have h1 := hlo k hk; omega)))
    have HA := Lib.hid (hA.below HB.out)
    obtain ⟨AV, cV, rfl, lV, kV, _, _, _⟩ := own_plain9 hown
    have VV := Lib.hid hown
    clear hke hg hlo hown
    (try go_simp)
    refine hK.out _ _ (by exact ⟨BX.out.cell 0, BX.out.cell 1, BX.out.cell 2, BX.out.cell 3, BX.out.cell 4, BX.out.cell 5⟩) (fun hHeld => ?_)
    clear hK K
    (try simp only [Act.put, List.setIfInBounds_toArray, List.set_cons_zero, List.set_cons_succ])
    refine wpAnyH_take (i := 9) (oi := ?_) (v := ?_) ?_ ?_ ?_ ?_ ?_ ?_ (by exact hHeld) ?_
    rotate_left 2
    · (simp only [List.getElem?_toArray, List.getElem?_cons_zero, List.getElem?_cons_succ]; try rfl)
    · kernel_rfl
    · kernel_rfl
    · kernel_rfl
    · exact fun _ _ _ h => h
    · refine Or.inl ⟨by rfl, ?_⟩
      (intro V hSV; (try dsimp only at hSV); obtain ⟨q0, q1, q2, q3, q4, q5⟩ := hSV; go_simp; try with_reducible rfl)
    (try simp only [Act.put, List.setIfInBounds_toArray, List.set_cons_zero, List.set_cons_succ])
    refine wpAnyH_done (by kernel_rfl) ?_ _
    refine NoPanic.normal ?_
    go_wp2_with fail
    go_meet
    exact ⟨AV, cV, rfl, by exact VV.out, BX.out, HB.out⟩
  case rest =>
  obtain ⟨AV, cV, rfl, hv, hx, hb⟩ := hcut
  clear x0 x1 x2 x3 x4 x5 HA BX HB
  have VV := Lib.hid hv
  have BX := Lib.hid hx
  have HB := Lib.hid hb
  have HA := Lib.hid (hA.below HB.out)
  have RV := Lib.hid hv.range
  clear hv hx hb
  have x0 := BX.out.cell 0
  have x1 := BX.out.cell 1
  have x2 := BX.out.cell 2
  have x3 := BX.out.cell 3
  have x4 := BX.out.cell 4
  have x5 := BX.out.cell 5
  go_upto_region 5 with fail
  have VV := Lib.hid (VV.out.below (bsk4n wc))
  have BX := Lib.hid (BX.out.below (bsk4n wc))
  have HB := Lib.hid (HB.out.drew)
  have HA := Lib.hid (HA.out.below (bsk4n wc))
  refine wp_region_held_drew (S := (fun V => V.cell? ⟨w.heap.size, 0, none⟩ = some (.int .i64 x) ∧ V.cell? ⟨w.heap.size, 1, none⟩ = some (.int .i64 s) ∧ V.cell? ⟨w.heap.size, 2, none⟩ = some (.int .i64 p) ∧ V.cell? ⟨w.heap.size, 3, none⟩ = some (.int .i64 q) ∧ V.cell? ⟨w.heap.size, 4, none⟩ = some (.int .i64 r) ∧ V.cell? ⟨w.heap.size, 5, none⟩ = some (.slice A t.length d))) (by kernel_rfl) (by exact ⟨x0, x1, x2, x3, x4, x5⟩) (fun hHeld => ?_)
  refine wpAnyH_take (i := 0) (oi := ?_) (v := ?_) ?_ ?_ ?_ ?_ ?_ ?_ (by exact hHeld) ?_
  rotate_left 2
  · (simp only [List.getElem?_toArray, List.getElem?_cons_zero]; try rfl)
  · kernel_rfl
  · kernel_rfl
  · kernel_rfl
  · exact fun _ _ _ h => h
  · refine Or.inl ⟨by rfl, ?_⟩
    (intro V hSV; (try dsimp only at hSV); obtain ⟨q0, q1, q2, q3, q4, q5⟩ := hSV; go_simp; try with_reducible rfl)
  (try simp only [Act.put, List.setIfInBounds_toArray, List.set_cons_zero, List.set_cons_succ])
  refine wpAnyH_take (i := 1) (oi := ?_) (v := ?_) ?_ ?_ ?_ ?_ ?_ ?_ (by exact hHeld) ?_
  rotate_left 2
  · (simp only [List.getElem?_toArray, List.getElem?_cons_zero, List.getElem?_cons_succ]; try rfl)
  · kernel_rfl
  · kernel_rfl
  · kernel_rfl
  · exact fun _ _ _ h => h
  · refine Or.inl ⟨by rfl, ?_⟩
    (intro V hSV; (try dsimp only at hSV); obtain ⟨q0, q1, q2, q3, q4, q5⟩ := hSV; go_simp; try with_reducible rfl)
  (try simp only [Act.put, List.setIfInBounds_toArray, List.set_cons_zero, List.set_cons_succ])
  refine wpAnyH_take (i := 2) (oi := ?_) (v := ?_) ?_ ?_ ?_ ?_ ?_ ?_ (by exact hHeld) ?_
  rotate_left 2
  · (simp only [List.getElem?_toArray, List.getElem?_cons_zero, List.getElem?_cons_succ]; try rfl)
  · kernel_rfl
  · kernel_rfl
  · kernel_rfl
  · exact fun _ _ _ h => h
  · refine Or.inl ⟨by rfl, ?_⟩
    (intro V hSV; (try dsimp only at hSV); obtain ⟨q0, q1, q2, q3, q4, q5⟩ := hSV; go_simp; try with_reducible rfl)
  (try simp only [Act.put, List.setIfInBounds_toArray, List.set_cons_zero, List.set_cons_succ])
  refine wpAnyH_take (i := 3) (oi := ?_) (v := ?_) ?_ ?_ ?_ ?_ ?_ ?_ (by exact hHeld) ?_
  rotate_left 2
  · (simp only [List.getElem?_toArray, List.getElem?_cons_zero, List.getElem?_cons_succ]; try rfl)
  · kernel_rfl
  · kernel_rfl
  · kernel_rfl
  · exact fun _ _ _ h => h
  · refine Or.inl ⟨by rfl, ?_⟩
    (intro V hSV; (try dsimp only at hSV); obtain ⟨q0, q1, q2, q3, q4, q5⟩ := hSV; go_simp; try with_reducible rfl)
  (try simp only [Act.put, List.setIfInBounds_toArray, List.set_cons_zero, List.set_cons_succ])
  refine wpAnyH_take (i := 4) (oi := ?_) (v := ?_) ?_ ?_ ?_ ?_ ?_ ?_ (by exact hHeld) ?_
  rotate_left 2
  · (simp only [List.getElem?_toArray, List.getElem?_cons_zero, List.getElem?_cons_succ]; try rfl)
  · kernel_rfl
  · kernel_rfl
  · kernel_rfl
  · exact fun _ _ _ h => h
  · refine Or.inl ⟨by rfl, ?_⟩
    (intro V hSV; (try dsimp only at hSV); obtain ⟨q0, q1, q2, q3, q4, q5⟩ := hSV; go_simp; try with_reducible rfl)
  (try simp only [Act.put, List.setIfInBounds_toArray, List.set_cons_zero, List.set_cons_succ])
  refine wpAnyH_take (i := 7) (oi := ?_) (v := ?_) ?_ ?_ ?_ ?_ ?_ ?_ (by exact hHeld) ?_
  rotate_left 2
  · (simp only [List.getElem?_toArray, List.getElem?_cons_zero, List.getElem?_cons_succ]; try rfl)
  · kernel_rfl
  · kernel_rfl
  · kernel_rfl
  · exact fun _ _ _ h => h
  · refine Or.inl ⟨by rfl, ?_⟩
    (intro V hSV; (try dsimp only at hSV); obtain ⟨q0, q1, q2, q3, q4, q5⟩ := hSV; go_simp; try with_reducible rfl)
  (try simp only [Act.put, List.setIfInBounds_toArray, List.set_cons_zero, List.set_cons_succ])
  refine wpAnyH_take (i := 8) (oi := ?_) (v := ?_) ?_ ?_ ?_ ?_ ?_ ?_ (by exact hHeld) ?_
  rotate_left 2
  · (simp only [List.getElem?_toArray, List.getElem?_cons_zero, List.getElem?_cons_succ]; try rfl)
  · kernel_rfl
  · kernel_rfl
  · kernel_rfl
  · exact fun _ _ _ h => h
  · refine Or.inl ⟨by rfl, ?_⟩
    (intro V hSV; (try dsimp only at hSV); obtain ⟨q0, q1, q2, q3, q4, q5⟩ := hSV; go_simp; try with_reducible rfl)
  (try simp only [Act.put, List.setIfInBounds_toArray, List.set_cons_zero, List.set_cons_succ])
  refine wpAnyH_ready (rs := [5]) (by kernel_rfl) (by simp) ?_
  refine AllReadyH.cons (o := ?_) ?_ (fun K hK => ?_) AllReadyH.nil
  rotate_left 1
  · (simp only [List.getElem?_toArray, List.getElem?_cons_zero, List.getElem?_cons_succ]; try rfl)
  have Z := Lib.hid (Own.mono (lit1 (x := (t.length : Int)) (by omega) (wc.drew)) (show w.heap.size + 1 ≤ (wc.drew).heap.size from BX.out.lt))
  have hbA := (Below.refl (wc.drew).heap.size (wc.drew)).alloc (Nat.le_refl _) (.cells #[.int .u8 (t.length : Int)] 5)
  have BX := Lib.hid (BX.out.below hbA)
  have HB := Lib.hid (HB.out.trans (hbA.mono HB.out.size))
  have HA := Lib.hid (HA.out.below hbA)
  have VV := Lib.hid (VV.out.below hbA)
  clear hbA
  go_simp
  refine hK.out _ _ (by exact ⟨BX.out.cell 0, BX.out.cell 1, BX.out.cell 2, BX.out.cell 3, BX.out.cell 4, BX.out.cell 5⟩) (fun hHeld => ?_)
  clear hK K
  (try simp only [Act.put, List.setIfInBounds_toArray, List.set_cons_zero, List.set_cons_succ])
  refine wpAnyH_ready (rs := [6]) (by kernel_rfl) (by simp) ?_
  refine AllReadyH.cons (o := ?_) ?_ (fun K hK => ?_) AllReadyH.nil
  rotate_left 1
  · (simp only [List.getElem?_toArray, List.getElem?_cons_zero, List.getElem?_cons_succ]; try rfl)
  refine step_app_bytes9 rfl (.tmp 27) (.tmp 32) rfl _ (Value.slice AV ((([P.u8 x, P.u8 s] ++ w2 p) ++ w2 q) ++ w2 r).length cV) ((([P.u8 x, P.u8 s] ++ w2 p) ++ w2 q) ++ w2 r) [P.u8 (t.length : Int)] (some ⟨wc.heap.size, 0, none⟩) 1 1 rfl rfl rfl (by exact VV.out) (by exact own_bs9 Z.out) (by simp [w2_len] <;> omega) (by exact BX.out.lt) ?_
  intro v9 y8 hown hg hv9
  have hg : World.grownBy ((wc.drew).alloc (.cells #[.int .u8 (t.length : Int)] 5)) y8 ((Value.slice AV ((([P.u8 x, P.u8 s] ++ w2 p) ++ w2 q) ++ w2 r).length cV)).ownBlock := ⟨hg.os, hg.tape, hg.output, hg.size, hg.block⟩
  have hke := Keeps.of_grown hg
  have hlo := VV.out.range
  have zlo : w.heap.size < w.heap.size + 1 := by omega
  have BX := Lib.hid (BX.out.of_block (hke.block _ BX.out.lt (fun h => by have h1 := hlo _ h; omega)))
  have HB := Lib.hid (HB.out.trans (hke.below (B := w.heap.size) HB.out.size (fun k hk => by have h1 := hlo k hk; omega)))
  have HA := Lib.hid (hA.below HB.out)
  obtain ⟨AV, cV, rfl, lV, kV, _, _, _⟩ := own_plain9 hown
  have VV := Lib.hid hown
  clear hke hg hlo hown
  (try go_simp)
  refine hK.out _ _ (by exact ⟨BX.out.cell 0, BX.out.cell 1, BX.out.cell 2, BX.out.cell 3, BX.out.cell 4, BX.out.cell 5⟩) (fun hHeld => ?_)
  clear hK K
  (try simp only [Act.put, List.setIfInBounds_toArray, List.set_cons_zero, List.set_cons_succ])
  refine wpAnyH_ready (rs := [9]) (by kernel_rfl) (by simp) ?_
  refine AllReadyH.cons (o := ?_) ?_ (fun K hK => ?_) AllReadyH.nil
  rotate_left 1
  · (simp only [List.getElem?_toArray, List.getElem?_cons_zero, List.getElem?_cons_succ]; try rfl)
  refine step_app_bytes9 rfl (.tmp 33) (.tmp 35) rfl _ (Value.slice AV (((([P.u8 x, P.u8 s] ++ w2 p) ++ w2 q) ++ w2 r) ++ [P.u8 (t.length : Int)]).length cV) (((([P.u8 x, P.u8 s] ++ w2 p) ++ w2 q) ++ w2 r) ++ [P.u8 (t.length : Int)]) t A t.length d rfl rfl rfl (by exact VV.out) (by exact HA.out) (by simp [w2_len] <;> omega) (by exact BX.out.lt) ?_
  intro v9 y9 hown hg hv9
  have hg : World.grownBy (y8) y9 ((Value.slice AV (((([P.u8 x, P.u8 s] ++ w2 p) ++ w2 q) ++ w2 r) ++ [P.u8 (t.length : Int)]).length cV)).ownBlock := ⟨hg.os, hg.tape, hg.output, hg.size, hg.block⟩
  have hke := Keeps.of_grown hg
  have hlo := VV.out.range
  have zlo : w.heap.size < w.heap.size + 1 := by omega
  have BX := Lib.hid (BX.out.of_block (hke.block _ BX.out.lt (fun h => by have h1 := hlo _ h; omega)))
  have HB := Lib.hid (HB.out.trans (hke.below (B := w.heap.size) HB.out.size (fun k hk => by have h1 := hlo k hk; omega)))
  have HA := Lib.hid (hA.below HB.out)
  obtain ⟨AV, cV, rfl, lV, kV, _, _, _⟩ := own_plain9 hown
  have VV := Lib.hid hown
  clear hke hg hlo hown
  (try go_simp)
  refine hK.out _ _ (by exact ⟨BX.out.cell 0, BX.out.cell 1, BX.out.cell 2, BX.out.cell 3, BX.out.cell 4, BX.out.cell 5⟩) (fun hHeld => ?_)
  clear hK K
  (try simp only [Act.put, List.setIfInBounds_toArray, List.set_cons_zero, List.set_cons_succ])
  refine wpAnyH_take (i := 10) (oi := ?_) (v := ?_) ?_ ?_ ?_ ?_ ?_ ?_ (by exact hHeld) ?_
  rotate_left 2
  · (simp only [List.getElem?_toArray, List.getElem?_cons_zero, List.getElem?_cons_succ]; try rfl)
  · kernel_rfl
  · kernel_rfl
  · kernel_rfl
  · exact fun _ _ _ h => h
  · refine Or.inl ⟨by rfl, ?_⟩
    (intro V hSV; (try dsimp only at hSV); obtain ⟨q0, q1, q2, q3, q4, q5⟩ := hSV; go_simp; try with_reducible rfl)
  (try simp only [Act.put, List.setIfInBounds_toArray, List.set_cons_zero, List.set_cons_succ])
  refine wpAnyH_done (by kernel_rfl) ?_ _
  go_wp2
  go_ret
  refine ⟨_, rfl, ?_, HB.out⟩
  have hE := HE.out
  unfold rqEnc at hE
  have hR2 := VV.out.mono (base' := w.heap.size) (Nat.le_succ _)
  rw [← hE]
  simpa using hR2
end Go.Proofs.YtgpjjolgpppeeaaDoor
