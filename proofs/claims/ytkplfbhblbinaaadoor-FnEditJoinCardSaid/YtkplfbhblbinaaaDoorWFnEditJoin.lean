/-
  FnEditJoin, its walk. Own work.
-/
import Derived.Test.YtkplfbhblbinaaaDoorLaw
import Derived.Test.YtkplfbhblbinaaaDoorJ08
import Derived.Test.YtkplfbhblbinaaaDoorCur16
import Derived.Deep.RegionHeld3
namespace Go.Proofs.YtkplfbhblbinaaaDoor.fnEditJoin
open Go.ChangeShapes Go.WideShapes Go.ChangeAt Go.RowKit P
set_option linter.unusedVariables false
set_option maxRecDepth 100000

set_option maxHeartbeats 16000000 in
theorem walk (A : Option Addr) (l : List UInt8) (c : Nat) (hc : l.length ≤ c) (hm : c ≤ maxLen) (w : World) (hB : Bs w A l) (hT : Tab w) :
    Calls Tryd.prog 5 #[.slice A l.length c] w fun e w' => e = .returned (.bool true) ∧ Below w.heap.size w w' := by
  by_cases hbig : 1048576 < l.length
  · have hb : decide (1048576 < l.length) = true := decide_eq_true hbig
    have HBG := Lib.hid hb
    clear hb hbig
    go_enter Tryd.func5, Tryd.ntmps5
    go_wp2_with (go_at_call 12; refine (big_any _ _ _ _).mono ?_; rintro e w' ⟨rfl, rfl⟩; rw [HBG.out])
    go_ret
    exact ⟨rfl, Below.refl _ _⟩
  have hl : l.length ≤ 1048576 := by omega
  have hb : decide (1048576 < l.length) = false := decide_eq_false hbig
  have HBG := Lib.hid hb
  clear hb hbig hc hm
  go_enter Tryd.func5, Tryd.ntmps5
  go_wp2_with fail
  refine (big_any _ _ _ _).mono ?_
  rintro e w0 ⟨rfl, rfl⟩
  rw [HBG.out]
  go_wp2_with fail
  refine (drawEditJoin_any A l c _ hl (by exact hB)).mono ?_
  rintro e w1 ⟨a, m, A1, p, c1, b, n, B1, q, d1, rfl, ha, hm, hp5, hc1, hc19, hP1, hbb, hnn, hq5, hd1, hd19, hQ1, hX1, hY1, hb1⟩
  have hal1 := (Below.refl w1.heap.size w1).alloc (Nat.le_refl _) (.cells #[.int .i64 a, .int .i64 m, .slice A1 p.length c1] 25)
  have hal := hal1.alloc (by simp) (.cells #[.int .i64 b, .int .i64 n, .slice B1 q.length d1] 25)
  have HA := Lib.hid ((EBox.new w1 a m A1 p.length c1).below ((Below.refl _ _).alloc (Nat.le_refl _) (.cells #[.int .i64 b, .int .i64 n, .slice B1 q.length d1] 25)))
  have hBx := EBox.new (w1.alloc (.cells #[.int .i64 a, .int .i64 m, .slice A1 p.length c1] 25)) b n B1 q.length d1
  simp only [World.size_alloc] at hBx
  have HBB := Lib.hid hBx
  have HY := Lib.hid (hX1.below hal)
  have HQ := Lib.hid (hY1.below hal)
  have HAL := Lib.hid (below_then hb1 hal)
  obtain ⟨z, hz⟩ : ∃ z, joinOk a m p b n q = z := ⟨_, rfl⟩
  obtain ⟨ra, hra⟩ : ∃ z, joinA a m p b n q = z := ⟨_, rfl⟩
  obtain ⟨rm, hrm⟩ : ∃ z, joinM a m p b n q = z := ⟨_, rfl⟩
  obtain ⟨R, hR⟩ : ∃ z, joinP a m p b n q = z := ⟨_, rfl⟩
  have hRl : R.length ≤ 400 := by rw [← hR]; exact joinP_len a m p b n q
  have hrm9 : rm ≤ 9223372036854775807 := by rw [← hrm]; unfold joinM; split <;> omega
  have HZ := Lib.hid hz
  have HRA := Lib.hid hra
  have HRM := Lib.hid hrm
  have HR := Lib.hid hR
  have hzz : (z != z) = false := by simp
  have hze : (z == z) = true := by simp
  clear hz hra hrm hR hal hal1 hX1 hY1 hb1 hBx HBG
  have k0 := HA.out.c0
  have k1 := HA.out.c1
  have k2 := HA.out.c2
  have u0 := HBB.out.c0
  have u1 := HBB.out.c1
  have u2 := HBB.out.c2
  go_wp2_with fail
  generalize (w1.alloc (.cells #[.int .i64 a, .int .i64 m, .slice A1 p.length c1] 25)).alloc (.cells #[.int .i64 b, .int .i64 n, .slice B1 q.length d1] 25) = W1 at *
  refine (specEditJoin_any a m A1 p c1 b n B1 q d1 _ hc1 hc19 hd1 hd19 hP1 (by exact HY.out) (by exact HQ.out)).mono ?_
  rintro e w2 ⟨v, rfl, hown, hb⟩
  rw [HZ.out, HRA.out, HRM.out]
  rw [HR.out] at hown
  obtain ⟨fA, fc, rfl, fh, fk, hBv, fp, fq⟩ := own_plain9 hown
  have hal := (Below.refl w2.heap.size w2).alloc (Nat.le_refl _) (.cells #[.int .i64 ra, .int .i64 rm, .slice fA R.length fc] 25)
  have hb2 := below_then hb hal
  have HA := Lib.hid (HA.out.below hb2)
  have HBB := Lib.hid (HBB.out.below hb2)
  have HY := Lib.hid (HY.out.below hb2)
  have HQ := Lib.hid (HQ.out.below hb2)
  have HAL := Lib.hid (below_then HAL.out hb2)
  have FB := Lib.hid (EBox.new w2 ra rm fA R.length fc)
  have FBY := Lib.hid (hBv.below hal)
  have fP : Pl fA fc := by unfold Pl; exact ⟨fp, fq⟩
  clear k0 k1 k2 u0 u1 u2
  clear hown hb hb2 hal hBv
  have k0 := HA.out.c0
  have k1 := HA.out.c1
  have k2 := HA.out.c2
  have u0 := HBB.out.c0
  have u1 := HBB.out.c1
  have u2 := HBB.out.c2
  go_wp2_with fail
  generalize w2.alloc (.cells #[.int .i64 ra, .int .i64 rm, .slice fA R.length fc] 25) = W2 at *
  refine (implEditJoin_any a m A1 p c1 b n B1 q d1 _ hc1 hc19 hd1 hd19 hP1 (by exact HY.out) (by exact HQ.out)).mono ?_
  rintro e w3 ⟨v, rfl, hown, hb⟩
  rw [HZ.out, HRA.out, HRM.out]
  rw [HR.out] at hown
  obtain ⟨gA, gc, rfl, gh, gk, hBv, gp, gq⟩ := own_plain9 hown
  have hal := (Below.refl w3.heap.size w3).alloc (Nat.le_refl _) (.cells #[.int .i64 ra, .int .i64 rm, .slice gA R.length gc] 25)
  have hb2 := below_then hb hal
  have HA := Lib.hid (HA.out.below hb2)
  have HBB := Lib.hid (HBB.out.below hb2)
  have HY := Lib.hid (HY.out.below hb2)
  have HQ := Lib.hid (HQ.out.below hb2)
  have FB := Lib.hid (FB.out.below hb2)
  have FBY := Lib.hid (FBY.out.below hb2)
  have HAL := Lib.hid (below_then HAL.out hb2)
  have GB := Lib.hid (EBox.new w3 ra rm gA R.length gc)
  have GBY := Lib.hid (hBv.below hal)
  have gP : Pl gA gc := by unfold Pl; exact ⟨gp, gq⟩
  clear k0 k1 k2 u0 u1 u2
  clear hown hb hb2 hal hBv
  have k0 := HA.out.c0
  have k1 := HA.out.c1
  have k2 := HA.out.c2
  have u0 := HBB.out.c0
  have u1 := HBB.out.c1
  have u2 := HBB.out.c2
  have s0 := FB.out.c0
  have s1 := FB.out.c1
  have s2 := FB.out.c2
  have r0 := GB.out.c0
  have r1 := GB.out.c1
  have r2 := GB.out.c2
  go_wp2_with fail
  generalize w3.alloc (.cells #[.int .i64 ra, .int .i64 rm, .slice gA R.length gc] 25) = W3 at *
  refine (sameEdit_any ra rm gA fA R gc fc _ (by exact GBY.out) (by exact FBY.out)).mono ?_
  rintro e w4 ⟨rfl, hb⟩
  have HA := Lib.hid (HA.out.below hb)
  have HBB := Lib.hid (HBB.out.below hb)
  have HY := Lib.hid (HY.out.below hb)
  have HQ := Lib.hid (HQ.out.below hb)
  have FB := Lib.hid (FB.out.below hb)
  have FBY := Lib.hid (FBY.out.below hb)
  have GB := Lib.hid (GB.out.below hb)
  have GBY := Lib.hid (GBY.out.below hb)
  have HAL := Lib.hid (below_then HAL.out hb)
  clear hb s0 s1 s2 r0 r1 r2 k0 k1 k2 u0 u1 u2
  have k0 := HA.out.c0
  have k1 := HA.out.c1
  have k2 := HA.out.c2
  have u0 := HBB.out.c0
  have u1 := HBB.out.c1
  have u2 := HBB.out.c2
  have s0 := FB.out.c0
  have s1 := FB.out.c1
  have s2 := FB.out.c2
  have r0 := GB.out.c0
  have r1 := GB.out.c1
  have r2 := GB.out.c2
  cases z
  · go_wp2_with fail
    refine (sameEdit_any ra rm gA fA R gc fc _ (by exact GBY.out) (by exact FBY.out)).mono ?_
    rintro e w5 ⟨rfl, hb⟩
    have hb9 := below_then HAL.out hb
    go_wp2
    go_ret
    exact ⟨rfl, hb9⟩
  have hj := HZ.out
  obtain ⟨sa, sb, hab, hov, hjp⟩ := (joinOk_iff a m p b n q).1 hj
  have s1 := (edSmall_iff a m p).1 sa
  have s2 := (edSmall_iff b n q).1 sb
  have era : ra = a := by rw [← HRA.out]; unfold joinA; rw [hj]; rfl
  have erm : rm = m := by rw [← HRM.out]; unfold joinM; rw [hj]; rfl
  have eR : R = joinPut a p b n q := by rw [← HR.out]; unfold joinP; rw [hj]; rfl
  have HJ := Lib.hid hj
  have ERA := Lib.hid era
  have ERM := Lib.hid erm
  have ER := Lib.hid eR
  have hwr : IntKind.i64.wrap (a + m) = a + m := IntWalk.i64_in _ ⟨by omega, by omega⟩
  have HBL := Lib.hid (hB.below HAL.out)
  clear hj sa sb hjp era erm eR hze hzz HRA HRM HR
  go_upto_region 8 with fail
  go_cut [9] (fun t wx => ∃ (tb k : Nat), t = .slice (some ⟨tb, 0, none⟩) k k ∧ k ≤ 400 ∧ wx.rowIs tb 5 k (fun _ => .int .u8 0) ∧ w4.heap.size ≤ tb ∧ Below w4.heap.size w4 wx)
  case first =>
    refine wp_region_noPanic ?_
    refine wp_region_held_drew (S := (fun V => V.cell? ⟨w1.heap.size, 0, none⟩ = some (.int .i64 a) ∧ V.cell? ⟨w1.heap.size, 1, none⟩ = some (.int .i64 m) ∧ V.cell? ⟨w1.heap.size, 2, none⟩ = some (.slice A1 p.length c1))) (by kernel_rfl) (by exact ⟨k0, k1, k2⟩) (fun hHeld => ?_)
    clear k0 k1 k2 u0 u1 u2
    refine wpAnyH_take (i := 0) (oi := ?_) (v := ?_) ?_ ?_ ?_ ?_ ?_ ?_ (by exact hHeld) ?_
    rotate_left 2
    · (simp only [List.getElem?_toArray, List.getElem?_cons_zero]; try rfl)
    · kernel_rfl
    · kernel_rfl
    · kernel_rfl
    · exact fun _ _ _ h => h
    · refine Or.inl ⟨by rfl, ?_⟩
      (intro V hSV; (try dsimp only at hSV); obtain ⟨q0, q1, q2⟩ := hSV; go_simp; try with_reducible rfl)
    (try simp only [Act.put, List.setIfInBounds_toArray, List.set_cons_zero, List.set_cons_succ])
    refine wpAnyH_take (i := 1) (oi := ?_) (v := ?_) ?_ ?_ ?_ ?_ ?_ ?_ (by exact hHeld) ?_
    rotate_left 2
    · (simp only [List.getElem?_toArray, List.getElem?_cons_zero, List.getElem?_cons_succ]; try rfl)
    · kernel_rfl
    · kernel_rfl
    · kernel_rfl
    · exact fun _ _ _ h => h
    · refine Or.inl ⟨by rfl, ?_⟩
      (intro V hSV; (try dsimp only at hSV); obtain ⟨q0, q1, q2⟩ := hSV; go_simp; try with_reducible rfl)
    (try simp only [Act.put, List.setIfInBounds_toArray, List.set_cons_zero, List.set_cons_succ])
    refine wpAnyH_take (i := 2) (oi := ?_) (v := ?_) ?_ ?_ ?_ ?_ ?_ ?_ (by exact hHeld) ?_
    rotate_left 2
    · (simp only [List.getElem?_toArray, List.getElem?_cons_zero, List.getElem?_cons_succ]; try rfl)
    · kernel_rfl
    · kernel_rfl
    · kernel_rfl
    · exact fun _ _ _ h => h
    · refine Or.inl ⟨by rfl, ?_⟩
      (intro V hSV; (try dsimp only at hSV); obtain ⟨q0, q1, q2⟩ := hSV; go_simp; try with_reducible rfl)
    (try simp only [Act.put, List.setIfInBounds_toArray, List.set_cons_zero, List.set_cons_succ])
    refine wpAnyH_take (i := 3) (oi := ?_) (v := ?_) ?_ ?_ ?_ ?_ ?_ ?_ (by exact hHeld) ?_
    rotate_left 2
    · (simp only [List.getElem?_toArray, List.getElem?_cons_zero, List.getElem?_cons_succ]; try rfl)
    · kernel_rfl
    · kernel_rfl
    · kernel_rfl
    · exact fun _ _ _ h => h
    · refine Or.inl ⟨by rfl, ?_⟩
      (intro V hSV; (try dsimp only at hSV); obtain ⟨q0, q1, q2⟩ := hSV; go_simp; try with_reducible rfl)
    (try simp only [Act.put, List.setIfInBounds_toArray, List.set_cons_zero, List.set_cons_succ])
    refine wpAnyH_take (i := 4) (oi := ?_) (v := ?_) ?_ ?_ ?_ ?_ ?_ ?_ (by exact hHeld) ?_
    rotate_left 2
    · (simp only [List.getElem?_toArray, List.getElem?_cons_zero, List.getElem?_cons_succ]; try rfl)
    · kernel_rfl
    · kernel_rfl
    · kernel_rfl
    · exact fun _ _ _ h => h
    · refine Or.inl ⟨by rfl, ?_⟩
      (intro V hSV; (try dsimp only at hSV); obtain ⟨q0, q1, q2⟩ := hSV; go_simp; try with_reducible rfl)
    (try simp only [Act.put, List.setIfInBounds_toArray, List.set_cons_zero, List.set_cons_succ])
    refine wpAnyH_take (i := 5) (oi := ?_) (v := ?_) ?_ ?_ ?_ ?_ ?_ ?_ (by exact hHeld) ?_
    rotate_left 2
    · (simp only [List.getElem?_toArray, List.getElem?_cons_zero, List.getElem?_cons_succ]; try rfl)
    · kernel_rfl
    · kernel_rfl
    · kernel_rfl
    · exact fun _ _ _ h => h
    · refine Or.inl ⟨by rfl, ?_⟩
      (intro V hSV; (try dsimp only at hSV); obtain ⟨q0, q1, q2⟩ := hSV; go_simp; try with_reducible rfl)
    (try simp only [Act.put, List.setIfInBounds_toArray, List.set_cons_zero, List.set_cons_succ])
    refine wpAnyH_ready (rs := [6]) (by kernel_rfl) (by simp) ?_
    refine AllReadyH.cons rfl (fun K hK => ?_) AllReadyH.nil
    go_simp
    refine (lawPickN_any 3 (by omega) A l c 9 _ hl (by omega) (by omega) (by exact HBL.out)).mono ?_
    rintro e w5 ⟨⟨x, rfl, hx0, hx1⟩, hb⟩
    have hb : Below w4.heap.size w4 w5 := ⟨hb.os, hb.tape, hb.output, hb.size, hb.block⟩
    have H5 := Lib.hid hb
    have hwr2 : IntKind.i64.wrap (a + m + x) = a + m + x := IntWalk.i64_in _ ⟨by omega, by omega⟩
    obtain ⟨k, hk⟩ : ∃ k : Nat, min 400 (a + m + x) = (k : Int) := ⟨(min 400 (a + m + x)).toNat, by omega⟩
    have hk4 : k ≤ 400 := by omega
    have hmk : ∀ W, (Instr.makeSlice 22 (.int .i64 (k : Int)) (.int .i64 (k : Int))).run Tryd.prog W = .ok (.slice (some ⟨W.heap.size, 0, none⟩) k k) (W.alloc (.cells (madeCells #[.int .u8 0] k) 5)) := fun W => by
      have := run_mk (P := Tryd.prog) 22 5 (.int .u8 0) 1 1 Tryd.underlying22 Tryd.infoB k (by omega) (by omega) W
      rw [Nat.mul_one] at this
      exact this
    clear hb
    go_wp2_with fail
    refine hK.out _ _ (by exact ⟨(HA.out.below H5.out).c0, (HA.out.below H5.out).c1, (HA.out.below H5.out).c2⟩) (fun hHeld => ?_)
    clear hK K
    (try simp only [Act.put, List.setIfInBounds_toArray, List.set_cons_zero, List.set_cons_succ])
    refine wpAnyH_take (i := 7) (oi := ?_) (v := ?_) ?_ ?_ ?_ ?_ ?_ ?_ (by exact hHeld) ?_
    rotate_left 2
    · (simp only [List.getElem?_toArray, List.getElem?_cons_zero, List.getElem?_cons_succ]; try rfl)
    · kernel_rfl
    · kernel_rfl
    · kernel_rfl
    · exact fun _ _ _ h => h
    · refine Or.inl ⟨by rfl, ?_⟩
      (intro V hSV; (try dsimp only at hSV); obtain ⟨q0, q1, q2⟩ := hSV; go_simp; try with_reducible rfl)
    (try simp only [Act.put, List.setIfInBounds_toArray, List.set_cons_zero, List.set_cons_succ])
    (try simp only [hwr2])
    refine wpAnyH_take (i := 8) (oi := ?_) (v := ?_) ?_ ?_ ?_ ?_ ?_ ?_ (by exact hHeld) ?_
    rotate_left 2
    · (simp only [List.getElem?_toArray, List.getElem?_cons_zero, List.getElem?_cons_succ]; try rfl)
    · kernel_rfl
    · kernel_rfl
    · kernel_rfl
    · exact fun _ _ _ h => h
    · refine Or.inl ⟨by rfl, ?_⟩
      (intro V hSV; (try dsimp only at hSV); obtain ⟨q0, q1, q2⟩ := hSV; go_simp; try with_reducible rfl)
    (try simp only [Act.put, List.setIfInBounds_toArray, List.set_cons_zero, List.set_cons_succ])
    (try simp only [hk])
    have H6 := Lib.hid (H5.out.alloc H5.out.size (.cells (madeCells #[.int .u8 0] k) 5))
    have hrow := World.rowIs_made w5 (.int .u8 0) k 5
    have hz5 := H5.out.size
    refine wpAnyH_ready (rs := [9]) (by kernel_rfl) (by simp) ?_
    refine AllReadyH.cons (o := ?_) ?_ (fun K hK => ?_) AllReadyH.nil
    rotate_left 1
    · (simp only [List.getElem?_toArray, List.getElem?_cons_zero, List.getElem?_cons_succ]; try rfl)
    go_simp
    refine hK.out _ _ (by exact ⟨(HA.out.below H6.out).c0, (HA.out.below H6.out).c1, (HA.out.below H6.out).c2⟩) (fun hHeld => ?_)
    clear hK K
    (try simp only [Act.put, List.setIfInBounds_toArray, List.set_cons_zero, List.set_cons_succ])
    refine wpAnyH_take (i := 10) (oi := ?_) (v := ?_) ?_ ?_ ?_ ?_ ?_ ?_ (by exact hHeld) ?_
    rotate_left 2
    · (simp only [List.getElem?_toArray, List.getElem?_cons_zero, List.getElem?_cons_succ]; try rfl)
    · kernel_rfl
    · kernel_rfl
    · kernel_rfl
    · exact fun _ _ _ h => h
    · refine Or.inl ⟨by rfl, ?_⟩
      (intro V hSV; (try dsimp only at hSV); obtain ⟨q0, q1, q2⟩ := hSV; go_simp; try with_reducible rfl)
    (try simp only [Act.put, List.setIfInBounds_toArray, List.set_cons_zero, List.set_cons_succ])
    refine wpAnyH_done (by kernel_rfl) ?_ _
    refine NoPanic.normal ?_
    go_wp2_with fail
    go_meet
    exact ⟨w5.heap.size, k, rfl, hk4, hrow, hz5, H6.out⟩
  case rest =>
    obtain ⟨tb, k, rfl, hk4, hrow0, htb, hcb⟩ := hcut
    have z4 := hcb.size
    clear s0 s1 s2 r0 r1 r2 k0 k1 k2 u0 u1 u2
    have zA := HA.out.lt
    have zB := HBB.out.lt
    go_upto_region 10 with fail
    go_loopw [10] (fun i wr => ∃ (j : Nat) (L : List UInt8), j ≤ k ∧ i = .int .i64 j ∧ L.length = k ∧ Row wr tb L ∧ Below w4.heap.size wc wr) (fun i _ => k - (intOf i).toNat)
    case atStart =>
      refine ⟨0, List.replicate k 0, Nat.zero_le _, rfl, by simp, ?_, (Below.refl _ _).mono (by omega)⟩
      unfold Row
      rw [List.length_replicate]
      exact hrow0.congr (by intro j hj; simp [List.getD_eq_getElem?_getD, hj])
    case round =>
      obtain ⟨j, L, hj, rfl, hLl, hrow, hbel⟩ := hrel
      by_cases hlt : j < k
      · obtain ⟨u, hu, hu2⟩ : ∃ u : Nat, 97 + (j : Int) % 26 = (u : Int) ∧ u < 256 := ⟨(97 + (j : Int) % 26).toNat, by omega, by omega⟩
        have hw8 : IntKind.u8.wrap (97 + (j : Int) % 26) = (u : Int) := by rw [hu]; simp [IntKind.wrap, IntKind.signed, IntKind.bits]; omega
        have hr2 : World.rowIs wr tb 5 k (fun i => .int .u8 ((L.getD i 0).toNat : Int)) := by have h9 := hrow; unfold Row at h9; rw [hLl] at h9; exact h9
        have hc2 := hr2.cell hlt
        have hf := hr2.frozen j
        have hrow2 := hr2.set j (.int .u8 (u : Int))
        have hbel2 := hbel.setCell (p := ⟨tb, j, none⟩) htb (.int .u8 (u : Int))
        have hlt' : (j : Int) < (k : Int) := by omega
        have HR2 := Lib.hid hrow2
        have HLL := Lib.hid hLl
        clear hrow hrow2 hr2 hu hLl
        go_wp2
        go_roundw
        case rel =>
          refine ⟨j + 1, L.set j (UInt8.ofNat u), by omega, by go_num, by rw [List.length_set]; exact HLL.out, ?_, hbel2⟩
          unfold Row
          rw [List.length_set, HLL.out]
          refine HR2.out.congr ?_
          intro i hi
          have hLl := HLL.out
          by_cases e : i = j
          · subst e
            simp [List.getD_eq_getElem?_getD, hLl, hlt, Nat.mod_eq_of_lt hu2]
          · simp [List.getD_eq_getElem?_getD, e, Ne.symm e]
        case measure => simp [intOf]; omega
      · have ej : j = k := by omega
        subst ej
        have hb9 := hcb.trans hbel
        subst hLl
        have HA := Lib.hid (HA.out.below hb9)
        have HBB := Lib.hid (HBB.out.below hb9)
        have GB := Lib.hid (GB.out.below hb9)
        have GBY := Lib.hid (GBY.out.below hb9)
        have HY := Lib.hid (HY.out.below hb9)
        have HQ := Lib.hid (HQ.out.below hb9)
        have HAL := Lib.hid (below_then HAL.out hb9)
        have HTL := Lib.hid hrow.bs
        have hTP : Pl (some ⟨tb, 0, none⟩) L.length := Pl.some_ tb 0 L.length
        have hL9 : L.length ≤ 9223372036854775807 := by omega
        obtain ⟨z1, h1⟩ : ∃ z, edOk L a m p = z := ⟨_, rfl⟩
        obtain ⟨U, hU⟩ : ∃ U, edDo L a m p = U := ⟨_, rfl⟩
        obtain ⟨z2, h2⟩ : ∃ z, edOk U b n q = z := ⟨_, rfl⟩
        obtain ⟨V, hV⟩ : ∃ Y, edDo U b n q = Y := ⟨_, rfl⟩
        obtain ⟨z3, h3⟩ : ∃ z, edOk L ra rm R = z := ⟨_, rfl⟩
        obtain ⟨X, hX⟩ : ∃ U, edDo L ra rm R = U := ⟨_, rfl⟩
        have hU4 : U.length ≤ 400 := by rw [← hU]; exact edDo_len _ _ _ _
        have hV4 : V.length ≤ 400 := by rw [← hV]; exact edDo_len _ _ _ _
        have hX4 : X.length ≤ 400 := by rw [← hX]; exact edDo_len _ _ _ _
        have hsame : z1 = true → z2 = true → z3 = true ∧ V = X := fun g1 g2 => by
          have e1 : U = edText L a m p := by rw [← hU]; unfold edDo; rw [h1, g1]; rfl
          have h2' : edOk (edText L a m p) b n q = true := by rw [← e1, h2, g2]
          have hjt := join_text (h1.trans g1) h2' HJ.out
          have e3 : edOk L ra rm R = true := by rw [ERA.out, ERM.out, ER.out]; exact hjt.1
          refine ⟨h3.symm.trans e3, ?_⟩
          rw [← hV, ← hX]
          unfold edDo
          rw [h2, g2, e3, if_pos rfl, if_pos rfl, ERA.out, ERM.out, ER.out, e1]
          exact hjt.2.symm
        have H1 := Lib.hid h1
        have H2 := Lib.hid h2
        have H3 := Lib.hid h3
        have HUU := Lib.hid hU
        have HVV := Lib.hid hV
        have HXX := Lib.hid hX
        have HSAME := Lib.hid hsame
        clear h1 h2 h3 hU hV hX hsame hb9 hbel hrow hlt
        have k0 := HA.out.c0
        have k1 := HA.out.c1
        have k2 := HA.out.c2
        go_wp2_with fail
        refine (specEditDo_any (some ⟨tb, 0, none⟩) L L.length a m A1 p c1 _ (Nat.le_refl _) hL9 hc1 hc19 hTP (by exact HTL.out) (by exact HY.out)).mono ?_
        rintro e v1 ⟨v, rfl, hown, hb⟩
        rw [H1.out]
        rw [HUU.out] at hown
        obtain ⟨uA, uAc, rfl, uAh, uAk, hBv, uAp, uAq⟩ := own_plain9 hown
        have uAP : Pl uA uAc := by unfold Pl; exact ⟨uAp, uAq⟩
        have HBB := Lib.hid (HBB.out.below hb)
        have GB := Lib.hid (GB.out.below hb)
        have GBY := Lib.hid (GBY.out.below hb)
        have HQ := Lib.hid (HQ.out.below hb)
        have HTL := Lib.hid (HTL.out.below hb)
        have HAL := Lib.hid (below_then HAL.out hb)
        have uAX := Lib.hid hBv
        clear hown hb hBv
        clear k0 k1 k2
        have u0 := HBB.out.c0
        have u1 := HBB.out.c1
        have u2 := HBB.out.c2
        go_wp2_with fail
        refine (specEditDo_any uA U uAc b n B1 q d1 _ uAh uAk hd1 hd19 uAP (by exact uAX.out) (by exact HQ.out)).mono ?_
        rintro e v2 ⟨v, rfl, hown, hb⟩
        rw [H2.out]
        rw [HVV.out] at hown
        obtain ⟨vA, vAc, rfl, vAh, vAk, hBv, vAp, vAq⟩ := own_plain9 hown
        have vAP : Pl vA vAc := by unfold Pl; exact ⟨vAp, vAq⟩
        have GB := Lib.hid (GB.out.below hb)
        have GBY := Lib.hid (GBY.out.below hb)
        have HTL := Lib.hid (HTL.out.below hb)
        have HAL := Lib.hid (below_then HAL.out hb)
        have vAX := Lib.hid hBv
        clear hown hb hBv
        clear u0 u1 u2
        have r0 := GB.out.c0
        have r1 := GB.out.c1
        have r2 := GB.out.c2
        go_wp2_with fail
        refine (implEditDo_any (some ⟨tb, 0, none⟩) L L.length ra rm gA R gc _ (Nat.le_refl _) hL9 gh gk hrm9 hTP (by exact hT.below HAL.out) (by exact HTL.out) (by exact GBY.out)).mono ?_
        rintro e v3 ⟨v, rfl, hown, hb⟩
        rw [H3.out]
        rw [HXX.out] at hown
        obtain ⟨xA, xAc, rfl, xAh, xAk, hBv, xAp, xAq⟩ := own_plain9 hown
        have xAP : Pl xA xAc := by unfold Pl; exact ⟨xAp, xAq⟩
        have vAX := Lib.hid (vAX.out.below hb)
        have HAL := Lib.hid (below_then HAL.out hb)
        have xAX := Lib.hid hBv
        clear hown hb hBv
        clear r0 r1 r2
        cases z1
        · go_wp2
          go_ret
          exact ⟨rfl, HAL.out⟩
        cases z2
        · go_wp2
          go_ret
          exact ⟨rfl, HAL.out⟩
        obtain ⟨g3, g4⟩ := HSAME.out (by trivial) (by trivial)
        subst g3
        subst g4
        have hcv1 := run_conv_bs vAc V.length rfl vAX.out
        have hcv2 := run_conv_bs xAc V.length rfl xAX.out
        go_wp2
        go_ret
        exact ⟨rfl, HAL.out⟩

end Go.Proofs.YtkplfbhblbinaaaDoor.fnEditJoin
