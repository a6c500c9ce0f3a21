/-
  FnEditMoves, its walk. Own work.
-/
import Derived.Test.YtoaimklllmelpaaLaw0
import Derived.Test.YtoaimklllmelpaaJ11b
import Derived.Test.YtoaimklllmelpaaCur17
import Derived.Test.YtoaimklllmelpaaP09b
import Derived.ProofKit
import Derived.OpenShut
import Derived.OpenVars
import Derived.ChangeOld
import Derived.Deep.DeepHandedRow
import Derived.Deep.RegionHeld3
import Derived.Deep.DeepCutAuto
namespace Go.Proofs.Ytoaimklllmelpaa.fnEditMoves
open Go.ChangeShapes Go.WideShapes Go.ChangeAt Go.RowKit P
set_option linter.unusedVariables false
set_option maxRecDepth 100000

set_option maxHeartbeats 16000000 in
theorem walk (A : Option Addr) (l : List UInt8) (c : Nat) (hc : l.length ≤ c) (hm : c ≤ maxLen) (w : World) (hB : Bs w A l) :
    Calls Try.prog 13 #[.slice A l.length c] w fun e w' => e = .returned (.bool true) ∧ Below w.heap.size w w' := by
  by_cases hbig : 1048576 < l.length
  · have hb : decide (1048576 < l.length) = true := decide_eq_true hbig
    have HBG := Lib.hid hb
    clear hb hbig
    go_enter Try.func13, Try.ntmps13
    go_wp2_with (go_at_call 39; refine (big_any _ _ _ _).mono ?_; rintro e w' ⟨rfl, rfl⟩; rw [HBG.out])
    go_ret
    exact ⟨rfl, Below.refl _ _⟩
  have hl : l.length ≤ 1048576 := by omega
  have hb : decide (1048576 < l.length) = false := decide_eq_false hbig
  have HBG := Lib.hid hb
  clear hb hbig hc hm
  go_enter Try.func13, Try.ntmps13
  go_wp2_with fail
  refine (big_any _ _ _ _).mono ?_
  rintro e w0 ⟨rfl, rfl⟩
  rw [HBG.out]
  go_wp2_with fail
  refine (drawEditMoves_any A l c _ hl (by exact hB)).mono ?_
  rintro e w1 ⟨a, m, A1, p, c1, B, es, d, rfl, ha, hm, hp5, hc1, hc19, hX1, hn, hd, hd9, hPl, hE1, hb1⟩
  have hal := (Below.refl w1.heap.size w1).alloc (Nat.le_refl _) (.cells #[.int .i64 a, .int .i64 m, .slice A1 p.length c1] 27)
  have HA := Lib.hid (EBox.new w1 a m A1 p.length c1)
  have HY := Lib.hid (hX1.below hal)
  have HE := Lib.hid (hE1.below hal)
  have HAL := Lib.hid (below_then hb1 hal)
  obtain ⟨V, hV⟩ : ∃ V, moves (a, m, p) es = V := ⟨_, rfl⟩
  obtain ⟨⟨va, vm, R⟩, z⟩ := V
  have hRl : R.length ≤ 400 := by have h9 := moves_len (a, m, p) es; rw [hV] at h9; exact h9
  have HV := Lib.hid hV
  have hzz : (z != z) = false := by simp
  have hze : (z == z) = true := by simp
  have hp9 : p.length ≤ 9223372036854775807 := by omega
  have hn9 : es.length ≤ 9223372036854775807 := by omega
  clear hV hal hX1 hE1 hb1 HBG
  have k0 := HA.out.c0
  have k1 := HA.out.c1
  have k2 := HA.out.c2
  go_wp2_with fail
  generalize w1.alloc (.cells #[.int .i64 a, .int .i64 m, .slice A1 p.length c1] 27) = W1 at *
  refine (specEditMoves_any a m A1 p c1 B es d _ hp9 hn9 (by exact HY.out) (by exact HE.out)).mono ?_
  rintro e w2 ⟨v, rfl, hown, hb⟩
  rw [HV.out]
  rw [HV.out] at hown
  obtain ⟨fA, fc, rfl, fh, fk, hBv, _, _⟩ := own_plain9 hown
  have hal := (Below.refl w2.heap.size w2).alloc (Nat.le_refl _) (.cells #[.int .i64 va, .int .i64 vm, .slice fA R.length fc] 27)
  have hb2 := below_then hb hal
  have HA := Lib.hid (HA.out.below hb2)
  have HY := Lib.hid (HY.out.below hb2)
  have HE := Lib.hid (HE.out.below hb2)
  have HAL := Lib.hid (below_then HAL.out hb2)
  have FB := Lib.hid (EBox.new w2 va vm fA R.length fc)
  have FBY := Lib.hid (hBv.below hal)
  clear k0 k1 k2
  clear hown hb hb2 hal hBv
  have k0 := HA.out.c0
  have k1 := HA.out.c1
  have k2 := HA.out.c2
  go_wp2_with fail
  generalize w2.alloc (.cells #[.int .i64 va, .int .i64 vm, .slice fA R.length fc] 27) = W2 at *
  refine (implEditMoves_any a m A1 p c1 B es d _ hp9 hn9 (by exact HY.out) (by exact HE.out)).mono ?_
  rintro e w3 ⟨v, rfl, hown, hb⟩
  rw [HV.out]
  rw [HV.out] at hown
  obtain ⟨gA, gc, rfl, gh, gk, hBv, _, _⟩ := own_plain9 hown
  have hal := (Below.refl w3.heap.size w3).alloc (Nat.le_refl _) (.cells #[.int .i64 va, .int .i64 vm, .slice gA R.length gc] 27)
  have hb2 := below_then hb hal
  have HA := Lib.hid (HA.out.below hb2)
  have HY := Lib.hid (HY.out.below hb2)
  have HE := Lib.hid (HE.out.below hb2)
  have FB := Lib.hid (FB.out.below hb2)
  have FBY := Lib.hid (FBY.out.below hb2)
  have HAL := Lib.hid (below_then HAL.out hb2)
  have GB := Lib.hid (EBox.new w3 va vm gA R.length gc)
  have GBY := Lib.hid (hBv.below hal)
  clear k0 k1 k2
  clear hown hb hb2 hal hBv
  have k0 := HA.out.c0
  have k1 := HA.out.c1
  have k2 := HA.out.c2
  have s0 := FB.out.c0
  have s1 := FB.out.c1
  have s2 := FB.out.c2
  have r0 := GB.out.c0
  have r1 := GB.out.c1
  have r2 := GB.out.c2
  go_wp2_with fail
  generalize w3.alloc (.cells #[.int .i64 va, .int .i64 vm, .slice gA R.length gc] 27) = W3 at *
  refine (sameEdit_any va vm gA fA R gc fc _ (by exact GBY.out) (by exact FBY.out)).mono ?_
  rintro e w4 ⟨rfl, hb⟩
  have HA := Lib.hid (HA.out.below hb)
  have HY := Lib.hid (HY.out.below hb)
  have HE := Lib.hid (HE.out.below hb)
  have FB := Lib.hid (FB.out.below hb)
  have FBY := Lib.hid (FBY.out.below hb)
  have GB := Lib.hid (GB.out.below hb)
  have GBY := Lib.hid (GBY.out.below hb)
  have HAL := Lib.hid (below_then HAL.out hb)
  clear hb s0 s1 s2 r0 r1 r2 k0 k1 k2
  have k0 := HA.out.c0
  have k1 := HA.out.c1
  have k2 := HA.out.c2
  have s0 := FB.out.c0
  have s1 := FB.out.c1
  have s2 := FB.out.c2
  have r0 := GB.out.c0
  have r1 := GB.out.c1
  have r2 := GB.out.c2
  cases z
  · go_wp2_with fail
    refine (sameEdit_any va vm gA fA R gc fc _ (by exact GBY.out) (by exact FBY.out)).mono ?_
    rintro e w5 ⟨rfl, hb⟩
    have hb9 := below_then HAL.out hb
    go_wp2
    go_ret
    exact ⟨rfl, hb9⟩
  have HBL := Lib.hid (hB.below HAL.out)
  go_wp2_with fail
  refine (lawPickN_any 3 (by omega) A l c _ _ hl (by omega) (by omega) (by exact HBL.out)).mono ?_
  rintro e w5 ⟨⟨k', rfl, hk0, hk1⟩, hb⟩
  obtain ⟨k, rfl⟩ := Int.eq_ofNat_of_zero_le hk0
  have hkn : k ≤ es.length := by omega
  have HA := Lib.hid (HA.out.below hb)
  have HY := Lib.hid (HY.out.below hb)
  have HE := Lib.hid (HE.out.below hb)
  have GB := Lib.hid (GB.out.below hb)
  have GBY := Lib.hid (GBY.out.below hb)
  have HAL := Lib.hid (below_then HAL.out hb)
  clear hb HBL k0 k1 k2 s0 s1 s2 r0 r1 r2 FB FBY
  have hsm : edSmall a m p = true := by
    cases h9 : edSmall a m p
    · have h8 := HV.out
      unfold moves at h8
      rw [if_neg (by show ¬ edSmall a m p = true; rw [h9]; simp)] at h8
      cases h8
    · rfl
  have hrun : mvRun (a, m, p) es = ((va, vm, R), true) := by
    have h8 := HV.out
    unfold moves at h8
    rw [if_pos hsm] at h8
    exact h8
  have hspl := mvRun_split es (a, m, p) k hkn (by rw [hrun])
  obtain ⟨C, hC⟩ : ∃ C, mvRun (a, m, p) (es.take k) = C := ⟨_, rfl⟩
  obtain ⟨⟨ca, cm, Q⟩, cz⟩ := C
  rw [hC] at hspl
  have hcz : cz = true := hspl.1
  subst hcz
  have hsp2 : mvRun (ca, cm, Q) (es.drop k) = ((va, vm, R), true) := hspl.2.trans hrun
  have hmt : moves (a, m, p) (es.take k) = ((ca, cm, Q), true) := by unfold moves; rw [if_pos hsm]; exact hC
  have hQl : Q.length ≤ 400 := by have h9 := moves_len (a, m, p) (es.take k); rw [hmt] at h9; exact h9
  have hQ9 : Q.length ≤ 9223372036854775807 := by omega
  have hall : k = es.length → ca = va ∧ cm = vm ∧ Q = R := fun h => by
    rw [h, List.take_length, hrun] at hC
    cases hC
    exact ⟨rfl, rfl, rfl⟩
  have hsml : edSmall ca cm Q = false → k = es.length := fun h => by
    apply Classical.byContradiction
    intro hne
    have hd0 : es.drop k ≠ [] := by
      intro e
      have h9 := congrArg List.length e
      rw [List.length_drop] at h9
      simp at h9
      omega
    have h8 := mvRun_small (e := (ca, cm, Q)) (es := es.drop k) (by rw [hsp2]) hd0
    rw [show edSmall (ca, cm, Q).1 (ca, cm, Q).2.1 (ca, cm, Q).2.2 = edSmall ca cm Q from rfl, h] at h8
    cases h8
  have hmd : edSmall ca cm Q = true → moves (ca, cm, Q) (es.drop k) = ((va, vm, R), true) := fun h => by
    unfold moves
    rw [if_pos (by exact h)]
    exact hsp2
  have hlt1 : (es.take k).length = k := by rw [List.length_take]; omega
  have hlt2 : (es.drop k).length = es.length - k := List.length_drop
  have hsl1 : ∀ W, (Instr.slice 41 (.slice B es.length d) none (some (.int .i64 (k : Int))) none).run Try.prog W = .ok (.slice B k d) W := slE_head B es.length d k hPl.1 hPl.2 (by omega)
  obtain ⟨E1, hE1⟩ : ∃ E, es.take k = E := ⟨_, rfl⟩
  obtain ⟨E2, hE2⟩ : ∃ E, es.drop k = E := ⟨_, rfl⟩
  have HT := Lib.hid (HE.out.take k)
  have HMT := Lib.hid hmt
  have HMD := Lib.hid hmd
  rw [hE1] at HT HMT hlt1
  have HALL := Lib.hid hall
  have HSML := Lib.hid hsml
  have HL1 := Lib.hid hlt1
  have hkd : (k : Int) ≤ (d : Int) := by omega
  clear hsm hrun hspl hC hsp2 hmt hmd hall hsml hlt1 hE1 hk0 hk1 hzz hze
  have HX := Lib.hid HA.out.blk
  have q0 := HA.out.c0
  have q1 := HA.out.c1
  have q2 := HA.out.c2
  go_upto_region 9 with fail
  go_cut [10, 11] (fun t ok' wx => ∃ (b : Nat) (A5 : Option Addr) (c5 : Nat), t = .pointer (some ⟨b, 0, none⟩) ∧ ok' = .bool true ∧ Blk wx b #[.int .i64 ca, .int .i64 cm, .slice A5 Q.length c5] 27 ∧ Own wx w5.heap.size (.slice A5 Q.length c5) Q ∧ w5.heap.size ≤ b ∧ Below w5.heap.size w5 wx)
  case first =>
    have fH0 : Hid (Below w5.heap.size w5 w5.drew) := Lib.hid (Below.refl w5.heap.size w5).drew
    have fz0 : w5.drew.heap.size = w5.heap.size := World.size_drew w5
    refine wp_region_noPanic ?_
    refine wp_region_held_drew (S := (fun V => V.cell? ⟨w1.heap.size, 0, none⟩ = some (.int .i64 a) ∧ V.cell? ⟨w1.heap.size, 1, none⟩ = some (.int .i64 m) ∧ V.cell? ⟨w1.heap.size, 2, none⟩ = some (.slice A1 p.length c1))) (by kernel_rfl) (by exact ⟨q0, q1, q2⟩) (fun hHeld => ?_)
    refine wpAnyH_take (i := 0) (oi := ?_) (v := ?_) ?_ ?_ ?_ ?_ ?_ ?_ (by exact hHeld) ?_
    rotate_left 2
    · (simp only [List.getElem?_toArray, List.getElem?_cons_zero]; try rfl)
    · kernel_rfl
    · kernel_rfl
    · kernel_rfl
    · exact fun _ _ _ h => h
    · refine Or.inl ⟨by rfl, ?_⟩
      (intro V hSV; (try dsimp only at hSV); obtain ⟨q0, q1, q2⟩ := hSV; go_simp; try with_reducible rfl)
    (try simp only [Act.put, List.setIfInBounds_toArray, List.set_cons_zero, List.set_cons_succ])
    refine wpAnyH_take (i := 1) (oi := ?_) (v := ?_) ?_ ?_ ?_ ?_ ?_ ?_ (by exact hHeld) ?_
    rotate_left 2
    · (simp only [List.getElem?_toArray, List.getElem?_cons_zero, List.getElem?_cons_succ]; try rfl)
    · kernel_rfl
    · kernel_rfl
    · kernel_rfl
    · exact fun _ _ _ h => h
    · refine Or.inl ⟨by rfl, ?_⟩
      (intro V hSV; (try dsimp only at hSV); obtain ⟨q0, q1, q2⟩ := hSV; go_simp; try with_reducible rfl)
    (try simp only [Act.put, List.setIfInBounds_toArray, List.set_cons_zero, List.set_cons_succ])
    refine wpAnyH_take (i := 2) (oi := ?_) (v := ?_) ?_ ?_ ?_ ?_ ?_ ?_ (by exact hHeld) ?_
    rotate_left 2
    · (simp only [List.getElem?_toArray, List.getElem?_cons_zero, List.getElem?_cons_succ]; try rfl)
    · kernel_rfl
    · kernel_rfl
    · kernel_rfl
    · exact fun _ _ _ h => h
    · refine Or.inl ⟨by rfl, ?_⟩
      (intro V hSV; (try dsimp only at hSV); obtain ⟨q0, q1, q2⟩ := hSV; go_simp; try with_reducible rfl)
    (try simp only [Act.put, List.setIfInBounds_toArray, List.set_cons_zero, List.set_cons_succ])
    refine wpAnyH_take (i := 3) (oi := ?_) (v := ?_) ?_ ?_ ?_ ?_ ?_ ?_ (by exact hHeld) ?_
    rotate_left 2
    · (simp only [List.getElem?_toArray, List.getElem?_cons_zero, List.getElem?_cons_succ]; try rfl)
    · kernel_rfl
    · kernel_rfl
    · kernel_rfl
    · exact fun _ _ _ h => h
    · refine Or.inl ⟨by rfl, ?_⟩
      (intro V hSV; (try dsimp only at hSV); obtain ⟨q0, q1, q2⟩ := hSV; go_simp; try with_reducible rfl)
    (try simp only [Act.put, List.setIfInBounds_toArray, List.set_cons_zero, List.set_cons_succ])
    refine wpAnyH_ready (rs := [4, 8]) (by kernel_rfl) (by simp) ?_
    refine AllReadyH.cons (o := ?_) ?_ (fun K hK => ?_) ?_
    rotate_left 1
    · (simp only [List.getElem?_toArray, List.getElem?_cons_zero, List.getElem?_cons_succ]; try rfl)
    · go_simp
      have h7 := implEditMoves_any a m A1 p c1 B E1 d _ hp9 (by rw [HL1.out]; omega) (by have h9 := HY.out.below fH0.out; exact h9) (by have h9 := HT.out.below fH0.out; exact h9)
      rw [HL1.out, HMT.out] at h7
      refine h7.mono ?_
      rintro e fy1 ⟨v, rfl, hown9, hb⟩

      obtain ⟨vA9, vc9, rfl, _, _, _⟩ := hown9.form
      have zq9 := (fH0.out).size
      have OO := Lib.hid (hown9.mono (base' := w5.heap.size) (by first | exact zq9 | omega))
      have OR := Lib.hid hown9.range
      clear hown9
      have zY1 := fH0.out.size
      have fH1 := Lib.hid (below_then fH0.out hb)
      clear hb
      go_wp2_with fail
      refine hK.out _ _ (by exact ⟨(HX.out.below fH1.out).cell 0, (HX.out.below fH1.out).cell 1, (HX.out.below fH1.out).cell 2⟩) (fun hHeld => ?_)
      clear hK K
      (try simp only [Act.put, List.setIfInBounds_toArray, List.set_cons_zero, List.set_cons_succ])
      refine wpAnyH_take (i := 5) (oi := ?_) (v := ?_) ?_ ?_ ?_ ?_ ?_ ?_ (by exact hHeld) ?_
      rotate_left 2
      · (simp only [List.getElem?_toArray, List.getElem?_cons_zero, List.getElem?_cons_succ]; try rfl)
      · kernel_rfl
      · kernel_rfl
      · kernel_rfl
      · exact fun _ _ _ h => h
      · refine Or.inl ⟨by rfl, ?_⟩
        (intro V hSV; (try dsimp only at hSV); obtain ⟨q0, q1, q2⟩ := hSV; go_simp; try with_reducible rfl)
      (try simp only [Act.put, List.setIfInBounds_toArray, List.set_cons_zero, List.set_cons_succ])
      refine wpAnyH_take (i := 6) (oi := ?_) (v := ?_) ?_ ?_ ?_ ?_ ?_ ?_ (by exact hHeld) ?_
      rotate_left 2
      · (simp only [List.getElem?_toArray, List.getElem?_cons_zero, List.getElem?_cons_succ]; try rfl)
      · kernel_rfl
      · kernel_rfl
      · kernel_rfl
      · exact fun _ _ _ h => h
      · refine Or.inl ⟨by rfl, ?_⟩
        (intro V hSV; (try dsimp only at hSV); obtain ⟨q0, q1, q2⟩ := hSV; go_simp; try with_reducible rfl)
      (try simp only [Act.put, List.setIfInBounds_toArray, List.set_cons_zero, List.set_cons_succ])
      refine wpAnyH_take (i := 7) (oi := ?_) (v := ?_) ?_ ?_ ?_ ?_ ?_ ?_ (by exact hHeld) ?_
      rotate_left 2
      · (simp only [List.getElem?_toArray, List.getElem?_cons_zero, List.getElem?_cons_succ]; try rfl)
      · kernel_rfl
      · kernel_rfl
      · kernel_rfl
      · exact fun _ _ _ h => h
      · refine Or.inl ⟨by rfl, ?_⟩
        (intro V hSV; (try dsimp only at hSV); obtain ⟨q0, q1, q2⟩ := hSV; go_simp; try with_reducible rfl)
      (try simp only [Act.put, List.setIfInBounds_toArray, List.set_cons_zero, List.set_cons_succ])
      refine wpAnyH_ready (rs := [8]) (by kernel_rfl) (by simp) ?_
      refine AllReadyH.cons (o := ?_) ?_ (fun K hK => ?_) AllReadyH.nil
      rotate_left 1
      · (simp only [List.getElem?_toArray, List.getElem?_cons_zero, List.getElem?_cons_succ]; try rfl)
      have zA := fH1.out.size
      have fH2 := Lib.hid (fH1.out.alloc fH1.out.size (.cells #[.int .i64 0, .int .i64 0, .slice none 0 0] 27))
      go_simp
      refine hK.out _ _ (by exact ⟨(HX.out.below fH2.out).cell 0, (HX.out.below fH2.out).cell 1, (HX.out.below fH2.out).cell 2⟩) (fun hHeld => ?_)
      clear hK K
      (try simp only [Act.put, List.setIfInBounds_toArray, List.set_cons_zero, List.set_cons_succ])
      refine wpAnyH_ready (rs := [9]) (by kernel_rfl) (by simp) ?_
      refine AllReadyH.cons (o := ?_) ?_ (fun K hK => ?_) AllReadyH.nil
      rotate_left 1
      · (simp only [List.getElem?_toArray, List.getElem?_cons_zero, List.getElem?_cons_succ]; try rfl)
      have HF := Lib.hid (fH1.out.alloc fH1.out.size (.cells #[.int .i64 ca, .int .i64 cm, .slice vA9 Q.length vc9] 27))
      go_simp
      refine hK.out _ _ (by exact ⟨(HX.out.below HF.out).cell 0, (HX.out.below HF.out).cell 1, (HX.out.below HF.out).cell 2⟩) (fun hHeld => ?_)
      clear hK K
      (try simp only [Act.put, List.setIfInBounds_toArray, List.set_cons_zero, List.set_cons_succ])
      refine wpAnyH_take (i := 10) (oi := ?_) (v := ?_) ?_ ?_ ?_ ?_ ?_ ?_ (by exact hHeld) ?_
      rotate_left 2
      · (simp only [List.getElem?_toArray, List.getElem?_cons_zero, List.getElem?_cons_succ]; try rfl)
      · kernel_rfl
      · kernel_rfl
      · kernel_rfl
      · exact fun _ _ _ h => h
      · refine Or.inl ⟨by rfl, ?_⟩
        (intro V hSV; (try dsimp only at hSV); obtain ⟨q0, q1, q2⟩ := hSV; go_simp; try with_reducible rfl)
      (try simp only [Act.put, List.setIfInBounds_toArray, List.set_cons_zero, List.set_cons_succ])
      refine wpAnyH_done (by kernel_rfl) ?_ _
      refine NoPanic.normal ?_
      go_wp2_with fail
      go_meet
      have BF := Lib.hid (Blk.new fy1 #[.int .i64 ca, .int .i64 cm, .slice vA9 Q.length vc9] 27)
      have zF := fH1.out.size
      have hn9 := OO.out.below ((Below.refl _ _).alloc (Nat.le_refl _) (.cells #[.int .i64 ca, .int .i64 cm, .slice vA9 Q.length vc9] 27))
      exact ⟨fy1.heap.size, vA9, vc9, rfl, rfl, BF.out, hn9, by omega, HF.out⟩
    refine AllReadyH.cons (o := ?_) ?_ (fun K hK => ?_) AllReadyH.nil
    rotate_left 1
    · (simp only [List.getElem?_toArray, List.getElem?_cons_zero, List.getElem?_cons_succ]; try rfl)
    have zA := fH0.out.size
    have fH1 := Lib.hid (fH0.out.alloc fH0.out.size (.cells #[.int .i64 0, .int .i64 0, .slice none 0 0] 27))
    have BX := Lib.hid (Blk.new (w5.drew) #[.int .i64 0, .int .i64 0, .slice none 0 0] 27)
    have BX := Lib.hid (show Blk (w5.drew.alloc (.cells #[.int .i64 0, .int .i64 0, .slice none 0 0] 27)) w5.heap.size #[.int .i64 0, .int .i64 0, .slice none 0 0] 27 from by have h9 := BX.out; rw [World.size_drew] at h9; exact h9)
    go_simp
    refine hK.out _ _ (by exact ⟨(HX.out.below fH1.out).cell 0, (HX.out.below fH1.out).cell 1, (HX.out.below fH1.out).cell 2⟩) (fun hHeld => ?_)
    clear hK K
    (try simp only [Act.put, List.setIfInBounds_toArray, List.set_cons_zero, List.set_cons_succ])
    refine wpAnyH_ready (rs := [4]) (by kernel_rfl) (by simp) ?_
    refine AllReadyH.cons (o := ?_) ?_ (fun K hK => ?_) AllReadyH.nil
    rotate_left 1
    · (simp only [List.getElem?_toArray, List.getElem?_cons_zero, List.getElem?_cons_succ]; try rfl)
    go_simp
    have h7 := implEditMoves_any a m A1 p c1 B E1 d _ hp9 (by rw [HL1.out]; omega) (by have h9 := HY.out.below fH1.out; exact h9) (by have h9 := HT.out.below fH1.out; exact h9)
    rw [HL1.out, HMT.out] at h7
    refine h7.mono ?_
    rintro e fy1 ⟨v, rfl, hown9, hb⟩

    obtain ⟨vA9, vc9, rfl, _, _, _⟩ := hown9.form
    have zq9 := (fH1.out).size
    have OO := Lib.hid (hown9.mono (base' := w5.heap.size) (by first | exact zq9 | omega))
    have OR := Lib.hid hown9.range
    clear hown9
    have zY2 := fH1.out.size
    have fH2 := Lib.hid (below_then fH1.out hb)
    have BX := Lib.hid (BX.out.below hb)
    clear hb
    go_wp2_with fail
    refine hK.out _ _ (by exact ⟨(HX.out.below fH2.out).cell 0, (HX.out.below fH2.out).cell 1, (HX.out.below fH2.out).cell 2⟩) (fun hHeld => ?_)
    clear hK K
    (try simp only [Act.put, List.setIfInBounds_toArray, List.set_cons_zero, List.set_cons_succ])
    refine wpAnyH_take (i := 5) (oi := ?_) (v := ?_) ?_ ?_ ?_ ?_ ?_ ?_ (by exact hHeld) ?_
    rotate_left 2
    · (simp only [List.getElem?_toArray, List.getElem?_cons_zero, List.getElem?_cons_succ]; try rfl)
    · kernel_rfl
    · kernel_rfl
    · kernel_rfl
    · exact fun _ _ _ h => h
    · refine Or.inl ⟨by rfl, ?_⟩
      (intro V hSV; (try dsimp only at hSV); obtain ⟨q0, q1, q2⟩ := hSV; go_simp; try with_reducible rfl)
    (try simp only [Act.put, List.setIfInBounds_toArray, List.set_cons_zero, List.set_cons_succ])
    refine wpAnyH_take (i := 6) (oi := ?_) (v := ?_) ?_ ?_ ?_ ?_ ?_ ?_ (by exact hHeld) ?_
    rotate_left 2
    · (simp only [List.getElem?_toArray, List.getElem?_cons_zero, List.getElem?_cons_succ]; try rfl)
    · kernel_rfl
    · kernel_rfl
    · kernel_rfl
    · exact fun _ _ _ h => h
    · refine Or.inl ⟨by rfl, ?_⟩
      (intro V hSV; (try dsimp only at hSV); obtain ⟨q0, q1, q2⟩ := hSV; go_simp; try with_reducible rfl)
    (try simp only [Act.put, List.setIfInBounds_toArray, List.set_cons_zero, List.set_cons_succ])
    refine wpAnyH_take (i := 7) (oi := ?_) (v := ?_) ?_ ?_ ?_ ?_ ?_ ?_ (by exact hHeld) ?_
    rotate_left 2
    · (simp only [List.getElem?_toArray, List.getElem?_cons_zero, List.getElem?_cons_succ]; try rfl)
    · kernel_rfl
    · kernel_rfl
    · kernel_rfl
    · exact fun _ _ _ h => h
    · refine Or.inl ⟨by rfl, ?_⟩
      (intro V hSV; (try dsimp only at hSV); obtain ⟨q0, q1, q2⟩ := hSV; go_simp; try with_reducible rfl)
    (try simp only [Act.put, List.setIfInBounds_toArray, List.set_cons_zero, List.set_cons_succ])
    have zB := BX.out.lt
    have nb0 := HX.out.lt
    have g0 := BX.out.cell 0
    have f0 := BX.out.frozen 0
    have g1 := BX.out.cell 1
    have f1 := BX.out.frozen 1
    have g2 := BX.out.cell 2
    have f2 := BX.out.frozen 2
    have zz9 : w5.heap.size ≤ w5.heap.size := by first | exact Nat.le_refl _ | omega
    have BF : Hid (Blk ((((fy1.setCell ⟨w5.heap.size, 0, none⟩ (.int .i64 ca)).setCell ⟨w5.heap.size, 1, none⟩ (.int .i64 cm)).setCell ⟨w5.heap.size, 2, none⟩ (.slice vA9 Q.length vc9))) w5.heap.size #[.int .i64 ca, .int .i64 cm, .slice vA9 Q.length vc9] 27) := Lib.hid (by simpa using (((BX.out.set 0 (.int .i64 ca)).set 1 (.int .i64 cm)).set 2 (.slice vA9 Q.length vc9)))
    have HF : Hid (Below w5.heap.size w5 ((((fy1.setCell ⟨w5.heap.size, 0, none⟩ (.int .i64 ca)).setCell ⟨w5.heap.size, 1, none⟩ (.int .i64 cm)).setCell ⟨w5.heap.size, 2, none⟩ (.slice vA9 Q.length vc9)))) := Lib.hid (((fH2.out.setCell (p := ⟨w5.heap.size, 0, none⟩) (by omega) (.int .i64 ca)).setCell (p := ⟨w5.heap.size, 1, none⟩) (by omega) (.int .i64 cm)).setCell (p := ⟨w5.heap.size, 2, none⟩) (by omega) (.slice vA9 Q.length vc9))
    refine wpAnyH_ready (rs := [9]) (by kernel_rfl) (by simp) ?_
    refine AllReadyH.cons (o := ?_) ?_ (fun K hK => ?_) AllReadyH.nil
    rotate_left 1
    · (simp only [List.getElem?_toArray, List.getElem?_cons_zero, List.getElem?_cons_succ]; try rfl)
    go_simp
    refine hK.out _ _ (by exact ⟨(HX.out.below HF.out).cell 0, (HX.out.below HF.out).cell 1, (HX.out.below HF.out).cell 2⟩) (fun hHeld => ?_)
    clear hK K
    (try simp only [Act.put, List.setIfInBounds_toArray, List.set_cons_zero, List.set_cons_succ])
    refine wpAnyH_take (i := 10) (oi := ?_) (v := ?_) ?_ ?_ ?_ ?_ ?_ ?_ (by exact hHeld) ?_
    rotate_left 2
    · (simp only [List.getElem?_toArray, List.getElem?_cons_zero, List.getElem?_cons_succ]; try rfl)
    · kernel_rfl
    · kernel_rfl
    · kernel_rfl
    · exact fun _ _ _ h => h
    · refine Or.inl ⟨by rfl, ?_⟩
      (intro V hSV; (try dsimp only at hSV); obtain ⟨q0, q1, q2⟩ := hSV; go_simp; try with_reducible rfl)
    (try simp only [Act.put, List.setIfInBounds_toArray, List.set_cons_zero, List.set_cons_succ])
    refine wpAnyH_done (by kernel_rfl) ?_ _
    refine NoPanic.normal ?_
    go_wp2_with fail
    go_meet
    have hn9 : ∀ k ∈ (Value.slice vA9 Q.length vc9).ownBlock.toList, w5.heap.size ≠ k := fun k hk => by have h1 := OR.out k hk; have h2 := zB; first | omega | (simp at h1; omega)
    exact ⟨w5.heap.size, vA9, vc9, rfl, rfl, BF.out, ownSet19 (ownSet19 (ownSet19 (OO.out) hn9 0 (.int .i64 ca)) hn9 1 (.int .i64 cm)) hn9 2 (.slice vA9 Q.length vc9), by omega, HF.out⟩
  case rest =>
    obtain ⟨nb, cA, cc, rfl, rfl, hM, hownC, hnb, hb⟩ := hcut
    have HE := Lib.hid (HE.out.below hb)
    have GB := Lib.hid (GB.out.below hb)
    have GBY := Lib.hid (GBY.out.below hb)
    have HAL := Lib.hid (below_then HAL.out hb)
    have CB := Lib.hid (show EBox wc nb ca cm cA Q.length cc from ⟨hM⟩)
    have CBY := Lib.hid (own_bs9 hownC)
    clear hM hownC hb q0 q1 q2 HT HMT HL1 HA HY HX
    have q0 := CB.out.c0
    have q1 := CB.out.c1
    have q2 := CB.out.c2
    obtain ⟨y, hy⟩ : ∃ y, moveOk ca cm Q 0 0 [] = y := ⟨_, rfl⟩
    have hyq : y = edSmall ca cm Q := by rw [← hy]; unfold moveOk; rw [show edSmall 0 0 ([] : List UInt8) = true from rfl, Bool.and_true]
    have HYY := Lib.hid hy
    have HYQ := Lib.hid hyq
    clear hy hyq
    go_wp2_with fail
    refine (specEditMove_any ca cm cA Q cc 0 0 none [] 0 _ hQ9 (by simp) (by exact CBY.out)).mono ?_
    rintro e w6 ⟨v, rfl, hown, hb⟩
    rw [HYY.out]
    obtain ⟨xA, xc, rfl, _, _, _⟩ := hown.form
    have hb2 := below_then hb ((Below.refl w6.heap.size w6).alloc (Nat.le_refl _) (.cells #[.int .i64 (moveA ca cm Q 0 0 []), .int .i64 (moveM ca cm Q 0 0 []), .slice xA (moveP ca cm Q 0 0 []).length xc] 27))
    have HE := Lib.hid (HE.out.below hb2)
    have GB := Lib.hid (GB.out.below hb2)
    have GBY := Lib.hid (GBY.out.below hb2)
    have CB := Lib.hid (CB.out.below hb2)
    have CBY := Lib.hid (CBY.out.below hb2)
    have HAL := Lib.hid (below_then HAL.out hb2)
    clear hown hb hb2 q0 q1 q2
    have q0 := CB.out.c0
    have q1 := CB.out.c1
    have q2 := CB.out.c2
    have r0 := GB.out.c0
    have r1 := GB.out.c1
    have r2 := GB.out.c2
    cases y
    · have hkk := HSML.out HYQ.out.symm
      obtain ⟨g1, g2, g3⟩ := HALL.out hkk
      have hkq : ((k : Int) == (es.length : Int)) = true := by simp [hkk]
      subst g1
      subst g2
      subst g3
      clear hkk
      go_wp2_with fail
      refine (sameEdit_any ca cm cA gA Q cc gc _ (by exact CBY.out) (by exact GBY.out)).mono ?_
      rintro e w7 ⟨rfl, hb⟩
      have hb9 := below_then HAL.out hb
      go_wp2
      go_ret
      exact ⟨rfl, hb9⟩
    have hmd := HMD.out HYQ.out.symm
    go_wp2_with fail
    generalize w6.alloc (.cells #[.int .i64 (moveA ca cm Q 0 0 []), .int .i64 (moveM ca cm Q 0 0 []), .slice xA (moveP ca cm Q 0 0 []).length xc] 27) = W7 at *
    obtain ⟨B2, hsl2, hEd⟩ := slE_tail B es.length d k W7 es hPl.1 hPl.2 rfl hkn hd hd9 HE.out
    rw [hE2] at hEd hmd hlt2
    have HED := Lib.hid hEd
    have HMD2 := Lib.hid hmd
    have HL2 := Lib.hid hlt2
    have HX := Lib.hid CB.out.blk
    clear hEd hmd hlt2 HMD r0 r1 r2
    go_upto_region 13 with fail
    go_cut [14, 15] (fun t ok' wx => ∃ (b : Nat) (A5 : Option Addr) (c5 : Nat), t = .pointer (some ⟨b, 0, none⟩) ∧ ok' = .bool true ∧ Blk wx b #[.int .i64 va, .int .i64 vm, .slice A5 R.length c5] 27 ∧ Own wx W7.heap.size (.slice A5 R.length c5) R ∧ W7.heap.size ≤ b ∧ Below W7.heap.size W7 wx)
    case first =>
      have nH0 : Hid (Below W7.heap.size W7 W7.drew) := Lib.hid (Below.refl W7.heap.size W7).drew
      have nz0 : W7.drew.heap.size = W7.heap.size := World.size_drew W7
      refine wp_region_noPanic ?_
      refine wp_region_held_drew (S := (fun V => V.cell? ⟨nb, 0, none⟩ = some (.int .i64 ca) ∧ V.cell? ⟨nb, 1, none⟩ = some (.int .i64 cm) ∧ V.cell? ⟨nb, 2, none⟩ = some (.slice cA Q.length cc))) (by kernel_rfl) (by exact ⟨q0, q1, q2⟩) (fun hHeld => ?_)
      refine wpAnyH_take (i := 0) (oi := ?_) (v := ?_) ?_ ?_ ?_ ?_ ?_ ?_ (by exact hHeld) ?_
      rotate_left 2
      · (simp only [List.getElem?_toArray, List.getElem?_cons_zero]; try rfl)
      · kernel_rfl
      · kernel_rfl
      · kernel_rfl
      · exact fun _ _ _ h => h
      · refine Or.inl ⟨by rfl, ?_⟩
        (intro V hSV; (try dsimp only at hSV); obtain ⟨q0, q1, q2⟩ := hSV; go_simp; try with_reducible rfl)
      (try simp only [Act.put, List.setIfInBounds_toArray, List.set_cons_zero, List.set_cons_succ])
      refine wpAnyH_take (i := 1) (oi := ?_) (v := ?_) ?_ ?_ ?_ ?_ ?_ ?_ (by exact hHeld) ?_
      rotate_left 2
      · (simp only [List.getElem?_toArray, List.getElem?_cons_zero, List.getElem?_cons_succ]; try rfl)
      · kernel_rfl
      · kernel_rfl
      · kernel_rfl
      · exact fun _ _ _ h => h
      · refine Or.inl ⟨by rfl, ?_⟩
        (intro V hSV; (try dsimp only at hSV); obtain ⟨q0, q1, q2⟩ := hSV; go_simp; try with_reducible rfl)
      (try simp only [Act.put, List.setIfInBounds_toArray, List.set_cons_zero, List.set_cons_succ])
      refine wpAnyH_take (i := 2) (oi := ?_) (v := ?_) ?_ ?_ ?_ ?_ ?_ ?_ (by exact hHeld) ?_
      rotate_left 2
      · (simp only [List.getElem?_toArray, List.getElem?_cons_zero, List.getElem?_cons_succ]; try rfl)
      · kernel_rfl
      · kernel_rfl
      · kernel_rfl
      · exact fun _ _ _ h => h
      · refine Or.inl ⟨by rfl, ?_⟩
        (intro V hSV; (try dsimp only at hSV); obtain ⟨q0, q1, q2⟩ := hSV; go_simp; try with_reducible rfl)
      (try simp only [Act.put, List.setIfInBounds_toArray, List.set_cons_zero, List.set_cons_succ])
      refine wpAnyH_take (i := 3) (oi := ?_) (v := ?_) ?_ ?_ ?_ ?_ ?_ ?_ (by exact hHeld) ?_
      rotate_left 2
      · (simp only [List.getElem?_toArray, List.getElem?_cons_zero, List.getElem?_cons_succ]; try rfl)
      · kernel_rfl
      · kernel_rfl
      · kernel_rfl
      · exact fun _ _ _ h => h
      · refine Or.inl ⟨by rfl, ?_⟩
        (intro V hSV; (try dsimp only at hSV); obtain ⟨q0, q1, q2⟩ := hSV; go_simp; try with_reducible rfl)
      (try simp only [Act.put, List.setIfInBounds_toArray, List.set_cons_zero, List.set_cons_succ])
      refine wpAnyH_ready (rs := [4, 8]) (by kernel_rfl) (by simp) ?_
      refine AllReadyH.cons (o := ?_) ?_ (fun K hK => ?_) ?_
      rotate_left 1
      · (simp only [List.getElem?_toArray, List.getElem?_cons_zero, List.getElem?_cons_succ]; try rfl)
      · go_simp
        have h7 := implEditMoves_any ca cm cA Q cc B2 E2 (d - k) _ hQ9 (by rw [HL2.out]; omega) (by have h9 := CBY.out.below nH0.out; exact h9) (by have h9 := HED.out.below nH0.out; exact h9)
        rw [HL2.out, HMD2.out] at h7
        refine h7.mono ?_
        rintro e ny1 ⟨v, rfl, hown9, hb⟩

        obtain ⟨vA9, vc9, rfl, _, _, _⟩ := hown9.form
        have zq9 := (nH0.out).size
        have OO := Lib.hid (hown9.mono (base' := W7.heap.size) (by first | exact zq9 | omega))
        have OR := Lib.hid hown9.range
        clear hown9
        have zY1 := nH0.out.size
        have nH1 := Lib.hid (below_then nH0.out hb)
        clear hb
        go_wp2_with fail
        refine hK.out _ _ (by exact ⟨(HX.out.below nH1.out).cell 0, (HX.out.below nH1.out).cell 1, (HX.out.below nH1.out).cell 2⟩) (fun hHeld => ?_)
        clear hK K
        (try simp only [Act.put, List.setIfInBounds_toArray, List.set_cons_zero, List.set_cons_succ])
        refine wpAnyH_take (i := 5) (oi := ?_) (v := ?_) ?_ ?_ ?_ ?_ ?_ ?_ (by exact hHeld) ?_
        rotate_left 2
        · (simp only [List.getElem?_toArray, List.getElem?_cons_zero, List.getElem?_cons_succ]; try rfl)
        · kernel_rfl
        · kernel_rfl
        · kernel_rfl
        · exact fun _ _ _ h => h
        · refine Or.inl ⟨by rfl, ?_⟩
          (intro V hSV; (try dsimp only at hSV); obtain ⟨q0, q1, q2⟩ := hSV; go_simp; try with_reducible rfl)
        (try simp only [Act.put, List.setIfInBounds_toArray, List.set_cons_zero, List.set_cons_succ])
        refine wpAnyH_take (i := 6) (oi := ?_) (v := ?_) ?_ ?_ ?_ ?_ ?_ ?_ (by exact hHeld) ?_
        rotate_left 2
        · (simp only [List.getElem?_toArray, List.getElem?_cons_zero, List.getElem?_cons_succ]; try rfl)
        · kernel_rfl
        · kernel_rfl
        · kernel_rfl
        · exact fun _ _ _ h => h
        · refine Or.inl ⟨by rfl, ?_⟩
          (intro V hSV; (try dsimp only at hSV); obtain ⟨q0, q1, q2⟩ := hSV; go_simp; try with_reducible rfl)
        (try simp only [Act.put, List.setIfInBounds_toArray, List.set_cons_zero, List.set_cons_succ])
        refine wpAnyH_take (i := 7) (oi := ?_) (v := ?_) ?_ ?_ ?_ ?_ ?_ ?_ (by exact hHeld) ?_
        rotate_left 2
        · (simp only [List.getElem?_toArray, List.getElem?_cons_zero, List.getElem?_cons_succ]; try rfl)
        · kernel_rfl
        · kernel_rfl
        · kernel_rfl
        · exact fun _ _ _ h => h
        · refine Or.inl ⟨by rfl, ?_⟩
          (intro V hSV; (try dsimp only at hSV); obtain ⟨q0, q1, q2⟩ := hSV; go_simp; try with_reducible rfl)
        (try simp only [Act.put, List.setIfInBounds_toArray, List.set_cons_zero, List.set_cons_succ])
        refine wpAnyH_ready (rs := [8]) (by kernel_rfl) (by simp) ?_
        refine AllReadyH.cons (o := ?_) ?_ (fun K hK => ?_) AllReadyH.nil
        rotate_left 1
        · (simp only [List.getElem?_toArray, List.getElem?_cons_zero, List.getElem?_cons_succ]; try rfl)
        have zA := nH1.out.size
        have nH2 := Lib.hid (nH1.out.alloc nH1.out.size (.cells #[.int .i64 0, .int .i64 0, .slice none 0 0] 27))
        go_simp
        refine hK.out _ _ (by exact ⟨(HX.out.below nH2.out).cell 0, (HX.out.below nH2.out).cell 1, (HX.out.below nH2.out).cell 2⟩) (fun hHeld => ?_)
        clear hK K
        (try simp only [Act.put, List.setIfInBounds_toArray, List.set_cons_zero, List.set_cons_succ])
        refine wpAnyH_ready (rs := [9]) (by kernel_rfl) (by simp) ?_
        refine AllReadyH.cons (o := ?_) ?_ (fun K hK => ?_) AllReadyH.nil
        rotate_left 1
        · (simp only [List.getElem?_toArray, List.getElem?_cons_zero, List.getElem?_cons_succ]; try rfl)
        have HF := Lib.hid (nH1.out.alloc nH1.out.size (.cells #[.int .i64 va, .int .i64 vm, .slice vA9 R.length vc9] 27))
        go_simp
        refine hK.out _ _ (by exact ⟨(HX.out.below HF.out).cell 0, (HX.out.below HF.out).cell 1, (HX.out.below HF.out).cell 2⟩) (fun hHeld => ?_)
        clear hK K
        (try simp only [Act.put, List.setIfInBounds_toArray, List.set_cons_zero, List.set_cons_succ])
        refine wpAnyH_take (i := 10) (oi := ?_) (v := ?_) ?_ ?_ ?_ ?_ ?_ ?_ (by exact hHeld) ?_
        rotate_left 2
        · (simp only [List.getElem?_toArray, List.getElem?_cons_zero, List.getElem?_cons_succ]; try rfl)
        · kernel_rfl
        · kernel_rfl
        · kernel_rfl
        · exact fun _ _ _ h => h
        · refine Or.inl ⟨by rfl, ?_⟩
          (intro V hSV; (try dsimp only at hSV); obtain ⟨q0, q1, q2⟩ := hSV; go_simp; try with_reducible rfl)
        (try simp only [Act.put, List.setIfInBounds_toArray, List.set_cons_zero, List.set_cons_succ])
        refine wpAnyH_done (by kernel_rfl) ?_ _
        refine NoPanic.normal ?_
        go_wp2_with fail
        go_meet
        have BF := Lib.hid (Blk.new ny1 #[.int .i64 va, .int .i64 vm, .slice vA9 R.length vc9] 27)
        have zF := nH1.out.size
        have hn9 := OO.out.below ((Below.refl _ _).alloc (Nat.le_refl _) (.cells #[.int .i64 va, .int .i64 vm, .slice vA9 R.length vc9] 27))
        exact ⟨ny1.heap.size, vA9, vc9, rfl, rfl, BF.out, hn9, by omega, HF.out⟩
      refine AllReadyH.cons (o := ?_) ?_ (fun K hK => ?_) AllReadyH.nil
      rotate_left 1
      · (simp only [List.getElem?_toArray, List.getElem?_cons_zero, List.getElem?_cons_succ]; try rfl)
      have zA := nH0.out.size
      have nH1 := Lib.hid (nH0.out.alloc nH0.out.size (.cells #[.int .i64 0, .int .i64 0, .slice none 0 0] 27))
      have BX := Lib.hid (Blk.new (W7.drew) #[.int .i64 0, .int .i64 0, .slice none 0 0] 27)
      have BX := Lib.hid (show Blk (W7.drew.alloc (.cells #[.int .i64 0, .int .i64 0, .slice none 0 0] 27)) W7.heap.size #[.int .i64 0, .int .i64 0, .slice none 0 0] 27 from by have h9 := BX.out; rw [World.size_drew] at h9; exact h9)
      go_simp
      refine hK.out _ _ (by exact ⟨(HX.out.below nH1.out).cell 0, (HX.out.below nH1.out).cell 1, (HX.out.below nH1.out).cell 2⟩) (fun hHeld => ?_)
      clear hK K
      (try simp only [Act.put, List.setIfInBounds_toArray, List.set_cons_zero, List.set_cons_succ])
      refine wpAnyH_ready (rs := [4]) (by kernel_rfl) (by simp) ?_
      refine AllReadyH.cons (o := ?_) ?_ (fun K hK => ?_) AllReadyH.nil
      rotate_left 1
      · (simp only [List.getElem?_toArray, List.getElem?_cons_zero, List.getElem?_cons_succ]; try rfl)
      go_simp
      have h7 := implEditMoves_any ca cm cA Q cc B2 E2 (d - k) _ hQ9 (by rw [HL2.out]; omega) (by have h9 := CBY.out.below nH1.out; exact h9) (by have h9 := HED.out.below nH1.out; exact h9)
      rw [HL2.out, HMD2.out] at h7
      refine h7.mono ?_
      rintro e ny1 ⟨v, rfl, hown9, hb⟩

      obtain ⟨vA9, vc9, rfl, _, _, _⟩ := hown9.form
      have zq9 := (nH1.out).size
      have OO := Lib.hid (hown9.mono (base' := W7.heap.size) (by first | exact zq9 | omega))
      have OR := Lib.hid hown9.range
      clear hown9
      have zY2 := nH1.out.size
      have nH2 := Lib.hid (below_then nH1.out hb)
      have BX := Lib.hid (BX.out.below hb)
      clear hb
      go_wp2_with fail
      refine hK.out _ _ (by exact ⟨(HX.out.below nH2.out).cell 0, (HX.out.below nH2.out).cell 1, (HX.out.below nH2.out).cell 2⟩) (fun hHeld => ?_)
      clear hK K
      (try simp only [Act.put, List.setIfInBounds_toArray, List.set_cons_zero, List.set_cons_succ])
      refine wpAnyH_take (i := 5) (oi := ?_) (v := ?_) ?_ ?_ ?_ ?_ ?_ ?_ (by exact hHeld) ?_
      rotate_left 2
      · (simp only [List.getElem?_toArray, List.getElem?_cons_zero, List.getElem?_cons_succ]; try rfl)
      · kernel_rfl
      · kernel_rfl
      · kernel_rfl
      · exact fun _ _ _ h => h
      · refine Or.inl ⟨by rfl, ?_⟩
        (intro V hSV; (try dsimp only at hSV); obtain ⟨q0, q1, q2⟩ := hSV; go_simp; try with_reducible rfl)
      (try simp only [Act.put, List.setIfInBounds_toArray, List.set_cons_zero, List.set_cons_succ])
      refine wpAnyH_take (i := 6) (oi := ?_) (v := ?_) ?_ ?_ ?_ ?_ ?_ ?_ (by exact hHeld) ?_
      rotate_left 2
      · (simp only [List.getElem?_toArray, List.getElem?_cons_zero, List.getElem?_cons_succ]; try rfl)
      · kernel_rfl
      · kernel_rfl
      · kernel_rfl
      · exact fun _ _ _ h => h
      · refine Or.inl ⟨by rfl, ?_⟩
        (intro V hSV; (try dsimp only at hSV); obtain ⟨q0, q1, q2⟩ := hSV; go_simp; try with_reducible rfl)
      (try simp only [Act.put, List.setIfInBounds_toArray, List.set_cons_zero, List.set_cons_succ])
      refine wpAnyH_take (i := 7) (oi := ?_) (v := ?_) ?_ ?_ ?_ ?_ ?_ ?_ (by exact hHeld) ?_
      rotate_left 2
      · (simp only [List.getElem?_toArray, List.getElem?_cons_zero, List.getElem?_cons_succ]; try rfl)
      · kernel_rfl
      · kernel_rfl
      · kernel_rfl
      · exact fun _ _ _ h => h
      · refine Or.inl ⟨by rfl, ?_⟩
        (intro V hSV; (try dsimp only at hSV); obtain ⟨q0, q1, q2⟩ := hSV; go_simp; try with_reducible rfl)
      (try simp only [Act.put, List.setIfInBounds_toArray, List.set_cons_zero, List.set_cons_succ])
      have zB := BX.out.lt
      have nb0 := HX.out.lt
      have g0 := BX.out.cell 0
      have f0 := BX.out.frozen 0
      have g1 := BX.out.cell 1
      have f1 := BX.out.frozen 1
      have g2 := BX.out.cell 2
      have f2 := BX.out.frozen 2
      have zz9 : W7.heap.size ≤ W7.heap.size := by first | exact Nat.le_refl _ | omega
      have BF : Hid (Blk ((((ny1.setCell ⟨W7.heap.size, 0, none⟩ (.int .i64 va)).setCell ⟨W7.heap.size, 1, none⟩ (.int .i64 vm)).setCell ⟨W7.heap.size, 2, none⟩ (.slice vA9 R.length vc9))) W7.heap.size #[.int .i64 va, .int .i64 vm, .slice vA9 R.length vc9] 27) := Lib.hid (by simpa using (((BX.out.set 0 (.int .i64 va)).set 1 (.int .i64 vm)).set 2 (.slice vA9 R.length vc9)))
      have HF : Hid (Below W7.heap.size W7 ((((ny1.setCell ⟨W7.heap.size, 0, none⟩ (.int .i64 va)).setCell ⟨W7.heap.size, 1, none⟩ (.int .i64 vm)).setCell ⟨W7.heap.size, 2, none⟩ (.slice vA9 R.length vc9)))) := Lib.hid (((nH2.out.setCell (p := ⟨W7.heap.size, 0, none⟩) (by omega) (.int .i64 va)).setCell (p := ⟨W7.heap.size, 1, none⟩) (by omega) (.int .i64 vm)).setCell (p := ⟨W7.heap.size, 2, none⟩) (by omega) (.slice vA9 R.length vc9))
      refine wpAnyH_ready (rs := [9]) (by kernel_rfl) (by simp) ?_
      refine AllReadyH.cons (o := ?_) ?_ (fun K hK => ?_) AllReadyH.nil
      rotate_left 1
      · (simp only [List.getElem?_toArray, List.getElem?_cons_zero, List.getElem?_cons_succ]; try rfl)
      go_simp
      refine hK.out _ _ (by exact ⟨(HX.out.below HF.out).cell 0, (HX.out.below HF.out).cell 1, (HX.out.below HF.out).cell 2⟩) (fun hHeld => ?_)
      clear hK K
      (try simp only [Act.put, List.setIfInBounds_toArray, List.set_cons_zero, List.set_cons_succ])
      refine wpAnyH_take (i := 10) (oi := ?_) (v := ?_) ?_ ?_ ?_ ?_ ?_ ?_ (by exact hHeld) ?_
      rotate_left 2
      · (simp only [List.getElem?_toArray, List.getElem?_cons_zero, List.getElem?_cons_succ]; try rfl)
      · kernel_rfl
      · kernel_rfl
      · kernel_rfl
      · exact fun _ _ _ h => h
      · refine Or.inl ⟨by rfl, ?_⟩
        (intro V hSV; (try dsimp only at hSV); obtain ⟨q0, q1, q2⟩ := hSV; go_simp; try with_reducible rfl)
      (try simp only [Act.put, List.setIfInBounds_toArray, List.set_cons_zero, List.set_cons_succ])
      refine wpAnyH_done (by kernel_rfl) ?_ _
      refine NoPanic.normal ?_
      go_wp2_with fail
      go_meet
      have hn9 : ∀ k ∈ (Value.slice vA9 R.length vc9).ownBlock.toList, W7.heap.size ≠ k := fun k hk => by have h1 := OR.out k hk; have h2 := zB; first | omega | (simp at h1; omega)
      exact ⟨W7.heap.size, vA9, vc9, rfl, rfl, BF.out, ownSet19 (ownSet19 (ownSet19 (OO.out) hn9 0 (.int .i64 va)) hn9 1 (.int .i64 vm)) hn9 2 (.slice vA9 R.length vc9), by omega, HF.out⟩
    case rest =>
      obtain ⟨mb, bA, bc, rfl, rfl, hM, hownC, hmb, hb⟩ := hcut
      have GB := Lib.hid (GB.out.below hb)
      have GBY := Lib.hid (GBY.out.below hb)
      have HAL := Lib.hid (below_then HAL.out hb)
      have DB := Lib.hid (show EBox _ mb va vm bA R.length bc from ⟨hM⟩)
      have DBY := Lib.hid (own_bs9 hownC)
      clear hM hownC hb q0 q1 q2
      have s0 := DB.out.c0
      have s1 := DB.out.c1
      have s2 := DB.out.c2
      have r0 := GB.out.c0
      have r1 := GB.out.c1
      have r2 := GB.out.c2
      go_wp2_with fail
      refine (sameEdit_any va vm bA gA R bc gc _ (by exact DBY.out) (by exact GBY.out)).mono ?_
      rintro e w8 ⟨rfl, hb⟩
      have hb9 := below_then HAL.out hb
      go_wp2
      go_ret
      exact ⟨rfl, hb9⟩

end Go.Proofs.Ytoaimklllmelpaa.fnEditMoves
