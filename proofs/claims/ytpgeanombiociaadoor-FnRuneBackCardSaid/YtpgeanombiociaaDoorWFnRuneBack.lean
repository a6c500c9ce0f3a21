/-
  FnRuneBack, its walk. Own work.
-/
import Derived.Test.YtpgeanombiociaaDoorLaw
import Derived.Test.YtpgeanombiociaaDoorCur5
import Derived.Test.YtpgeanombiociaaDoorP01e
import Derived.Deep.RegionHeld3
namespace Go.Proofs.YtpgeanombiociaaDoor.fnRuneBack
open Go.ChangeShapes Go.WideShapes Go.ChangeAt Go.RowKit P
set_option linter.unusedVariables false

theorem stepB {w w' : World} {A : Option Addr} {l : List UInt8} (n : Nat) (hB : Bs w A l) (hb : Below (w.drewN n).heap.size (w.drewN n) w') : Bs w' A l := Bs.below (w := w.drewN n) hB hb
theorem stepT {w w' : World} (n : Nat) (hT : Tab w) (hb : Below (w.drewN n).heap.size (w.drewN n) w') : Tab w' := Tab.below (w := w.drewN n) hT hb

set_option maxHeartbeats 4000000 in
set_option maxRecDepth 100000 in
theorem walk (A : Option Addr) (l : List UInt8) (c : Nat) (hc : l.length ≤ c) (hm : c ≤ maxLen) (w : World) (hB : Bs w A l) (hT : Tab w) :
    Calls Tryd.prog 3 #[.slice A l.length c] w fun e w' => e = .returned (.bool true) ∧ Below w.heap.size w w' := by
  by_cases hbig : 1048576 < l.length
  · have hb : decide (1048576 < l.length) = true := decide_eq_true hbig
    have HBG := Lib.hid hb
    clear hb hbig
    go_enter Tryd.func3, Tryd.ntmps3
    go_wp2_with (go_at_call 12; refine (big_any _ _ _ _).mono ?_; rintro e w' ⟨rfl, rfl⟩; rw [HBG.out])
    go_ret
    exact ⟨rfl, Below.refl _ _⟩
  · have hl : l.length ≤ 1048576 := by omega
    have hb : decide (1048576 < l.length) = false := decide_eq_false hbig
    have HBG := Lib.hid hb
    clear hb hbig hc hm
    obtain ⟨i0, hi, hi0, hi1, hi2⟩ := info_parts Tryd.infoB
    go_enter Tryd.func3, Tryd.ntmps3
    go_wp2_with fail
    refine (big_any _ _ _ _).mono ?_
    rintro e w0 ⟨rfl, rfl⟩
    rw [HBG.out]
    go_wp2_with fail
    refine (drawRuneBytes_any A l c _ hl (by exact hB)).mono ?_
    rintro e w1 ⟨r, rfl, hr0, hr1, hb1⟩
    have hT1 := hT.below hb1
    have hB1 := hB.below hb1
    have hen : (enc r).length ≤ 4 := enc_le r
    have h97 := enc_at_one r
    have hsz := enc_size r
    have htx := enc_text r
    go_wp2_with fail
    refine (implRuneBytes_any r _ (by exact hT1)).mono ?_
    rintro e w2 ⟨v2, rfl, hown2, hb2⟩
    have hT2 := hT1.below hb2
    have hB2 := hB1.below hb2
    have hs2 := hb1.size
    have hown2 := hown2.mono (base' := w0.heap.size) hs2
    have hb2 := below_then hb1 hb2
    obtain ⟨A2, c2, rfl, hlc2, hcm2, hBd2⟩ := hown2.form
    go_wp2_with fail
    refine (specRuneBytes_any r _).mono ?_
    rintro e w3 ⟨v3, rfl, hown3, hb3⟩
    obtain ⟨A3, c3, rfl, _, _, _⟩ := hown3.form
    have hT3 := hT2.below hb3
    have hB3 := hB2.below hb3
    have hBd3 := hBd2.below hb3
    have hb3 := below_then hb2 hb3
    have hc29 : c2 ≤ 9223372036854775807 := by unfold maxLen at hcm2; omega
    generalize enc r = E at *
    clear hown3 hown2 hT1 hT2 hB1 hB2 hBd2 hb1 hb2 hcm2 hT hB hs2 HBG
    by_cases hE : 0 < E.length
    · have h97 := h97 hE
      have hsz := hsz hE
      have H97 := Lib.hid h97
      have HSZ := Lib.hid hsz
      have HTX := Lib.hid htx
      clear h97 hsz htx
      have hE' : 0 < (E.length : Int) := by omega
      have hnew : Own (w3.alloc (.cells #[.int .u8 97] 5)) w3.heap.size (.slice (some ⟨w3.heap.size, 0, none⟩) 1 1) [97] := Own.new w3 [97] (by unfold maxLen; simp)
      have hBd4 := hBd3.below ((Below.refl w3.heap.size w3).alloc (Nat.le_refl _) (.cells #[.int .u8 97] 5))
      have hb4 := hb3.alloc hb3.size (.cells #[.int .u8 97] 5)
      go_wp2_with (at_builtin; go_must (refine wpList_app_bytes (by simp [Region.wanted, yielded]) _ _ rfl w3.heap.size _ [97] E A2 _ c2 rfl rfl rfl hnew hBd4 ?c1 ?c2 ?_))
      case c1 => simp; omega
      case c2 => simp
      intro v4 w4 hown4 hg4 _
      have hb34 : Below w3.heap.size w3 w4 := ((Below.refl w3.heap.size w3).alloc (Nat.le_refl _) (.cells #[.int .u8 97] 5)).grown hg4 (by simp) (fun k hk => by cases hk; exact Nat.le_refl _)
      have hb5 := below_then hb3 hb34
      have hT4 := hT3.below hb34
      have hB4 := hB3.below hb34
      have hBd5 := hBd3.below hb34
      obtain ⟨A4, c4, rfl, hlc4, hcm4, hBn⟩ := hown4.form
      have hc49 : c4 ≤ 9223372036854775807 := by unfold maxLen at hcm4; omega
      clear hown4 hg4 hBd4 hBd3 hb4 hnew hb34 hT3 hB3 hb3 hcm4
      go_wp2_with fail
      refine (runeAt_any A4 (97 :: E) c4 1 _ (by exact hlc4) hc49 (by exact hT4) (by exact hBn)).mono ?_
      rintro e w5 ⟨rfl, n5, rfl⟩
      rw [H97.out]
      go_wp2_with fail
      refine (runeSize_any A2 E c2 0 _ hlc2 hc29 (by exact hT4) (by exact hBd5)).mono ?_
      rintro e w6 ⟨rfl, n6, rfl⟩
      rw [HSZ.out]
      go_wp2_with fail
      refine (textOk_any A2 E c2 _ hlc2 hc29 (by exact hT4) (by exact hBd5)).mono ?_
      rintro e w7 ⟨rfl, n7, rfl⟩
      rw [HTX.out]
      go_wp2_with fail
      refine (drawRuneAt_any A l c _ hl (by exact hB4)).mono ?_
      rintro e w8 ⟨v8, t, at_, rfl, hown8, ht401, hat0, hat1, hb8⟩
      have hT8 : Tab w8 := stepT _ hT4 hb8
      have hb8 := below_then (below_drewN hb5 _) hb8
      have hs8 := hb8.size
      clear hBn hBd5 hB4 hT4 hb5
      obtain ⟨A8, c8, rfl, hlc8, hcm8, hB8⟩ := hown8.form
      have hc89 : c8 ≤ 9223372036854775807 := by unfold maxLen at hcm8; omega
      clear hown8 hcm8
      go_wp2_with fail
      refine (runeSize_any A8 t c8 at_ _ hlc8 hc89 (by exact hT8) (by exact hB8)).mono ?_
      rintro e w9 ⟨rfl, n9, rfl⟩
      have hin := runeSize_in (l := t) (a := at_)
      obtain ⟨z, hz⟩ : ∃ z, runeSize t at_ = z := ⟨_, rfl⟩
      rw [hz] at hin
      have HZ := Lib.hid hz
      clear hz
      rw [HZ.out]
      go_wp2_with fail
      refine (specRuneSize_any A8 t c8 at_ _ hlc8 hc89 (by exact hB8)).mono ?_
      rintro e w10 ⟨rfl, hb10⟩
      rw [HZ.out]
      have hB10 := stepB _ hB8 hb10
      have hT10 := stepT _ hT8 hb10
      have hb10 := below_then (below_drewN hb8 _) hb10
      clear hB8 hT8 hb8
      by_cases hz0 : z = 0
      · subst hz0
        clear hin
        go_wp2
        go_quiet (fail)
        go_wp2
        go_ret
        exact ⟨rfl, below_drewN hb10 _⟩
      · obtain ⟨k, rfl, hkz, henc⟩ := hin hz0
        have hkt : k < t.length := by omega
        obtain ⟨b, off, rfl, hblt, hcx⟩ := hB10 k hkt
        have hS := hB10.sub k z
        have hSl : ((t.drop k).take z).length = z := by rw [List.length_take, List.length_drop]; omega
        clear hin hcx
        obtain ⟨S, hSe⟩ : ∃ S, (t.drop k).take z = S := ⟨_, rfl⟩
        rw [hSe] at hS hSl henc
        obtain ⟨rv, hrv⟩ : ∃ rv, runeAt t (k : Int) = rv := ⟨_, rfl⟩
        rw [hrv] at henc
        have HRV := Lib.hid hrv
        have HENC := Lib.hid henc
        have hcap : ¬ c8 = k := by omega
        have hzz : ((z : Int) == 0) = false := by simp; omega
        have hcv : ∀ W, Below w10.heap.size w10 W → (convert 22 9 (.slice (some ⟨b, off + k, none⟩) z (c8 - k))).run Tryd.prog W = .ok (.string ⟨S.toArray⟩) W := fun W hb => run_conv_bs (c8 - k) z hSl.symm (hS.below hb)
        have hcv0 := hcv w10.drew (below_of_drewN w10 1)
        have hcvn := fun n => hcv (w10.drewN n) (below_of_drewN w10 n)
        have hw0 : 0 ≤ (k : Int) := by omega
        have hw2 : 0 ≤ (k : Int) + (z : Int) := by omega
        have hw3 : (k : Int) + (z : Int) ≤ (c8 : Int) := by omega
        have hw4 : (k : Int) ≤ (k : Int) + (z : Int) := by omega
        have hw5 : ((k : Int) + (z : Int)).toNat = k + z := by omega
        have hw1 : IntKind.i64.wrap ((k : Int) + (z : Int)) = (k : Int) + (z : Int) := IntWalk.i64_in _ ⟨by omega, by omega⟩
        have hbfin := hb10
        clear hrv henc hz0 hkz hSe
        have HSL := Lib.hid hSl
        clear hSl
        clear hi hi0 hi1 hi2 hr0 hr1 hen h97 hsz hE hat0 hat1 HZ hblt ht401 hl hkt
        go_wp2
        have HCV := Lib.hid hcv
        clear hcv hcvn hcv0
        refine wp_region_held_drew (S := (fun w' => (convert 22 9 (.slice (some ⟨b, off + k, none⟩) z (c8 - k))).run Tryd.prog w' = .ok (.string ⟨S.toArray⟩) w')) (by kernel_rfl) (HCV.out _ (below_of_drewN w10 1)) (fun hHeld => ?_)
        refine wpAnyH_take (i := 0) (oi := ?_) (v := ?_) ?_ ?_ ?_ ?_ ?_ ?_ (by exact hHeld) ?_
        rotate_left 2
        · (simp only [List.getElem?_toArray, List.getElem?_cons_zero]; try rfl)
        · kernel_rfl
        · kernel_rfl
        · kernel_rfl
        · exact fun _ _ _ h => h
        · refine Or.inl ⟨by rfl, ?_⟩
          (intro w hSw; (try dsimp only at hSw); go_simp; try with_reducible rfl)
        (try simp only [Act.put, List.setIfInBounds_toArray, List.set_cons_zero, List.set_cons_succ])
        refine wpAnyH_take (i := 1) (oi := ?_) (v := ?_) ?_ ?_ ?_ ?_ ?_ ?_ (by exact hHeld) ?_
        rotate_left 2
        · (simp only [List.getElem?_toArray, List.getElem?_cons_zero, List.getElem?_cons_succ]; try rfl)
        · kernel_rfl
        · kernel_rfl
        · kernel_rfl
        · exact fun _ _ _ h => h
        · refine Or.inl ⟨by rfl, ?_⟩
          (intro w hSw; (try dsimp only at hSw); go_simp; try with_reducible rfl)
        (try simp only [Act.put, List.setIfInBounds_toArray, List.set_cons_zero, List.set_cons_succ])
        refine wpAnyH_take (i := 2) (oi := ?_) (v := ?_) ?_ ?_ ?_ ?_ ?_ ?_ (by exact hHeld) ?_
        rotate_left 2
        · (simp only [List.getElem?_toArray, List.getElem?_cons_zero, List.getElem?_cons_succ]; try rfl)
        · kernel_rfl
        · kernel_rfl
        · kernel_rfl
        · exact fun _ _ _ h => h
        · refine Or.inl ⟨by rfl, ?_⟩
          (intro w hSw; (try dsimp only at hSw); go_simp; try with_reducible rfl)
        (try simp only [Act.put, List.setIfInBounds_toArray, List.set_cons_zero, List.set_cons_succ])
        refine wpAnyH_take (i := 3) (oi := ?_) (v := ?_) ?_ ?_ ?_ ?_ ?_ ?_ (by exact hHeld) ?_
        rotate_left 2
        · (simp only [List.getElem?_toArray, List.getElem?_cons_zero, List.getElem?_cons_succ]; try rfl)
        · kernel_rfl
        · kernel_rfl
        · kernel_rfl
        · exact fun _ _ _ h => h
        · refine Or.inl ⟨by rfl, ?_⟩
          (intro w hSw; (try dsimp only at hSw); go_simp; try with_reducible rfl)
        (try simp only [Act.put, List.setIfInBounds_toArray, List.set_cons_zero, List.set_cons_succ])
        refine wpAnyH_take (i := 4) (oi := ?_) (v := ?_) ?_ ?_ ?_ ?_ ?_ ?_ (by exact hHeld) ?_
        rotate_left 2
        · (simp only [List.getElem?_toArray, List.getElem?_cons_zero, List.getElem?_cons_succ]; try rfl)
        · kernel_rfl
        · kernel_rfl
        · kernel_rfl
        · exact fun _ _ _ h => h
        · refine Or.inl ⟨by rfl, ?_⟩
          (intro w hSw; (try dsimp only at hSw); go_simp; try with_reducible rfl)
        (try simp only [Act.put, List.setIfInBounds_toArray, List.set_cons_zero, List.set_cons_succ])
        refine wpAnyH_take (i := 8) (oi := ?_) (v := ?_) ?_ ?_ ?_ ?_ ?_ ?_ (by exact hHeld) ?_
        rotate_left 2
        · (simp only [List.getElem?_toArray, List.getElem?_cons_zero, List.getElem?_cons_succ]; try rfl)
        · kernel_rfl
        · kernel_rfl
        · kernel_rfl
        · exact fun _ _ _ h => h
        · refine Or.inl ⟨by rfl, ?_⟩
          (intro w hSw; (try dsimp only at hSw); go_simp; try with_reducible rfl)
        (try simp only [Act.put, List.setIfInBounds_toArray, List.set_cons_zero, List.set_cons_succ])
        refine wpAnyH_take (i := 9) (oi := ?_) (v := ?_) ?_ ?_ ?_ ?_ ?_ ?_ (by exact hHeld) ?_
        rotate_left 2
        · (simp only [List.getElem?_toArray, List.getElem?_cons_zero, List.getElem?_cons_succ]; try rfl)
        · kernel_rfl
        · kernel_rfl
        · kernel_rfl
        · exact fun _ _ _ h => h
        · refine Or.inl ⟨by rfl, ?_⟩
          (intro w hSw; (try dsimp only at hSw); go_simp; try with_reducible rfl)
        (try simp only [Act.put, List.setIfInBounds_toArray, List.set_cons_zero, List.set_cons_succ])
        refine wpAnyH_take (i := 10) (oi := ?_) (v := ?_) ?_ ?_ ?_ ?_ ?_ ?_ (by exact hHeld) ?_
        rotate_left 2
        · (simp only [List.getElem?_toArray, List.getElem?_cons_zero, List.getElem?_cons_succ]; try rfl)
        · kernel_rfl
        · kernel_rfl
        · kernel_rfl
        · exact fun _ _ _ h => h
        · refine Or.inl ⟨by rfl, ?_⟩
          (intro w hSw; (try dsimp only at hSw); go_simp; try with_reducible rfl)
        (try simp only [Act.put, List.setIfInBounds_toArray, List.set_cons_zero, List.set_cons_succ])
        refine wpAnyH_take (i := 11) (oi := ?_) (v := ?_) ?_ ?_ ?_ ?_ ?_ ?_ (by exact hHeld) ?_
        rotate_left 2
        · (simp only [List.getElem?_toArray, List.getElem?_cons_zero, List.getElem?_cons_succ]; try rfl)
        · kernel_rfl
        · kernel_rfl
        · kernel_rfl
        · exact fun _ _ _ h => h
        · refine Or.inl ⟨by rfl, ?_⟩
          (intro w hSw; (try dsimp only at hSw); go_simp; try with_reducible rfl)
        (try simp only [Act.put, List.setIfInBounds_toArray, List.set_cons_zero, List.set_cons_succ])
        refine wpAnyH_take (i := 12) (oi := ?_) (v := ?_) ?_ ?_ ?_ ?_ ?_ ?_ (by exact hHeld) ?_
        rotate_left 2
        · (simp only [List.getElem?_toArray, List.getElem?_cons_zero, List.getElem?_cons_succ]; try rfl)
        · kernel_rfl
        · kernel_rfl
        · kernel_rfl
        · exact fun _ _ _ h => h
        · refine Or.inl ⟨by rfl, ?_⟩
          (intro w hSw; (try dsimp only at hSw); go_simp; try with_reducible rfl)
        (try simp only [Act.put, List.setIfInBounds_toArray, List.set_cons_zero, List.set_cons_succ])
        refine wpAnyH_take (i := 13) (oi := ?_) (v := ?_) ?_ ?_ ?_ ?_ ?_ ?_ (by exact hHeld) ?_
        rotate_left 2
        · (simp only [List.getElem?_toArray, List.getElem?_cons_zero, List.getElem?_cons_succ]; try rfl)
        · kernel_rfl
        · kernel_rfl
        · kernel_rfl
        · exact fun _ _ _ h => h
        · refine Or.inl ⟨by rfl, ?_⟩
          (intro w hSw; (try dsimp only at hSw); go_simp; try with_reducible rfl)
        (try simp only [Act.put, List.setIfInBounds_toArray, List.set_cons_zero, List.set_cons_succ])
        refine wpAnyH_take (i := 14) (oi := ?_) (v := ?_) ?_ ?_ ?_ ?_ ?_ ?_ (by exact hHeld) ?_
        rotate_left 2
        · (simp only [List.getElem?_toArray, List.getElem?_cons_zero, List.getElem?_cons_succ]; try rfl)
        · kernel_rfl
        · kernel_rfl
        · kernel_rfl
        · exact fun _ _ _ h => h
        · refine Or.inl ⟨by rfl, ?_⟩
          (intro w hSw; (try dsimp only at hSw); go_simp; try with_reducible rfl)
        (try simp only [Act.put, List.setIfInBounds_toArray, List.set_cons_zero, List.set_cons_succ])
        refine wpAnyH_ready (rs := [5]) (by kernel_rfl) (by simp) ?_
        refine AllReadyH.cons rfl (fun K hK => ?_) AllReadyH.nil
        go_simp
        refine (runeAt_any _ t c8 _ _ hlc8 hc89 (by exact hT10) (by exact hB10)).mono ?_
        rintro e w11 ⟨rfl, n11, rfl⟩
        rw [HRV.out]
        go_wp2_with fail
        refine hK.out _ _ (HCV.out _ (below_of_drewN w10 _)) (fun hHeld => ?_)
        clear hK K
        (try simp only [Act.put, List.setIfInBounds_toArray, List.set_cons_zero, List.set_cons_succ])
        refine wpAnyH_ready (rs := [6]) (by kernel_rfl) (by simp) ?_
        refine AllReadyH.cons rfl (fun K hK => ?_) AllReadyH.nil
        go_simp
        refine (implRuneBytes_any rv _ (by exact hT10)).mono ?_
        rintro e w12 ⟨v12, rfl, hown12, hb12⟩
        rw [HENC.out] at hown12
        obtain ⟨A12, c12, rfl, _, _, hB12⟩ := hown12.form
        have hb13 : Below w10.heap.size w10 w12 := below_then (below_of_drewN w10 _) hb12
        have hcv2 := run_conv_bs c12 S.length rfl hB12
        go_wp2_with fail
        refine hK.out _ _ (HCV.out _ hb13) (fun hHeld => ?_)
        clear hK K
        (try simp only [Act.put, List.setIfInBounds_toArray, List.set_cons_zero, List.set_cons_succ])
        refine wpAnyH_ready (rs := [7]) (by kernel_rfl) (by simp) ?_
        refine AllReadyH.cons rfl (fun K hK => ?_) AllReadyH.nil
        go_simp
        refine hK.out _ _ (HCV.out _ hb13) (fun hHeld => ?_)
        clear hK K
        (try simp only [Act.put, List.setIfInBounds_toArray, List.set_cons_zero, List.set_cons_succ])
        refine wpAnyH_take (i := 15) (oi := ?_) (v := ?_) ?_ ?_ ?_ ?_ ?_ ?_ (by exact hHeld) ?_
        rotate_left 2
        · (simp only [List.getElem?_toArray, List.getElem?_cons_zero, List.getElem?_cons_succ]; try rfl)
        · kernel_rfl
        · kernel_rfl
        · kernel_rfl
        · exact fun _ _ _ h => h
        · refine Or.inl ⟨by rfl, ?_⟩
          (intro w hSw; (try dsimp only at hSw); go_simp; try with_reducible rfl)
        (try simp only [Act.put, List.setIfInBounds_toArray, List.set_cons_zero, List.set_cons_succ])
        refine wpAnyH_take (i := 16) (oi := ?_) (v := ?_) ?_ ?_ ?_ ?_ ?_ ?_ (by exact hHeld) ?_
        rotate_left 2
        · (simp only [List.getElem?_toArray, List.getElem?_cons_zero, List.getElem?_cons_succ]; try rfl)
        · kernel_rfl
        · kernel_rfl
        · kernel_rfl
        · exact fun _ _ _ h => h
        · refine Or.inl ⟨by rfl, ?_⟩
          (intro w hSw; (try dsimp only at hSw); go_simp; try with_reducible rfl)
        (try simp only [Act.put, List.setIfInBounds_toArray, List.set_cons_zero, List.set_cons_succ])
        refine wpAnyH_take (i := 17) (oi := ?_) (v := ?_) ?_ ?_ ?_ ?_ ?_ ?_ (by exact hHeld) ?_
        rotate_left 2
        · (simp only [List.getElem?_toArray, List.getElem?_cons_zero, List.getElem?_cons_succ]; try rfl)
        · kernel_rfl
        · kernel_rfl
        · kernel_rfl
        · exact fun _ _ _ h => h
        · refine Or.inl ⟨by rfl, ?_⟩
          (intro w hSw; (try dsimp only at hSw); go_simp; try with_reducible rfl)
        (try simp only [Act.put, List.setIfInBounds_toArray, List.set_cons_zero, List.set_cons_succ])
        refine wpAnyH_done (by kernel_rfl) ?_ _
        clear hw0 hw1 hw2 hw3 hw4 hw5 hHeld
        go_wp2
        go_ret
        exact ⟨by simp, below_then (b := w10) hbfin hb13⟩
    · have hE0 : ¬ 0 < (E.length : Int) := by omega
      go_wp2_with fail
      refine (drawRuneAt_any A l c _ hl (by exact hB3)).mono ?_
      rintro e w8 ⟨v8, t, at_, rfl, hown8, ht401, hat0, hat1, hb8⟩
      have hT8 := hT3.below hb8
      have hb8 := below_then hb3 hb8
      obtain ⟨A8, c8, rfl, hlc8, hcm8, hB8⟩ := hown8.form
      have hc89 : c8 ≤ 9223372036854775807 := by unfold maxLen at hcm8; omega
      clear hown8 hcm8
      go_wp2_with fail
      refine (runeSize_any A8 t c8 at_ _ hlc8 hc89 (by exact hT8) (by exact hB8)).mono ?_
      rintro e w9 ⟨rfl, n9, rfl⟩
      have hin := runeSize_in (l := t) (a := at_)
      obtain ⟨z, hz⟩ : ∃ z, runeSize t at_ = z := ⟨_, rfl⟩
      rw [hz] at hin
      have HZ := Lib.hid hz
      clear hz
      rw [HZ.out]
      go_wp2_with fail
      refine (specRuneSize_any A8 t c8 at_ _ hlc8 hc89 (by exact hB8)).mono ?_
      rintro e w10 ⟨rfl, hb10⟩
      rw [HZ.out]
      have hB10 := stepB _ hB8 hb10
      have hT10 := stepT _ hT8 hb10
      have hb10 := below_then (below_drewN hb8 _) hb10
      clear hB8 hT8 hb8
      by_cases hz0 : z = 0
      · subst hz0
        clear hin
        go_wp2
        go_quiet (fail)
        go_wp2
        go_ret
        exact ⟨rfl, below_drewN hb10 _⟩
      · obtain ⟨k, rfl, hkz, henc⟩ := hin hz0
        have hkt : k < t.length := by omega
        obtain ⟨b, off, rfl, hblt, hcx⟩ := hB10 k hkt
        have hS := hB10.sub k z
        have hSl : ((t.drop k).take z).length = z := by rw [List.length_take, List.length_drop]; omega
        clear hin hcx
        obtain ⟨S, hSe⟩ : ∃ S, (t.drop k).take z = S := ⟨_, rfl⟩
        rw [hSe] at hS hSl henc
        obtain ⟨rv, hrv⟩ : ∃ rv, runeAt t (k : Int) = rv := ⟨_, rfl⟩
        rw [hrv] at henc
        have HRV := Lib.hid hrv
        have HENC := Lib.hid henc
        have hcap : ¬ c8 = k := by omega
        have hzz : ((z : Int) == 0) = false := by simp; omega
        have hcv : ∀ W, Below w10.heap.size w10 W → (convert 22 9 (.slice (some ⟨b, off + k, none⟩) z (c8 - k))).run Tryd.prog W = .ok (.string ⟨S.toArray⟩) W := fun W hb => run_conv_bs (c8 - k) z hSl.symm (hS.below hb)
        have hcv0 := hcv w10.drew (below_of_drewN w10 1)
        have hcvn := fun n => hcv (w10.drewN n) (below_of_drewN w10 n)
        have hw0 : 0 ≤ (k : Int) := by omega
        have hw2 : 0 ≤ (k : Int) + (z : Int) := by omega
        have hw3 : (k : Int) + (z : Int) ≤ (c8 : Int) := by omega
        have hw4 : (k : Int) ≤ (k : Int) + (z : Int) := by omega
        have hw5 : ((k : Int) + (z : Int)).toNat = k + z := by omega
        have hw1 : IntKind.i64.wrap ((k : Int) + (z : Int)) = (k : Int) + (z : Int) := IntWalk.i64_in _ ⟨by omega, by omega⟩
        have hbfin := hb10
        clear hrv henc hz0 hkz hSe
        have HSL := Lib.hid hSl
        clear hSl
        clear hi hi0 hi1 hi2 hr0 hr1 hen h97 hsz hE hat0 hat1 HZ hblt ht401 hl hkt
        go_wp2
        have HCV := Lib.hid hcv
        clear hcv hcvn hcv0
        refine wp_region_held_drew (S := (fun w' => (convert 22 9 (.slice (some ⟨b, off + k, none⟩) z (c8 - k))).run Tryd.prog w' = .ok (.string ⟨S.toArray⟩) w')) (by kernel_rfl) (HCV.out _ (below_of_drewN w10 1)) (fun hHeld => ?_)
        refine wpAnyH_take (i := 0) (oi := ?_) (v := ?_) ?_ ?_ ?_ ?_ ?_ ?_ (by exact hHeld) ?_
        rotate_left 2
        · (simp only [List.getElem?_toArray, List.getElem?_cons_zero]; try rfl)
        · kernel_rfl
        · kernel_rfl
        · kernel_rfl
        · exact fun _ _ _ h => h
        · refine Or.inl ⟨by rfl, ?_⟩
          (intro w hSw; (try dsimp only at hSw); go_simp; try with_reducible rfl)
        (try simp only [Act.put, List.setIfInBounds_toArray, List.set_cons_zero, List.set_cons_succ])
        refine wpAnyH_take (i := 1) (oi := ?_) (v := ?_) ?_ ?_ ?_ ?_ ?_ ?_ (by exact hHeld) ?_
        rotate_left 2
        · (simp only [List.getElem?_toArray, List.getElem?_cons_zero, List.getElem?_cons_succ]; try rfl)
        · kernel_rfl
        · kernel_rfl
        · kernel_rfl
        · exact fun _ _ _ h => h
        · refine Or.inl ⟨by rfl, ?_⟩
          (intro w hSw; (try dsimp only at hSw); go_simp; try with_reducible rfl)
        (try simp only [Act.put, List.setIfInBounds_toArray, List.set_cons_zero, List.set_cons_succ])
        refine wpAnyH_take (i := 2) (oi := ?_) (v := ?_) ?_ ?_ ?_ ?_ ?_ ?_ (by exact hHeld) ?_
        rotate_left 2
        · (simp only [List.getElem?_toArray, List.getElem?_cons_zero, List.getElem?_cons_succ]; try rfl)
        · kernel_rfl
        · kernel_rfl
        · kernel_rfl
        · exact fun _ _ _ h => h
        · refine Or.inl ⟨by rfl, ?_⟩
          (intro w hSw; (try dsimp only at hSw); go_simp; try with_reducible rfl)
        (try simp only [Act.put, List.setIfInBounds_toArray, List.set_cons_zero, List.set_cons_succ])
        refine wpAnyH_take (i := 3) (oi := ?_) (v := ?_) ?_ ?_ ?_ ?_ ?_ ?_ (by exact hHeld) ?_
        rotate_left 2
        · (simp only [List.getElem?_toArray, List.getElem?_cons_zero, List.getElem?_cons_succ]; try rfl)
        · kernel_rfl
        · kernel_rfl
        · kernel_rfl
        · exact fun _ _ _ h => h
        · refine Or.inl ⟨by rfl, ?_⟩
          (intro w hSw; (try dsimp only at hSw); go_simp; try with_reducible rfl)
        (try simp only [Act.put, List.setIfInBounds_toArray, List.set_cons_zero, List.set_cons_succ])
        refine wpAnyH_take (i := 4) (oi := ?_) (v := ?_) ?_ ?_ ?_ ?_ ?_ ?_ (by exact hHeld) ?_
        rotate_left 2
        · (simp only [List.getElem?_toArray, List.getElem?_cons_zero, List.getElem?_cons_succ]; try rfl)
        · kernel_rfl
        · kernel_rfl
        · kernel_rfl
        · exact fun _ _ _ h => h
        · refine Or.inl ⟨by rfl, ?_⟩
          (intro w hSw; (try dsimp only at hSw); go_simp; try with_reducible rfl)
        (try simp only [Act.put, List.setIfInBounds_toArray, List.set_cons_zero, List.set_cons_succ])
        refine wpAnyH_take (i := 8) (oi := ?_) (v := ?_) ?_ ?_ ?_ ?_ ?_ ?_ (by exact hHeld) ?_
        rotate_left 2
        · (simp only [List.getElem?_toArray, List.getElem?_cons_zero, List.getElem?_cons_succ]; try rfl)
        · kernel_rfl
        · kernel_rfl
        · kernel_rfl
        · exact fun _ _ _ h => h
        · refine Or.inl ⟨by rfl, ?_⟩
          (intro w hSw; (try dsimp only at hSw); go_simp; try with_reducible rfl)
        (try simp only [Act.put, List.setIfInBounds_toArray, List.set_cons_zero, List.set_cons_succ])
        refine wpAnyH_take (i := 9) (oi := ?_) (v := ?_) ?_ ?_ ?_ ?_ ?_ ?_ (by exact hHeld) ?_
        rotate_left 2
        · (simp only [List.getElem?_toArray, List.getElem?_cons_zero, List.getElem?_cons_succ]; try rfl)
        · kernel_rfl
        · kernel_rfl
        · kernel_rfl
        · exact fun _ _ _ h => h
        · refine Or.inl ⟨by rfl, ?_⟩
          (intro w hSw; (try dsimp only at hSw); go_simp; try with_reducible rfl)
        (try simp only [Act.put, List.setIfInBounds_toArray, List.set_cons_zero, List.set_cons_succ])
        refine wpAnyH_take (i := 10) (oi := ?_) (v := ?_) ?_ ?_ ?_ ?_ ?_ ?_ (by exact hHeld) ?_
        rotate_left 2
        · (simp only [List.getElem?_toArray, List.getElem?_cons_zero, List.getElem?_cons_succ]; try rfl)
        · kernel_rfl
        · kernel_rfl
        · kernel_rfl
        · exact fun _ _ _ h => h
        · refine Or.inl ⟨by rfl, ?_⟩
          (intro w hSw; (try dsimp only at hSw); go_simp; try with_reducible rfl)
        (try simp only [Act.put, List.setIfInBounds_toArray, List.set_cons_zero, List.set_cons_succ])
        refine wpAnyH_take (i := 11) (oi := ?_) (v := ?_) ?_ ?_ ?_ ?_ ?_ ?_ (by exact hHeld) ?_
        rotate_left 2
        · (simp only [List.getElem?_toArray, List.getElem?_cons_zero, List.getElem?_cons_succ]; try rfl)
        · kernel_rfl
        · kernel_rfl
        · kernel_rfl
        · exact fun _ _ _ h => h
        · refine Or.inl ⟨by rfl, ?_⟩
          (intro w hSw; (try dsimp only at hSw); go_simp; try with_reducible rfl)
        (try simp only [Act.put, List.setIfInBounds_toArray, List.set_cons_zero, List.set_cons_succ])
        refine wpAnyH_take (i := 12) (oi := ?_) (v := ?_) ?_ ?_ ?_ ?_ ?_ ?_ (by exact hHeld) ?_
        rotate_left 2
        · (simp only [List.getElem?_toArray, List.getElem?_cons_zero, List.getElem?_cons_succ]; try rfl)
        · kernel_rfl
        · kernel_rfl
        · kernel_rfl
        · exact fun _ _ _ h => h
        · refine Or.inl ⟨by rfl, ?_⟩
          (intro w hSw; (try dsimp only at hSw); go_simp; try with_reducible rfl)
        (try simp only [Act.put, List.setIfInBounds_toArray, List.set_cons_zero, List.set_cons_succ])
        refine wpAnyH_take (i := 13) (oi := ?_) (v := ?_) ?_ ?_ ?_ ?_ ?_ ?_ (by exact hHeld) ?_
        rotate_left 2
        · (simp only [List.getElem?_toArray, List.getElem?_cons_zero, List.getElem?_cons_succ]; try rfl)
        · kernel_rfl
        · kernel_rfl
        · kernel_rfl
        · exact fun _ _ _ h => h
        · refine Or.inl ⟨by rfl, ?_⟩
          (intro w hSw; (try dsimp only at hSw); go_simp; try with_reducible rfl)
        (try simp only [Act.put, List.setIfInBounds_toArray, List.set_cons_zero, List.set_cons_succ])
        refine wpAnyH_take (i := 14) (oi := ?_) (v := ?_) ?_ ?_ ?_ ?_ ?_ ?_ (by exact hHeld) ?_
        rotate_left 2
        · (simp only [List.getElem?_toArray, List.getElem?_cons_zero, List.getElem?_cons_succ]; try rfl)
        · kernel_rfl
        · kernel_rfl
        · kernel_rfl
        · exact fun _ _ _ h => h
        · refine Or.inl ⟨by rfl, ?_⟩
          (intro w hSw; (try dsimp only at hSw); go_simp; try with_reducible rfl)
        (try simp only [Act.put, List.setIfInBounds_toArray, List.set_cons_zero, List.set_cons_succ])
        refine wpAnyH_ready (rs := [5]) (by kernel_rfl) (by simp) ?_
        refine AllReadyH.cons rfl (fun K hK => ?_) AllReadyH.nil
        go_simp
        refine (runeAt_any _ t c8 _ _ hlc8 hc89 (by exact hT10) (by exact hB10)).mono ?_
        rintro e w11 ⟨rfl, n11, rfl⟩
        rw [HRV.out]
        go_wp2_with fail
        refine hK.out _ _ (HCV.out _ (below_of_drewN w10 _)) (fun hHeld => ?_)
        clear hK K
        (try simp only [Act.put, List.setIfInBounds_toArray, List.set_cons_zero, List.set_cons_succ])
        refine wpAnyH_ready (rs := [6]) (by kernel_rfl) (by simp) ?_
        refine AllReadyH.cons rfl (fun K hK => ?_) AllReadyH.nil
        go_simp
        refine (implRuneBytes_any rv _ (by exact hT10)).mono ?_
        rintro e w12 ⟨v12, rfl, hown12, hb12⟩
        rw [HENC.out] at hown12
        obtain ⟨A12, c12, rfl, _, _, hB12⟩ := hown12.form
        have hb13 : Below w10.heap.size w10 w12 := below_then (below_of_drewN w10 _) hb12
        have hcv2 := run_conv_bs c12 S.length rfl hB12
        go_wp2_with fail
        refine hK.out _ _ (HCV.out _ hb13) (fun hHeld => ?_)
        clear hK K
        (try simp only [Act.put, List.setIfInBounds_toArray, List.set_cons_zero, List.set_cons_succ])
        refine wpAnyH_ready (rs := [7]) (by kernel_rfl) (by simp) ?_
        refine AllReadyH.cons rfl (fun K hK => ?_) AllReadyH.nil
        go_simp
        refine hK.out _ _ (HCV.out _ hb13) (fun hHeld => ?_)
        clear hK K
        (try simp only [Act.put, List.setIfInBounds_toArray, List.set_cons_zero, List.set_cons_succ])
        refine wpAnyH_take (i := 15) (oi := ?_) (v := ?_) ?_ ?_ ?_ ?_ ?_ ?_ (by exact hHeld) ?_
        rotate_left 2
        · (simp only [List.getElem?_toArray, List.getElem?_cons_zero, List.getElem?_cons_succ]; try rfl)
        · kernel_rfl
        · kernel_rfl
        · kernel_rfl
        · exact fun _ _ _ h => h
        · refine Or.inl ⟨by rfl, ?_⟩
          (intro w hSw; (try dsimp only at hSw); go_simp; try with_reducible rfl)
        (try simp only [Act.put, List.setIfInBounds_toArray, List.set_cons_zero, List.set_cons_succ])
        refine wpAnyH_take (i := 16) (oi := ?_) (v := ?_) ?_ ?_ ?_ ?_ ?_ ?_ (by exact hHeld) ?_
        rotate_left 2
        · (simp only [List.getElem?_toArray, List.getElem?_cons_zero, List.getElem?_cons_succ]; try rfl)
        · kernel_rfl
        · kernel_rfl
        · kernel_rfl
        · exact fun _ _ _ h => h
        · refine Or.inl ⟨by rfl, ?_⟩
          (intro w hSw; (try dsimp only at hSw); go_simp; try with_reducible rfl)
        (try simp only [Act.put, List.setIfInBounds_toArray, List.set_cons_zero, List.set_cons_succ])
        refine wpAnyH_take (i := 17) (oi := ?_) (v := ?_) ?_ ?_ ?_ ?_ ?_ ?_ (by exact hHeld) ?_
        rotate_left 2
        · (simp only [List.getElem?_toArray, List.getElem?_cons_zero, List.getElem?_cons_succ]; try rfl)
        · kernel_rfl
        · kernel_rfl
        · kernel_rfl
        · exact fun _ _ _ h => h
        · refine Or.inl ⟨by rfl, ?_⟩
          (intro w hSw; (try dsimp only at hSw); go_simp; try with_reducible rfl)
        (try simp only [Act.put, List.setIfInBounds_toArray, List.set_cons_zero, List.set_cons_succ])
        refine wpAnyH_done (by kernel_rfl) ?_ _
        clear hw0 hw1 hw2 hw3 hw4 hw5 hHeld
        go_wp2
        go_ret
        exact ⟨by simp, below_then (b := w10) hbfin hb13⟩

end Go.Proofs.YtpgeanombiociaaDoor.fnRuneBack
