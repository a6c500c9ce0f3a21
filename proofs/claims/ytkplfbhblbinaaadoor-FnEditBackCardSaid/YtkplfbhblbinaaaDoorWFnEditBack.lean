/-
  FnEditBack, its walk. Own work.
-/
import Derived.Test.YtkplfbhblbinaaaDoorLaw
import Derived.Test.YtkplfbhblbinaaaDoorC05
import Derived.Test.YtkplfbhblbinaaaDoorI08
import Derived.Test.YtkplfbhblbinaaaDoorCur10
import Derived.Deep.RegionHeld3
namespace Go.Proofs.YtkplfbhblbinaaaDoor.fnEditBack
open Go.ChangeShapes Go.WideShapes Go.ChangeAt Go.RowKit P
set_option linter.unusedVariables false
set_option maxRecDepth 100000

set_option maxHeartbeats 8000000 in
theorem walk (A : Option Addr) (l : List UInt8) (c : Nat) (hc : l.length ≤ c) (hm : c ≤ maxLen) (w : World) (hB : Bs w A l) (hT : Tab w) :
    Calls Tryd.prog 3 #[.slice A l.length c] w fun e w' => e = .returned (.bool true) ∧ Below w.heap.size w w' := by
  by_cases hbig : 1048576 < l.length
  · have hb : decide (1048576 < l.length) = true := decide_eq_true hbig
    have HBG := Lib.hid hb
    clear hb hbig
    go_enter Tryd.func3, Tryd.ntmps3
    go_wp2_with (go_at_call 12; refine (big_any _ _ _ _).mono ?_; rintro e w' ⟨rfl, rfl⟩; rw [HBG.out])
    go_ret
    exact ⟨rfl, Below.refl _ _⟩
  have hl : l.length ≤ 1048576 := by omega
  have hb : decide (1048576 < l.length) = false := decide_eq_false hbig
  have HBG := Lib.hid hb
  clear hb hbig hc hm
  go_enter Tryd.func3, Tryd.ntmps3
  go_wp2_with fail
  refine (big_any _ _ _ _).mono ?_
  rintro e w0 ⟨rfl, rfl⟩
  rw [HBG.out]
  go_wp2_with fail
  refine (drawEditBack_any A l c _ hl (by exact hB)).mono ?_
  rintro e w1 ⟨A1, t, c1, a, m, B1, p, d1, rfl, ht4, hc1, hc19, hP1, hX1, ha, hm, hp5, hd1, hd19, hQ1, hY1, hb1⟩
  have ht9 : t.length ≤ 1000000 := by omega
  -- the edit, undone, done again
  obtain ⟨z, hz⟩ : ∃ z, edOk t a m p = z := ⟨_, rfl⟩
  obtain ⟨ra, hra⟩ : ∃ z, backA t a m p = z := ⟨_, rfl⟩
  obtain ⟨rm, hrm⟩ : ∃ z, backM t a m p = z := ⟨_, rfl⟩
  obtain ⟨R, hR⟩ : ∃ z, backP t a m p = z := ⟨_, rfl⟩
  have hRl : R.length ≤ 400 := by rw [← hR]; exact backP_len t a m p
  have hrmb : rm ≤ 9223372036854775807 := by rw [← hrm]; unfold backM; split <;> omega
  have HZ := Lib.hid hz
  have HRA := Lib.hid hra
  have HRM := Lib.hid hrm
  have HR := Lib.hid hR
  have hzz : (z != z) = false := by simp
  have hal := (Below.refl w1.heap.size w1).alloc (Nat.le_refl _) (.cells #[.int .i64 a, .int .i64 m, .slice B1 p.length d1] 25)
  have bE := EBox.new w1 a m B1 p.length d1
  have hX1 := hX1.below hal
  have hY1 := hY1.below hal
  have hb1 := below_then hb1 hal
  have k0 := bE.c0
  have k1 := bE.c1
  have k2 := bE.c2
  clear hz hra hrm hR hal HBG
  go_wp2_with fail
  generalize w1.alloc (.cells #[.int .i64 a, .int .i64 m, .slice B1 p.length d1] 25) = W1 at *
  refine (specEditBack_any A1 t c1 a m B1 p d1 _ hc1 hc19 hd1 hd19 hP1 (by exact hX1) (by exact hY1)).mono ?_
  rintro e w2 ⟨v2, rfl, hown2, hb2⟩
  rw [HZ.out, HRA.out, HRM.out]
  rw [HR.out] at hown2
  obtain ⟨A2, c2, rfl, hc2, hc29, hB2, _, _⟩ := own_plain9 hown2
  have hal := (Below.refl w2.heap.size w2).alloc (Nat.le_refl _) (.cells #[.int .i64 ra, .int .i64 rm, .slice A2 R.length c2] 25)
  have bW := EBox.new w2 ra rm A2 R.length c2
  have hb3 := below_then hb2 hal
  have bE := bE.below hb3
  have hX1 := hX1.below hb3
  have hY1 := hY1.below hb3
  have hB2 := hB2.below hal
  have hb1 := below_then hb1 hb3
  clear k0 k1 k2 hal hb2 hb3 hown2
  have k0 := bE.c0
  have k1 := bE.c1
  have k2 := bE.c2
  go_wp2_with fail
  generalize w2.alloc (.cells #[.int .i64 ra, .int .i64 rm, .slice A2 R.length c2] 25) = W2 at *
  refine (implEditBack_any A1 t c1 a m B1 p d1 _ hc1 hc19 hd1 hd19 hm.2 hP1 (by exact hT.below hb1) (by exact hX1) (by exact hY1)).mono ?_
  rintro e w3 ⟨v3, rfl, hown3, hb3⟩
  rw [HZ.out, HRA.out, HRM.out]
  rw [HR.out] at hown3
  obtain ⟨A3, c3, rfl, hc3, hc39, hB3, hP3, hQ3⟩ := own_plain9 hown3
  have hal := (Below.refl w3.heap.size w3).alloc (Nat.le_refl _) (.cells #[.int .i64 ra, .int .i64 rm, .slice A3 R.length c3] 25)
  have bK := EBox.new w3 ra rm A3 R.length c3
  have hb4 := below_then hb3 hal
  have bE := bE.below hb4
  have bW := bW.below hb4
  have hX1 := hX1.below hb4
  have hY1 := hY1.below hb4
  have hB2 := hB2.below hb4
  have hB3 := hB3.below hal
  have hb1 := below_then hb1 hb4
  clear k0 k1 k2 hal hb3 hb4 hown3
  have k0 := bE.c0
  have k1 := bE.c1
  have k2 := bE.c2
  have u0 := bW.c0
  have u1 := bW.c1
  have u2 := bW.c2
  have v0 := bK.c0
  have v1 := bK.c1
  have v2 := bK.c2
  go_wp2_with fail
  generalize w3.alloc (.cells #[.int .i64 ra, .int .i64 rm, .slice A3 R.length c3] 25) = W3 at *
  refine (sameEdit_any ra rm A3 A2 R c3 c2 _ (by exact hB3) (by exact hB2)).mono ?_
  rintro e w4 ⟨rfl, hb4⟩
  have bE := bE.below hb4
  have bK := bK.below hb4
  have hX1 := hX1.below hb4
  have hY1 := hY1.below hb4
  have hB3 := hB3.below hb4
  have hb1 := below_then hb1 hb4
  clear k0 k1 k2 u0 u1 u2 v0 v1 v2 hb4 hB2 bW
  have k0 := bE.c0
  have k1 := bE.c1
  have k2 := bE.c2
  cases z
  · go_wp2_with fail
    refine (implEditOk_any A1 t c1 a m B1 p d1 _ hc1 hc19 hd1 hd19 hm.2 (by exact hT.below hb1) (by exact hX1) (by exact hY1)).mono ?_
    rintro e w5 ⟨rfl, hb5⟩
    rw [HZ.out]
    have hb1 := below_then hb1 hb5
    go_wp2
    go_ret
    exact ⟨rfl, hb1⟩
  have hok := HZ.out
  have er : ra = a := by rw [← HRA.out]; unfold backA; rw [hok]; rfl
  have em : rm = (p.length : Int) := by rw [← HRM.out]; unfold backM; rw [hok]; rfl
  have eR : R = edCut t a m := by rw [← HR.out]; unfold backP; rw [hok]; rfl
  have hrng := edOk_range hok
  obtain ⟨U, hU⟩ : ∃ U, edText t a m p = U := ⟨_, rfl⟩
  have eD : edDo t a m p = U := by rw [← hU]; unfold edDo; rw [hok]; rfl
  have bo := back_ok hok
  have bt := back_text hok
  have hcl := edCut_len hok
  have hU4 : isText U = true := by rw [← hU]; exact edText_ok hok
  rw [hU] at bo bt
  have G1 : edOk U ra rm R = true := by rw [er, em, eR]; exact bo
  have G2 : edDo U ra rm R = t := by unfold edDo; rw [G1, if_pos rfl, er, em, eR]; exact bt.1
  have G3 : backA U ra rm R = a := by unfold backA; rw [G1, if_pos rfl, er]
  have G4 : backM U ra rm R = m := by unfold backM; rw [G1, if_pos rfl, eR]; omega
  have G5 : backP U ra rm R = p := by unfold backP; rw [G1, if_pos rfl, er, em]; exact bt.2
  have hUl := isText_len hU4
  have H1 := Lib.hid G1
  have H2 := Lib.hid G2
  have H3 := Lib.hid G3
  have H4 := Lib.hid G4
  have H5 := Lib.hid G5
  have HU := Lib.hid hU4
  have HD := Lib.hid eD
  have HOK := Lib.hid hok
  have hrmb2 : rm ≤ 9223372036854775807 := hrmb
  have hR9 : R.length ≤ 9223372036854775807 := by omega
  clear G1 G2 G3 G4 G5 hU4 eD hok er em eR bo bt hcl hU
  have e0 := bE.blk.lt
  have HE := Lib.hid bE.blk
  -- the edit done
  go_wp2_with fail
  go_region_held3 (fun V => V.cell? ⟨w1.heap.size, 0, none⟩ = some (.int .i64 a) ∧ V.cell? ⟨w1.heap.size, 1, none⟩ = some (.int .i64 m) ∧ V.cell? ⟨w1.heap.size, 2, none⟩ = some (.slice B1 p.length d1))
    (first | exact ⟨k0, k1, k2⟩ | exact ⟨HE5.out.cell 0, HE5.out.cell 1, HE5.out.cell 2⟩ | exact ⟨HE6.out.cell 0, HE6.out.cell 1, HE6.out.cell 2⟩) (first
    | (go_at_call 19; refine (bytesOf_any A1 t t.length c1 _ rfl ht9 (by exact hX1)).mono ?_; rintro e w5 ⟨v5, rfl, hown5, hb5⟩; have hb5 : Below w4.heap.size w4 w5 := ⟨hb5.os, hb5.tape, hb5.output, hb5.size, hb5.block⟩; obtain ⟨A5, c5, rfl, hc5, hc59, hB5, hP5, hQ5⟩ := own_plain9 hown5; have hPl5 : Pl A5 c5 := (by unfold Pl; exact ⟨hP5, hQ5⟩); have HE5 := Lib.hid (HE.out.below hb5); have HX5 := Lib.hid hB5; have HY5 := Lib.hid (hY1.below hb5); have HT5 := Lib.hid (hT.below (below_then hb1 hb5)); have HB5 := Lib.hid hb5; clear hown5 hb5 hB5 hP5 hQ5)
    | (go_at_call 18; refine (implEditDo_any A5 t c5 a m B1 p d1 _ hc5 hc59 hd1 hd19 hm.2 hPl5 (by exact HT5.out) (by exact HX5.out) (by exact HY5.out)).mono ?_; rintro e w6 ⟨v6, rfl, hown6, hb6⟩; have hb6 : Below w5.heap.size w5 w6 := ⟨hb6.os, hb6.tape, hb6.output, hb6.size, hb6.block⟩; rw [HOK.out]; rw [HD.out] at hown6; obtain ⟨A6, c6, rfl, hc6, hc69, hB6, hP6, hQ6⟩ := own_plain9 hown6; have HE6 := Lib.hid (HE5.out.below hb6); have HU6 := Lib.hid hB6; have HB6 := Lib.hid (below_then HB5.out hb6); clear hown6 hb6 hB6))
  have hPl6 : Pl A6 c6 := by unfold Pl; exact ⟨hP6, hQ6⟩
  have hPl3 : Pl A3 c3 := by unfold Pl; exact ⟨hP3, hQ3⟩
  have hb6 := HB6.out
  have bK := bK.below hb6
  have hX1 := hX1.below hb6
  have hY1 := hY1.below hb6
  have hB3 := hB3.below hb6
  have hb1 := below_then hb1 hb6
  have hU6 := HU6.out
  have bE : EBox w6 w1.heap.size a m B1 p.length d1 := ⟨HE6.out⟩
  clear HE HE5 HE6 HU6 HB5 HB6 HX5 HY5 HT5 hb6 k0 k1 k2 e0
  have v0 := bK.c0
  have v1 := bK.c1
  have v2 := bK.c2
  go_wp2_with fail
  refine (implEditDo_any A6 U c6 ra rm A3 R c3 _ hc6 hc69 hc3 hc39 hrmb2 hPl6 (by exact hT.below hb1) (by exact hU6) (by exact hB3)).mono ?_
  rintro e w7 ⟨v7, rfl, hown7, hb7⟩
  rw [H1.out]
  rw [H2.out] at hown7
  obtain ⟨A7, c7, rfl, _, _, hB7⟩ := hown7.form
  have bK := bK.below hb7
  have bE := bE.below hb7
  have hX1 := hX1.below hb7
  have hY1 := hY1.below hb7
  have hB3 := hB3.below hb7
  have hU6 := hU6.below hb7
  have hb1 := below_then hb1 hb7
  clear v0 v1 v2 hown7 hb7
  have v0 := bK.c0
  have v1 := bK.c1
  have v2 := bK.c2
  go_wp2_with fail
  refine (implEditBack_any A6 U c6 ra rm A3 R c3 _ hc6 hc69 hc3 hc39 hrmb2 hPl6 (by exact hT.below hb1) (by exact hU6) (by exact hB3)).mono ?_
  rintro e w8 ⟨v8, rfl, hown8, hb8⟩
  rw [H1.out, H3.out, H4.out]
  rw [H5.out] at hown8
  obtain ⟨A8, c8, rfl, _, _, hB8⟩ := hown8.form
  have hal := (Below.refl w8.heap.size w8).alloc (Nat.le_refl _) (.cells #[.int .i64 a, .int .i64 m, .slice A8 p.length c8] 25)
  have bG := EBox.new w8 a m A8 p.length c8
  have hb9 := below_then hb8 hal
  have bE := bE.below hb9
  have hX1 := hX1.below hb9
  have hY1 := hY1.below hb9
  have hU6 := hU6.below hb9
  have hB7 := hB7.below hb9
  have hB8 := hB8.below hal
  have hb1 := below_then hb1 hb9
  clear v0 v1 v2 hown8 hb8 hal hb9
  have k0 := bE.c0
  have k1 := bE.c1
  have k2 := bE.c2
  have q0 := bG.c0
  have q1 := bG.c1
  have q2 := bG.c2
  have hcv1 := run_conv_bs c7 t.length rfl hB7
  have hcv2 := run_conv_bs c1 t.length rfl hX1
  go_wp2_with fail
  generalize w8.alloc (.cells #[.int .i64 a, .int .i64 m, .slice A8 p.length c8] 25) = W8 at *
  refine (sameEdit_any a m A8 B1 p c8 d1 _ (by exact hB8) (by exact hY1)).mono ?_
  rintro e w9 ⟨rfl, hb9⟩
  have hU6 := hU6.below hb9
  have hb1 := below_then hb1 hb9
  clear k0 k1 k2 q0 q1 q2 hcv1 hcv2 hb9
  go_wp2_with fail
  refine (textOk_any A6 U c6 _ hc6 hc69 (by exact hT.below hb1) (by exact hU6)).mono ?_
  rintro e w10 ⟨rfl, n10, rfl⟩
  rw [HU.out]
  have hb2 := below_drewN hb1 n10
  go_wp2
  go_ret
  exact ⟨rfl, hb2⟩

end Go.Proofs.YtkplfbhblbinaaaDoor.fnEditBack
