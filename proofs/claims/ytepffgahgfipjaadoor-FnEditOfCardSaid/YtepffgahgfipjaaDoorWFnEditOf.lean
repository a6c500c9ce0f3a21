/-
  FnEditOf, its walk. Own work.
-/
import Derived.Test.YtepffgahgfipjaaDoorLaw
import Derived.Test.YtepffgahgfipjaaDoorC05
import Derived.Test.YtepffgahgfipjaaDoorI10
import Derived.Test.YtepffgahgfipjaaDoorCur11
import Derived.Deep.RegionHeld3
namespace Go.Proofs.YtepffgahgfipjaaDoor.fnEditOf
open Go.ChangeShapes Go.WideShapes Go.ChangeAt Go.RowKit P
set_option linter.unusedVariables false
set_option maxRecDepth 100000

set_option maxHeartbeats 8000000 in
theorem walk (A : Option Addr) (l : List UInt8) (c : Nat) (hc : l.length ≤ c) (hm : c ≤ maxLen) (w : World) (hB : Bs w A l) (hT : Tab w) :
    Calls Tryd.prog 4 #[.slice A l.length c] w fun e w' => e = .returned (.bool true) ∧ Below w.heap.size w w' := by
  by_cases hbig : 1048576 < l.length
  · have hb : decide (1048576 < l.length) = true := decide_eq_true hbig
    have HBG := Lib.hid hb
    clear hb hbig
    go_enter Tryd.func4, Tryd.ntmps4
    go_wp2_with (go_at_call 14; refine (big_any _ _ _ _).mono ?_; rintro e w' ⟨rfl, rfl⟩; rw [HBG.out])
    go_ret
    exact ⟨rfl, Below.refl _ _⟩
  have hl : l.length ≤ 1048576 := by omega
  have hb : decide (1048576 < l.length) = false := decide_eq_false hbig
  have HBG := Lib.hid hb
  clear hb hbig hc hm
  go_enter Tryd.func4, Tryd.ntmps4
  go_wp2_with fail
  refine (big_any _ _ _ _).mono ?_
  rintro e w0 ⟨rfl, rfl⟩
  rw [HBG.out]
  go_wp2_with fail
  refine (drawEditOf_any A l c _ hl (by exact hB)).mono ?_
  rintro e w1 ⟨A1, t, c1, B1, r, d1, rfl, ht4, hc1, hc19, hP1, hX1, hr4, hd1, hd19, hQ1, hY1, hb1⟩
  obtain ⟨z, hz⟩ : ∃ z, ofOk t r = z := ⟨_, rfl⟩
  obtain ⟨ra, hra⟩ : ∃ z, ofA t r = z := ⟨_, rfl⟩
  obtain ⟨rm, hrm⟩ : ∃ z, ofM t r = z := ⟨_, rfl⟩
  obtain ⟨R, hR⟩ : ∃ z, ofP t r = z := ⟨_, rfl⟩
  have hrmb : rm ≤ 9223372036854775807 := by rw [← hrm]; unfold ofM; split <;> omega
  have htx : z = true → edOk t ra rm R = true ∧ edText t ra rm R = r := fun h => by rw [← hra, ← hrm, ← hR]; exact of_text (hz.trans h)
  have hdf : z = true → rm ≠ 0 → R.length ≠ 0 → runeAt t ra ≠ runeAt R 0 := fun h h1 h2 => by
    rw [← hrm] at h1
    rw [← hR] at h2
    rw [← hra, ← hR]
    exact of_differ (hz.trans h) h1 h2
  have HZ := Lib.hid hz
  have HRA := Lib.hid hra
  have HRM := Lib.hid hrm
  have HR := Lib.hid hR
  have HTX := Lib.hid htx
  have HDF := Lib.hid hdf
  have hzz : (z != z) = false := by simp
  have hze : (z == z) = true := by simp
  clear hz hra hrm hR HBG htx hdf
  go_wp2_with fail
  refine (specEditOf_any A1 B1 t r c1 d1 _ hc1 hc19 hd1 hd19 hP1 hQ1 (by exact hX1) (by exact hY1)).mono ?_
  rintro e w2 ⟨v2, rfl, hown2, hb2⟩
  rw [HZ.out, HRA.out, HRM.out]
  rw [HR.out] at hown2
  obtain ⟨A2, c2, rfl, hc2, hc29, hB2, _, _⟩ := own_plain9 hown2
  have hal := (Below.refl w2.heap.size w2).alloc (Nat.le_refl _) (.cells #[.int .i64 ra, .int .i64 rm, .slice A2 R.length c2] 25)
  have bW := EBox.new w2 ra rm A2 R.length c2
  have hb3 := below_then hb2 hal
  have hX1 := hX1.below hb3
  have hY1 := hY1.below hb3
  have hB2 := hB2.below hal
  have hb1 := below_then hb1 hb3
  clear hal hb2 hb3 hown2
  go_wp2_with fail
  generalize w2.alloc (.cells #[.int .i64 ra, .int .i64 rm, .slice A2 R.length c2] 25) = W2 at *
  refine (implEditOf_any A1 B1 t r c1 d1 _ hc1 hc19 hd1 hd19 hP1 hQ1 (by exact hT.below hb1) (by exact hX1) (by exact hY1)).mono ?_
  rintro e w3 ⟨v3, rfl, hown3, hb3⟩
  rw [HZ.out, HRA.out, HRM.out]
  rw [HR.out] at hown3
  obtain ⟨A3, c3, rfl, hc3, hc39, hB3, hP3, hQ3⟩ := own_plain9 hown3
  have hal := (Below.refl w3.heap.size w3).alloc (Nat.le_refl _) (.cells #[.int .i64 ra, .int .i64 rm, .slice A3 R.length c3] 25)
  have bK := EBox.new w3 ra rm A3 R.length c3
  have hb4 := below_then hb3 hal
  have bW := bW.below hb4
  have hX1 := hX1.below hb4
  have hY1 := hY1.below hb4
  have hB2 := hB2.below hb4
  have hB3 := hB3.below hal
  have hb1 := below_then hb1 hb4
  clear hal hb3 hb4 hown3
  have u0 := bW.c0
  have u1 := bW.c1
  have u2 := bW.c2
  have v0 := bK.c0
  have v1 := bK.c1
  have v2 := bK.c2
  go_wp2_with fail
  generalize w3.alloc (.cells #[.int .i64 ra, .int .i64 rm, .slice A3 R.length c3] 25) = W3 at *
  refine (sameEdit_any ra rm A3 A2 R c3 c2 _ (by exact hB3) (by exact hB2)).mono ?_
  rintro e w4 ⟨rfl, hb4⟩
  have bK := bK.below hb4
  have bW := bW.below hb4
  have hX1 := hX1.below hb4
  have hY1 := hY1.below hb4
  have hB3 := hB3.below hb4
  have hB2 := hB2.below hb4
  have hb1 := below_then hb1 hb4
  clear u0 u1 u2 v0 v1 v2 hb4
  have u0 := bW.c0
  have u1 := bW.c1
  have u2 := bW.c2
  have v0 := bK.c0
  have v1 := bK.c1
  have v2 := bK.c2
  cases z
  · go_wp2_with fail
    refine (sameEdit_any ra rm A3 A2 R c3 c2 _ (by exact hB3) (by exact hB2)).mono ?_
    rintro e w5 ⟨rfl, hb5⟩
    have hb1 := below_then hb1 hb5
    go_wp2
    go_ret
    exact ⟨rfl, hb1⟩
  obtain ⟨g1, g2⟩ := HTX.out rfl
  have g3 : edDo t ra rm R = r := by unfold edDo; rw [g1, if_pos rfl]; exact g2
  have G1 := Lib.hid g1
  have G3 := Lib.hid g3
  have hPl3 : Pl A3 c3 := by unfold Pl; exact ⟨hP3, hQ3⟩
  clear g1 g2 g3 u0 u1 u2 HTX
  go_wp2_with fail
  refine (implEditDo_any A1 t c1 ra rm A3 R c3 _ hc1 hc19 hc3 hc39 hrmb hP1 (by exact hT.below hb1) (by exact hX1) (by exact hB3)).mono ?_
  rintro e w5 ⟨v5, rfl, hown5, hb5⟩
  rw [G1.out]
  rw [G3.out] at hown5
  obtain ⟨A5, c5, rfl, _, _, hB5⟩ := hown5.form
  have bK := bK.below hb5
  have hX1 := hX1.below hb5
  have hY1 := hY1.below hb5
  have hB3 := hB3.below hb5
  have hb1 := below_then hb1 hb5
  clear v0 v1 v2 hb5 hown5
  have v0 := bK.c0
  have v1 := bK.c1
  have v2 := bK.c2
  have hcv1 := run_conv_bs c5 r.length rfl hB5
  have hcv2 := run_conv_bs d1 r.length rfl hY1
  have hrr : (r != r) = false := by simp
  go_wp2_with fail
  refine (specRuneAt_any A1 t c1 ra _ hc1 hc19 (by exact hX1)).mono ?_
  rintro e w6 ⟨rfl, hb6⟩
  obtain ⟨x, hx⟩ : ∃ x, runeAt t ra = x := ⟨_, rfl⟩
  obtain ⟨y, hy⟩ : ∃ y, runeAt R 0 = y := ⟨_, rfl⟩
  have hxy : rm ≠ 0 → R.length ≠ 0 → (x != y) = true := fun h1 h2 => by rw [← hx, ← hy]; simpa using HDF.out (by trivial) h1 h2
  have HXY := Lib.hid hxy
  have HY := Lib.hid hy
  rw [hx]
  have bK := bK.below hb6
  have hB3 := hB3.below hb6
  have hb1 := below_then hb1 hb6
  clear hx hy hxy v0 v1 v2 hcv1 hcv2 hrr hb6
  have v0 := bK.c0
  have v1 := bK.c1
  have v2 := bK.c2
  by_cases h1 : rm = 0
  · have g1 : (rm == 0) = true := by simpa using h1
    have G := Lib.hid h1
    clear h1
    go_wp2
    go_ret
    exact ⟨rfl, hb1⟩
  have g1 : (rm == 0) = false := by simpa using h1
  by_cases h2 : R.length = 0
  · have g2 : ((R.length : Int) == 0) = true := by simp [h2]
    have G := Lib.hid h2
    clear h2
    go_wp2
    go_ret
    exact ⟨rfl, hb1⟩
  have g2 : ((R.length : Int) == 0) = false := by rw [beq_eq_false_iff_ne]; omega
  have hne := HXY.out h1 h2
  go_wp2_with fail
  refine (specRuneAt_any A3 R c3 0 _ hc3 hc39 (by exact hB3)).mono ?_
  rintro e w7 ⟨rfl, hb7⟩
  rw [HY.out]
  have hb1 := below_then hb1 hb7
  go_wp2
  go_ret
  exact ⟨rfl, hb1⟩

end Go.Proofs.YtepffgahgfipjaaDoor.fnEditOf
