/-
  FnRopeFind, its walk. Own work.
-/
import Derived.Test.YtfgbipomdfceeaaDoorLaw
import Derived.Test.YtfgbipomdfceeaaDoorCur9b
import Derived.Test.YtfgbipomdfceeaaDoorR04c
import Derived.Test.YtfgbipomdfceeaaDoorP04b
import Derived.Deep.RegionHeld3
namespace Go.Proofs.YtfgbipomdfceeaaDoor.fnRopeFind
open Go.ChangeShapes Go.WideShapes Go.ChangeAt Go.RowKit P
set_option linter.unusedVariables false
set_option maxRecDepth 100000

set_option maxHeartbeats 4000000 in
theorem walk (A : Option Addr) (l : List UInt8) (c : Nat) (hc : l.length ≤ c) (hm : c ≤ maxLen) (w : World) (hB : Bs w A l) (hT : Tab w) (hM : ∃ m : Int, w.cell? ⟨0, 0, none⟩ = some (.int .i64 m)) :
    Calls Tryd.prog 5 #[.slice A l.length c] w fun e w' => e = .returned (.bool true) ∧ Below w.heap.size w w' := by
  obtain ⟨mx, hM⟩ := hM
  have hMz := World.block_lt_of_cell? w _ hM
  simp only at hMz
  have HM := Lib.hid hM
  by_cases hbig : 1048576 < l.length
  · have hb : decide (1048576 < l.length) = true := decide_eq_true hbig
    have HBG := Lib.hid hb
    clear hb hbig hM
    go_enter Tryd.func5, Tryd.ntmps5
    go_wp2_with (go_at_call 10; refine (big_any _ _ _ _).mono ?_; rintro e w' ⟨rfl, rfl⟩; rw [HBG.out])
    go_ret
    exact ⟨rfl, Below.refl _ _⟩
  have hl : l.length ≤ 1048576 := by omega
  have hb : decide (1048576 < l.length) = false := decide_eq_false hbig
  have HBG := Lib.hid hb
  clear hb hbig hc hm hM
  go_enter Tryd.func5, Tryd.ntmps5
  go_wp2_with fail
  refine (big_any _ _ _ _).mono ?_
  rintro e w0 ⟨rfl, rfl⟩
  rw [HBG.out]
  go_wp2_with fail
  refine (drawRopeFind_any A l c _ hl (by exact hB)).mono ?_
  rintro e w1 ⟨A1, c1, L, B1, p, d1, a, rfl, hLc, hcm, hC1, hL4, hLe, hpd, hdm, hB1, hp4, ha, hb1⟩
  have hal := (Below.refl w1.heap.size w1).alloc (Nat.le_refl _) (.cells #[.slice A1 L.length c1] 26)
  have bV := Blk.new w1 #[.slice A1 L.length c1] 26
  have hC2 := hC1.below hal
  have hB2 := hB1.below hal
  have hb2 := below_then hb1 hal
  have hd9 : d1 ≤ 9223372036854775807 := by unfold maxLen at hdm; omega
  have kV := bV.cell 0
  have hL9 : L.length ≤ 1048576 := by omega
  have hn9 : L.length ≤ 9223372036854775807 := by omega
  have hp9 : p.length ≤ 1100000 := by omega
  clear HBG hC1 hB1 hb1 hal hcm hdm
  go_wp2_with fail
  generalize w1.alloc (.cells #[.slice A1 L.length c1] 26) = W2 at *
  refine (implRopeFind_any A1 B1 L c1 p d1 a mx _ (by exact (hb2.cell (p := ⟨_, 0, none⟩) hMz).trans HM.out) (Nat.lt_of_lt_of_le hMz hb2.size) hL9 hpd hd9 hp9 (by exact hT.below hb2) (by exact hC2) (by exact hB2)).mono ?_
  rintro e w3 ⟨r, rfl, hr, hb3⟩
  have bV3 := bV.below hb3
  have hC3 := hC2.below hb3
  have hB3 := hB2.below hb3
  have hb3 := below_then hb2 hb3
  have kV3 : w3.cell? ⟨w1.heap.size, 0, none⟩ = some (.slice A1 L.length c1) := bV3.cell 0
  have HR := Lib.hid hr
  clear bV hC2 hB2 hb2 kV hr
  go_wp2_with fail
  refine (specRopeFind_any A1 B1 L c1 p d1 a _ hn9 hpd hd9 hp9 (by exact hC3) (by exact hB3)).mono ?_
  rintro e w4 ⟨r', rfl, hr', hb4⟩
  obtain rfl : r' = r := hr'.unique HR.out
  have bV4 := bV3.below hb4
  have hC4 := hC3.below hb4
  have hB4 := hB3.below hb4
  have hb4 := below_then hb3 hb4
  have kV4 : w4.cell? ⟨w1.heap.size, 0, none⟩ = some (.slice A1 L.length c1) := bV4.cell 0
  have hne : (r' != r') = false := by simp
  clear bV3 hC3 hB3 hb3 kV3 hr'
  by_cases hneg : r' < 0
  · go_wp2_with fail
    refine (specRopeFind_any A1 B1 L c1 p d1 a _ hn9 hpd hd9 hp9 (by exact hC4) (by exact hB4)).mono ?_
    rintro e w5 ⟨r2, rfl, hr2, hb5⟩
    obtain rfl : r2 = r' := hr2.unique HR.out
    have hb5 := below_then hb4 hb5
    have heq : (r2 == r2) = true := by simp
    clear hr2
    go_wp2
    go_ret
    exact ⟨rfl, hb5⟩
  obtain ⟨i, rfl, hai, hci, hcj, hok, hpt, hil, hp0, hback, hlast, hagain⟩ := finds_hit HR.out (by omega)
  have htot := chunksOk_tot hok
  unfold tot at htot
  have hsok : sliceOk L (i : Int) ((i : Int) + (p.length : Int)) = true := (sliceOk_iff _ _ _).2 ⟨by omega, hci, hcj⟩
  have hsv : sliceV L (i : Int) ((i : Int) + (p.length : Int)) = p := by
    unfold sliceV
    rw [if_pos hsok, show ((i : Int)).toNat = i by omega, show ((i : Int) + (p.length : Int) - (i : Int)).toNat = p.length by omega]
    exact hpt
  have HSO := Lib.hid hsok
  have HSV := Lib.hid hsv
  have HBK := Lib.hid hback
  have HLA := Lib.hid hlast
  have HAG := Lib.hid hagain
  have HTX := Lib.hid (chunksText_ok hok)
  have hi9 : (i : Int) ≤ 400 := by omega
  clear hneg hci hcj hok hpt hsok hsv hback hlast hagain HR
  go_wp2_with fail
  refine (implRopeSlice_any A1 L c1 i ((i : Int) + (p.length : Int)) _ hL9 (by exact hT.below hb4) (by exact hC4)).mono ?_
  rintro e w5 ⟨v5, rfl, hown5, hb5⟩
  rw [HSV.out] at hown5
  rw [HSO.out]
  have bV5 := bV4.below hb5
  have hC5 := hC4.below hb5
  have hB5 := hB4.below hb5
  have hb5 := below_then hb4 hb5
  have kV5 : w5.cell? ⟨w1.heap.size, 0, none⟩ = some (.slice A1 L.length c1) := bV5.cell 0
  obtain ⟨D5, d5, rfl, _, _, hX5⟩ := hown5.form
  clear bV4 hC4 hB4 hb4 kV4 hown5 HSV HSO
  go_wp2_with fail
  refine (implRopeFindBack_any A1 B1 L c1 p d1 i _ hL9 hpd hd9 hp9 (by exact hT.below hb5) (by exact hC5) (by exact hB5)).mono ?_
  rintro e w6 ⟨s6, rfl, hs6, hb6⟩
  obtain rfl : s6 = (i : Int) := HBK.out _ hs6
  have bV6 := bV5.below hb6
  have hC6 := hC5.below hb6
  have hB6 := hB5.below hb6
  have hX6 := hX5.below hb6
  have hb6 := below_then hb5 hb6
  have kV6 : w6.cell? ⟨w1.heap.size, 0, none⟩ = some (.slice A1 L.length c1) := bV6.cell 0
  have hvl := bV6.lt
  have BV6 := Lib.hid bV6
  have HB6 := Lib.hid hb6
  clear bV5 hC5 hB5 hb5 kV5 hs6 HBK hX5 hb6
  go_wp2_with fail
  go_region_held3 (fun V => V.cell? ⟨w1.heap.size, 0, none⟩ = some (.slice A1 L.length c1)) (first | exact kV6 | exact kV7 | exact kV8) (first
    | (go_at_call 14; refine (specRopeText_any A1 L c1 _ hn9 (by exact hC6)).mono ?_; rintro e w7 ⟨v7, rfl, hown7, hb7⟩; rw [HTX.out] at hown7; obtain ⟨D7, d7, rfl, _, _, _⟩ := hown7.form; have hb7 : Below w6.heap.size w6 w7 := ⟨hb7.os, hb7.tape, hb7.output, hb7.size, hb7.block⟩; have bV7 := BV6.out.below hb7; have kV7 : w7.cell? ⟨w1.heap.size, 0, none⟩ = some (.slice A1 L.length c1) := bV7.cell 0; have hC7 := hC6.below hb7; have hB7 := hB6.below hb7; have hX7 := hX6.below hb7; have HB7 := Lib.hid (below_then HB6.out hb7); have BV7 := Lib.hid bV7; clear bV7 hb7 hown7)
    | (go_at_call 29; refine (implRopeFindBack_any A1 B1 L c1 p d1 _ _ hL9 hpd hd9 hp9 (by exact hT.below HB7.out) (by exact hC7) (by exact hB7)).mono ?_; rintro e w8 ⟨s8, rfl, hs8, hb8⟩; have hge : (i : Int) ≤ s8 := HLA.out _ (by rw [List.length_flatten]; exact hs8); have hb8 : Below w7.heap.size w7 w8 := ⟨hb8.os, hb8.tape, hb8.output, hb8.size, hb8.block⟩; have bV8 := BV7.out.below hb8; have kV8 : w8.cell? ⟨w1.heap.size, 0, none⟩ = some (.slice A1 L.length c1) := bV8.cell 0; have hC8 := hC7.below hb8; have hB8 := hB7.below hb8; have hX8 := hX7.below hb8; have HB8 := Lib.hid (below_then HB7.out hb8); have BV8 := Lib.hid bV8; clear bV8 hb8 hs8))
  have hcv1 : (convert 22 9 (.slice D5 p.length d5)).run Tryd.prog w8 = .ok (.string ⟨p.toArray⟩) w8 := run_conv_bs d5 p.length rfl hX8
  have hcv2 : (convert 22 9 (.slice B1 p.length d1)).run Tryd.prog w8 = .ok (.string ⟨p.toArray⟩) w8 := run_conv_bs d1 p.length rfl hB8
  have heq : ((i : Int) == (i : Int)) = true := by simp
  have hT8 := hT.below HB8.out
  have hMc := (HB8.out.cell (p := ⟨_, 0, none⟩) hMz).trans HM.out
  have hMz8 := Nat.lt_of_lt_of_le hMz HB8.out.size
  have HMC := Lib.hid hMc
  clear hMc HLA HTX hC6 hC7 hB6 hB7 hX6 hX7 kV6 kV7
  go_wp2_with fail
  refine (implRopeFind_any A1 B1 L c1 p d1 i mx _ (by exact HMC.out) hMz8 hL9 hpd hd9 hp9 (by exact hT8) (by exact hC8) (by exact hB8)).mono ?_
  rintro e w9 ⟨s9, rfl, hs9, hb9⟩
  obtain rfl : s9 = (i : Int) := HAG.out _ hs9
  have hb9 := below_then HB8.out hb9
  clear hs9 HAG HMC
  go_wp2
  go_ret
  exact ⟨rfl, hb9⟩

end Go.Proofs.YtfgbipomdfceeaaDoor.fnRopeFind
