/-
  FnLines, its walk. Own work.
-/
import Derived.Test.YtfgbipomdfceeaaDoorLaw
import Derived.Test.YtfgbipomdfceeaaDoorCur9b
import Derived.Test.YtfgbipomdfceeaaDoorR06
import Derived.Test.YtfgbipomdfceeaaDoorP05b
import Derived.Deep.RegionHeld3
namespace Go.Proofs.YtfgbipomdfceeaaDoor.fnLines
open Go.ChangeShapes Go.WideShapes Go.ChangeAt Go.RowKit P
set_option linter.unusedVariables false
set_option maxRecDepth 100000

set_option maxHeartbeats 4000000 in
theorem walk (A : Option Addr) (l : List UInt8) (c : Nat) (hc : l.length ≤ c) (hm : c ≤ maxLen) (w : World) (hB : Bs w A l) (hT : Tab w) (hM : ∃ m : Int, w.cell? ⟨0, 0, none⟩ = some (.int .i64 m)) :
    Calls Tryd.prog 6 #[.slice A l.length c] w fun e w' => e = .returned (.bool true) ∧ Below w.heap.size w w' := by
  obtain ⟨mx, hM⟩ := hM
  have hMz := World.block_lt_of_cell? w _ hM
  simp only at hMz
  have HM := Lib.hid hM
  by_cases hbig : 1048576 < l.length
  · have hb : decide (1048576 < l.length) = true := decide_eq_true hbig
    have HBG := Lib.hid hb
    clear hb hbig hM
    go_enter Tryd.func6, Tryd.ntmps6
    go_wp2_with (go_at_call 10; refine (big_any _ _ _ _).mono ?_; rintro e w' ⟨rfl, rfl⟩; rw [HBG.out])
    go_ret
    exact ⟨rfl, Below.refl _ _⟩
  have hl : l.length ≤ 1048576 := by omega
  have hb : decide (1048576 < l.length) = false := decide_eq_false hbig
  have HBG := Lib.hid hb
  clear hb hbig hc hm hM
  go_enter Tryd.func6, Tryd.ntmps6
  go_wp2_with fail
  refine (big_any _ _ _ _).mono ?_
  rintro e w0 ⟨rfl, rfl⟩
  rw [HBG.out]
  go_wp2_with fail
  refine (drawRopeLine_any A l c _ hl (by exact hB)).mono ?_
  rintro e w1 ⟨A1, c1, L, a, rfl, hLc, hcm, hC1, hL4, hLe, ha, hb1⟩
  have hal := (Below.refl w1.heap.size w1).alloc (Nat.le_refl _) (.cells #[.slice A1 L.length c1] 26)
  have bV := Blk.new w1 #[.slice A1 L.length c1] 26
  have hC2 := hC1.below hal
  have hb2 := below_then hb1 hal
  have kV := bV.cell 0
  have hL9 : L.length ≤ 1048576 := by omega
  have hn9 : L.length ≤ 9223372036854775807 := by omega
  clear HBG hC1 hb1 hal hcm
  obtain ⟨⟨line, col⟩, hlc⟩ : ∃ q, ropeLine L a = q := ⟨_, rfl⟩
  have HLC := Lib.hid hlc
  clear hlc
  go_wp2_with fail
  generalize w1.alloc (.cells #[.slice A1 L.length c1] 26) = W2 at *
  refine (implRopeLine_any A1 L c1 a _ hL9 (by exact hT.below hb2) (by exact hC2)).mono ?_
  rintro e w3 ⟨rfl, hb3⟩
  rw [HLC.out]
  simp only
  have bV3 := bV.below hb3
  have hC3 := hC2.below hb3
  have hb3 := below_then hb2 hb3
  have kV3 : w3.cell? ⟨w1.heap.size, 0, none⟩ = some (.slice A1 L.length c1) := bV3.cell 0
  clear bV hC2 hb2 kV
  go_wp2_with fail
  refine (specRopeLine_any A1 L c1 a _ hn9 (by exact hC3)).mono ?_
  rintro e w4 ⟨rfl, hb4⟩
  rw [HLC.out]
  simp only
  have bV4 := bV3.below hb4
  have hC4 := hC3.below hb4
  have hb4 := below_then hb3 hb4
  have kV4 : w4.cell? ⟨w1.heap.size, 0, none⟩ = some (.slice A1 L.length c1) := bV4.cell 0
  have hne1 : (line != line) = false := by simp
  have hne2 : (col != col) = false := by simp
  clear bV3 hC3 hb3 kV3
  by_cases hneg : line < 0
  · have heq1 : (line == line) = true := by simp
    have heq2 : (col == col) = true := by simp
    go_wp2
    go_ret
    exact ⟨rfl, hb4⟩
  obtain ⟨hok, hle, hend, hat, hup, hnext⟩ := lines_facts HLC.out (by omega)
  have hcol := ropeLine_col HLC.out
  have htx := chunksText_ok hok
  have htxt := chunksOk_text hok
  have hmb : mB (chunksText L) = (L.flatten.length : Int) := by unfold mB; rw [htx, if_pos htxt]
  have hml : mL (chunksText L) = (lines L.flatten : Int) := by unfold mL; rw [htx, if_pos htxt]
  obtain ⟨n, hn⟩ : ∃ n : Int, (L.flatten.length : Int) = n := ⟨_, rfl⟩
  obtain ⟨z, hz⟩ : ∃ z : Int, (lines L.flatten : Int) = z := ⟨_, rfl⟩
  obtain ⟨y, hy⟩ : ∃ y : Int, mR (chunksText L) = y := ⟨_, rfl⟩
  obtain ⟨q, hq⟩ : ∃ q : Int, (ropeLine L (L.flatten.length : Int)).2 = q := ⟨_, rfl⟩
  rw [hq, hz, hn] at hend
  rw [hn] at hmb
  rw [hz] at hml hle hnext
  have htot := chunksOk_tot hok
  have hzb : z ≤ 400 := by
    have h1 := lines_le L.flatten
    unfold tot at htot
    omega
  have HMB := Lib.hid hmb
  have HML := Lib.hid hml
  have HMR := Lib.hid hy
  have HEND := Lib.hid hend
  have HAT := Lib.hid hat
  have HUP := Lib.hid hup
  have HNX := Lib.hid hnext
  have hneg' : 0 ≤ line := by omega
  clear hok htx htxt hmb hml hn hz hy hq hend hat hup hnext htot HLC hneg
  -- the measure
  go_wp2_with fail
  refine (implRopeMeas_any A1 L c1 _ hL9 (by exact hT.below hb4) (by exact hC4)).mono ?_
  rintro e w5 ⟨rfl, hb5⟩
  rw [HMB.out, HML.out, HMR.out]
  unfold meas
  have hal := (Below.refl w5.heap.size w5).alloc (Nat.le_refl _) (.cells #[.int .i64 n, .int .i64 y, .int .i64 z] 35)
  have bM := Blk.new w5 #[.int .i64 n, .int .i64 y, .int .i64 z] 35
  have bV5 := (bV4.below hb5).below hal
  have hC5 := (hC4.below hb5).below hal
  have hb5 := below_then (below_then hb4 hb5) hal
  have kV5 : (w5.alloc (.cells #[.int .i64 n, .int .i64 y, .int .i64 z] 35)).cell? ⟨w1.heap.size, 0, none⟩ = some (.slice A1 L.length c1) := bV5.cell 0
  have m0 := bM.cell 0
  have m2 := bM.cell 2
  clear bV4 hC4 hb4 kV4 hal HMB HML HMR
  go_wp2_with fail
  generalize w5.alloc (.cells #[.int .i64 n, .int .i64 y, .int .i64 z] 35) = W5 at *
  refine (implRopeLine_any A1 L c1 n _ hL9 (by exact hT.below hb5) (by exact hC5)).mono ?_
  rintro e w6 ⟨rfl, hb6⟩
  rw [HEND.out]
  simp only
  have bV6 := bV5.below hb6
  have bM6 := bM.below hb6
  have hC6 := hC5.below hb6
  have hb6 := below_then hb5 hb6
  have kV6 : w6.cell? ⟨w1.heap.size, 0, none⟩ = some (.slice A1 L.length c1) := bV6.cell 0
  clear bV5 bM hC5 hb5 kV5 m0 m2 HEND
  go_wp2_with fail
  refine (implRopePlace_any A1 L c1 line 0 mx _ (by exact (hb6.cell (p := ⟨_, 0, none⟩) hMz).trans HM.out) (Nat.lt_of_lt_of_le hMz hb6.size) hL9 (by omega) (by exact hT.below hb6) (by exact hC6)).mono ?_
  rintro e w7 ⟨up, rfl, hpl, hb7⟩
  have hupb := HUP.out _ hpl
  have bV7 := bV6.below hb7
  have bM7 := bM6.below hb7
  have hC7 := hC6.below hb7
  have hb7 := below_then hb6 hb7
  have kV7 : w7.cell? ⟨w1.heap.size, 0, none⟩ = some (.slice A1 L.length c1) := bV7.cell 0
  clear bV6 bM6 hC6 hb6 kV6 HUP hpl
  go_wp2_with fail
  refine (implRopePlace_any A1 L c1 line col mx _ (by exact (hb7.cell (p := ⟨_, 0, none⟩) hMz).trans HM.out) (Nat.lt_of_lt_of_le hMz hb7.size) hL9 (by omega) (by exact hT.below hb7) (by exact hC7)).mono ?_
  rintro e w8 ⟨at8, rfl, hpl, hb8⟩
  obtain rfl : at8 = a := HAT.out _ hpl
  have bV8 := bV7.below hb8
  have bM8 := bM7.below hb8
  have hC8 := hC7.below hb8
  have hb8 := below_then hb7 hb8
  have kV8 : w8.cell? ⟨w1.heap.size, 0, none⟩ = some (.slice A1 L.length c1) := bV8.cell 0
  have m2 : w8.cell? ⟨w5.heap.size, 2, none⟩ = some (.int .i64 z) := bM8.cell 2
  have heq1 : (at8 == at8) = true := by simp
  have heq2 : (z == z) = true := by simp
  obtain ⟨hup0, hup1⟩ := hupb
  clear bV7 bM7 hC7 hb7 kV7 HAT hpl
  by_cases hlz : line = z
  · have heq3 : (line == z) = true := by simp [hlz]
    have hle' : line ≤ z := by omega
    clear hlz
    go_wp2
    go_ret
    exact ⟨rfl, hb8⟩
  · have heq3 : (line == z) = false := by simp [hlz]
    have hlt : line < z := by omega
    have HNX2 := Lib.hid (HNX.out hlt)
    clear hlz HNX
    go_wp2_with fail
    refine (implRopePlace_any A1 L c1 (line + 1) 0 mx _ (by exact (hb8.cell (p := ⟨_, 0, none⟩) hMz).trans HM.out) (Nat.lt_of_lt_of_le hMz hb8.size) hL9 (by omega) (by exact hT.below hb8) (by exact hC8)).mono ?_
    rintro e w9 ⟨nx, rfl, hpl, hb9⟩
    have hnx := HNX2.out _ hpl
    have hb9 := below_then hb8 hb9
    clear hpl HNX2
    go_wp2
    go_ret
    exact ⟨rfl, hb9⟩

end Go.Proofs.YtfgbipomdfceeaaDoor.fnLines
