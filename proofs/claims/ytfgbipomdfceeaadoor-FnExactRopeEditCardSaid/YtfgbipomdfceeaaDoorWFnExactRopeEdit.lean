/-
  FnExactRopeEdit, its walk. Own work.
-/
import Derived.Test.YtfgbipomdfceeaaDoorLaw
import Derived.Test.YtfgbipomdfceeaaDoorC04b
import Derived.Test.YtfgbipomdfceeaaDoorS07b
import Derived.Deep.RegionHeld3
namespace Go.Proofs.YtfgbipomdfceeaaDoor.fnExactRopeEdit
open Go.ChangeShapes Go.WideShapes Go.ChangeAt Go.RowKit P
set_option linter.unusedVariables false
set_option maxRecDepth 100000

theorem own_bs {w : World} {base : Nat} {B : Nat} {l : List UInt8} (h : Own w base (.slice (some ⟨B, 0, none⟩) l.length l.length) l) : Bs w (some ⟨B, 0, none⟩) l := by
  obtain ⟨A, c, e, _, _, hB⟩ := h.form
  cases e
  exact hB

set_option maxHeartbeats 8000000 in
theorem walk (A : Option Addr) (ls : List (List UInt8)) (c : Nat) (hc : ls.length ≤ c) (hm : c ≤ maxLen) (a : Int) (ha : -9223372036854775808 ≤ a ∧ a ≤ 9223372036854775807) (m : Int) (hmm : -9223372036854775808 ≤ m ∧ m ≤ 9223372036854775807) (Ap : Option Addr) (p : List UInt8) (cp : Nat) (hcp : p.length ≤ cp) (hmp : cp ≤ maxLen) (w : World) (hL : Cs w A ls) (hP : Bs w Ap p) (hT : Tab w) :
    Calls Tryd.prog 7 #[.agg #[.slice A ls.length c], .int .i64 a, .int .i64 m, .slice Ap p.length cp] w fun e w' => e = .returned (.bool true) ∧ Below w.heap.size w w' := by
  have hn9 : ls.length ≤ 9223372036854775807 := by unfold maxLen at hm; omega
  have hp9 : p.length ≤ 9223372036854775807 := by unfold maxLen at hmp; omega
  clear hc hm hmp hcp
  have hb0 := (Below.refl w.heap.size w).alloc (Nat.le_refl _) (.cells #[.slice A ls.length c] 54)
  have bA0 := Blk.new w #[.slice A ls.length c] 54
  by_cases hbig : 1048576 < (p.length : Int)
  · go_enter Tryd.func7, Tryd.ntmps7
    go_wp2
    go_ret
    exact ⟨rfl, hb0⟩
  have hp : p.length ≤ 1048576 := by omega
  obtain ⟨R, hRe⟩ : ∃ R, editV ls a m p = R := ⟨_, rfl⟩
  obtain ⟨z, hze⟩ : ∃ z, editOk ls a m p = z := ⟨_, rfl⟩
  have hRb : R.length + tot R ≤ 1000000 := by rw [← hRe]; exact editV_bd ls a m p
  have HRE := Lib.hid hRe
  have HZE := Lib.hid hze
  have hzz : (z != z) = false := by simp
  clear hRe hze hbig
  go_enter Tryd.func7, Tryd.ntmps7
  go_wp2_with fail
  generalize w.alloc (.cells #[.slice A ls.length c] 54) = W0 at *
  refine (szRope_any A ls c _ hn9 (by exact hL.below hb0)).mono ?_
  rintro e w1 ⟨⟨r, rfl, hr⟩, hb1⟩
  have BA := Lib.hid (bA0.below hb1)
  have HB := Lib.hid (below_then hb0 hb1)
  clear bA0 hb0 hb1
  by_cases hneg : r < 0
  · go_wp2
    go_ret
    exact ⟨rfl, HB.out⟩
  have hl1 : ls.length + tot ls ≤ 1048576 := by omega
  have hl2 : ls.length ≤ 1048576 := by omega
  have kA : w1.cell? ⟨w.heap.size, 0, none⟩ = some (.slice A ls.length c) := BA.out.cell 0
  have HLc := Lib.hid (hL.below HB.out)
  clear hr
  -- what the model answers
  go_wp2_with fail
  refine (toRope_any A ls c _ hl1 (by exact HLc.out)).mono ?_
  rintro e w2 ⟨v2, fp2, rfl, how2, _, _, hb2⟩
  obtain ⟨A2, c2, rfl, _, _, hD2⟩ := Lay.chunks_rd (Lay.chunks.read how2)
  have BA := Lib.hid (BA.out.below hb2)
  have HB := Lib.hid (below_then HB.out hb2)
  have HPc := Lib.hid (hP.below HB.out)
  clear how2 hb2 kA HLc
  go_wp2_with fail
  refine (toByteS_any Ap p cp _ hp (by exact HPc.out)).mono ?_
  rintro e w3 ⟨rfl, hrow3, hb3⟩
  have hD3 := hD2.below hb3
  have hB3 := hrow3.bs
  have BA := Lib.hid (BA.out.below hb3)
  have HB := Lib.hid (below_then HB.out hb3)
  clear hb3 hD2 HPc hrow3
  go_wp2_with fail
  refine (specRopeEdit_any A2 ls c2 a m _ p p.length _ hn9 (Nat.le_refl _) hp9 (by exact hD3) (by exact hB3)).mono ?_
  rintro e w4 ⟨v4, fw, rfl, how4, hnw, hfw, hb4⟩
  rw [HRE.out] at how4
  rw [HZE.out]
  obtain ⟨Aw, cw, rfl, _, _, _⟩ := Lay.chunks_rd (Lay.chunks.read how4)
  have hal := (Below.refl w4.heap.size w4).alloc (Nat.le_refl _) (.cells #[.slice Aw R.length cw] 26)
  have RW := Lib.hid (RVar.new how4)
  have HWL := Lib.hid (Lay.chunks.lt how4)
  have HWF := Lib.hid hfw
  have hzA0 : w.heap.size < w4.heap.size := by have h1 := BA.out.lt; have h2 := hb4.size; omega
  have hb4' := below_then hb4 hal
  have BA := Lib.hid (BA.out.below hb4')
  have HB := Lib.hid (below_then HB.out hb4')
  have z3 := HB.out.size
  have hz4 : w4.heap.size < (w4.alloc (.cells #[.slice Aw R.length cw] 26)).heap.size := by simp
  have HLc := Lib.hid (hL.below HB.out)
  have kA : (w4.alloc (.cells #[.slice Aw R.length cw] 26)).cell? ⟨w.heap.size, 0, none⟩ = some (.slice A ls.length c) := BA.out.cell 0
  have hzA : w.heap.size < w4.heap.size := hzA0
  clear how4 hnw hfw hb4 hb4' hal hD3 hB3
  go_wp2_with fail
  generalize w4.alloc (.cells #[.slice Aw R.length cw] 26) = W4 at *
  -- the copies of the arguments
  refine (toRope_any A ls c _ hl1 (by exact HLc.out)).mono ?_
  rintro e y6 ⟨v6, fx, rfl, how6, hnx, hfx, hb6⟩
  obtain ⟨Ax, cx, rfl, hcx, _, _⟩ := Lay.chunks_rd (Lay.chunks.read how6)
  have hal := (Below.refl y6.heap.size y6).alloc (Nat.le_refl _) (.cells #[.slice Ax ls.length cx] 26)
  have RX := Lib.hid (RVar.new how6)
  have HXL := Lib.hid (Lay.chunks.lt how6)
  have HXF := Lib.hid hfx
  have HNX := Lib.hid hnx
  have hb6' := below_then hb6 hal
  have z6 := hb6.size
  have BA := Lib.hid (BA.out.below hb6')
  have RW := Lib.hid (RW.out.below hb6')
  have HB := Lib.hid (below_then HB.out hb6')
  have hz6 : y6.heap.size < (y6.alloc (.cells #[.slice Ax ls.length cx] 26)).heap.size := by simp
  have HPc := Lib.hid (hP.below HB.out)
  clear how6 hnx hfx hb6 hb6' hal HLc kA
  go_wp2_with fail
  generalize y6.alloc (.cells #[.slice Ax ls.length cx] 26) = Y6 at *
  refine (toByteS_any Ap p cp _ hp (by exact HPc.out)).mono ?_
  rintro e y7 ⟨rfl, hrow7, hb7⟩
  have z7 : Y6.heap.size < y7.heap.size := hrow7.lt
  have PX := Lib.hid (hrow7.own Y6.heap.size (Nat.le_refl _) (by unfold maxLen; omega))
  have BA := Lib.hid (BA.out.below hb7)
  have RW := Lib.hid (RW.out.below hb7)
  have RX := Lib.hid (RX.out.below hb7)
  have HB := Lib.hid (below_then HB.out hb7)
  have HT7 := Lib.hid (hT.below HB.out)
  have kX : y7.cell? ⟨y6.heap.size, 0, none⟩ = some (.slice Ax ls.length cx) := RX.out.cell
  have HX7 := Lib.hid hrow7.bs
  clear hb7 hrow7 HPc
  -- the program's answer
  go_wp2_with fail
  refine (implRopeEdit_any Ax ls cx a m _ p p.length _ hl2 (Nat.le_refl _) hp9 (by exact HT7.out) (by exact RX.out.cs) (by exact HX7.out) ha hmm).mono ?_
  rintro e y8 ⟨v8, fg, rfl, how8, hng, hfg, hb8⟩
  rw [HRE.out] at how8
  rw [HZE.out]
  obtain ⟨Ag, cg, rfl, hcg, _, _⟩ := Lay.chunks_rd (Lay.chunks.read how8)
  have hal := (Below.refl y8.heap.size y8).alloc (Nat.le_refl _) (.cells #[.slice Ag R.length cg] 26)
  have RG := Lib.hid (RVar.new how8)
  have HGL := Lib.hid (Lay.chunks.lt how8)
  have HGF := Lib.hid hfg
  have HNG := Lib.hid hng
  have hb8' := below_then hb8 hal
  have z8 := hb8.size
  have BA := Lib.hid (BA.out.below hb8')
  have RW := Lib.hid (RW.out.below hb8')
  have RX := Lib.hid (RX.out.below hb8')
  have PX := Lib.hid (PX.out.below hb8')
  have HB := Lib.hid (below_then HB.out hb8')
  have hz8 : y8.heap.size < (y8.alloc (.cells #[.slice Ag R.length cg] 26)).heap.size := by simp
  have kG : (y8.alloc (.cells #[.slice Ag R.length cg] 26)).cell? ⟨y8.heap.size, 0, none⟩ = some (.slice Ag R.length cg) := RG.out.cell
  have kW : (y8.alloc (.cells #[.slice Ag R.length cg] 26)).cell? ⟨w4.heap.size, 0, none⟩ = some (.slice Aw R.length cw) := RW.out.cell
  clear how8 hng hfg hb8 hb8' hal HT7 kX HX7
  go_wp2_with fail
  generalize y8.alloc (.cells #[.slice Ag R.length cg] 26) = Y8 at *
  refine (eqRope_any Ag Aw R R cg cw _ (by omega) (by exact RG.out.cs) (by exact RW.out.cs)).mono ?_
  rintro e y9 ⟨rfl, hb9⟩
  rw [decide_eq_true (rfl : R = R)]
  have z9 := hb9.size
  have BA := Lib.hid (BA.out.below hb9)
  have RW := Lib.hid (RW.out.below hb9)
  have RX := Lib.hid (RX.out.below hb9)
  have PX := Lib.hid (PX.out.below hb9)
  have RG := Lib.hid (RG.out.below hb9)
  have HB := Lib.hid (below_then HB.out hb9)
  have HLc := Lib.hid (hL.below HB.out)
  have HXC := Lib.hid RX.out.cs
  have hsA := BA.out.lt
  have hsX := RX.out.lt.1
  have p0 : y9.cell? ⟨w.heap.size, 0, none⟩ = some (.slice A ls.length c) := BA.out.cell 0
  have x0 : y9.cell? ⟨y6.heap.size, 0, none⟩ = some (.slice Ax ls.length cx) := RX.out.cell
  clear hb9 kG kW
  -- the arguments' copies are unchanged
  go_wp2_with fail
  go_region_held3 (fun V => V.cell? ⟨w.heap.size, 0, none⟩ = some (.slice A ls.length c) ∧ V.cell? ⟨y6.heap.size, 0, none⟩ = some (.slice Ax ls.length cx)) (exact ⟨(by first | exact p0 | exact p1 | exact p2), (by first | exact x0 | exact x1 | exact x2)⟩) (first
    | (go_at_call 35; refine (toRope_any A ls c _ hl1 (by exact HLc.out)).mono ?_; rintro e y10 ⟨v10, fp10, rfl, how10, _, _, hb10⟩; have hb10 : Below y9.heap.size y9 y10 := ⟨hb10.os, hb10.tape, hb10.output, hb10.size, hb10.block⟩; obtain ⟨A10, c10, rfl, _, _, hE10⟩ := Lay.chunks_rd (Lay.chunks.read how10); have p1 := (hb10.cell (p := ⟨w.heap.size, 0, none⟩) hsA).trans p0; have x1 := (hb10.cell (p := ⟨y6.heap.size, 0, none⟩) hsX).trans x0; have HXC2 := Lib.hid (HXC.out.below hb10); have HE10 := Lib.hid hE10; have hsA1 := Nat.lt_of_lt_of_le hsA hb10.size; have hsX1 := Nat.lt_of_lt_of_le hsX hb10.size; have HB10 := Lib.hid hb10; clear how10 hE10 hb10)
    | (go_at_call 37; refine (eqRope_any Ax A10 ls ls cx c10 _ hn9 (by exact HXC2.out) (by exact HE10.out)).mono ?_; rintro e y11 ⟨rfl, hb11⟩; have hb11 : Below y10.heap.size y10 y11 := ⟨hb11.os, hb11.tape, hb11.output, hb11.size, hb11.block⟩; rw [decide_eq_true (rfl : ls = ls)]; have p2 := (hb11.cell (p := ⟨w.heap.size, 0, none⟩) hsA1).trans p1; have x2 := (hb11.cell (p := ⟨y6.heap.size, 0, none⟩) hsX1).trans x1; have HB11 := Lib.hid (below_then HB10.out hb11); clear hb11))
  have hb11 := HB11.out
  have z11 := hb11.size
  have BA := Lib.hid (BA.out.below hb11)
  have RW := Lib.hid (RW.out.below hb11)
  have RX := Lib.hid (RX.out.below hb11)
  have PX := Lib.hid (PX.out.below hb11)
  have RG := Lib.hid (RG.out.below hb11)
  have HB := Lib.hid (below_then HB.out hb11)
  have HPc := Lib.hid (hP.below HB.out)
  clear p0 p1 p2 x0 x1 x2 hsA hsX hsA1 hsX1 HXC HXC2 HE10 HB10 HB11 HLc hb11
  go_wp2_with fail
  refine (toByteS_any Ap p cp _ hp (by exact HPc.out)).mono ?_
  rintro e y12 ⟨rfl, hrow12, hb12⟩
  have z12 := hb12.size
  have BA := Lib.hid (BA.out.below hb12)
  have RW := Lib.hid (RW.out.below hb12)
  have RX := Lib.hid (RX.out.below hb12)
  have PX := Lib.hid (PX.out.below hb12)
  have RG := Lib.hid (RG.out.below hb12)
  have HB := Lib.hid (below_then HB.out hb12)
  have HX12 := Lib.hid hrow12.bs
  have HXB := Lib.hid (own_bs PX.out)
  clear hrow12 hb12 HPc
  go_wp2_with fail
  refine (eqByteS_any _ _ p p _ _ _ hp9 (by exact HXB.out) (by exact HX12.out)).mono ?_
  rintro e y13 ⟨rfl, n13, rfl⟩
  rw [decide_eq_true (rfl : p = p)]
  have hb13 := below_drewN (Below.refl y12.heap.size y12) n13
  have z13 := hb13.size
  have BA := Lib.hid (BA.out.below hb13)
  have RW := Lib.hid (RW.out.below hb13)
  have RX := Lib.hid (RX.out.below hb13)
  have PX := Lib.hid (PX.out.below hb13)
  have RG := Lib.hid (RG.out.below hb13)
  have HB := Lib.hid (below_then HB.out hb13)
  generalize y12.drewN n13 = y13 at *
  have kX : y13.cell? ⟨y6.heap.size, 0, none⟩ = some (.slice Ax ls.length cx) := RX.out.cell
  clear hb13 HX12 HXB
  -- marks in the arguments' copies
  go_wp2_with fail
  refine (markRope_any _ ls fx 1 _ (by omega) (by omega) HNX.out (by exact RX.out.ow)).mono ?_
  rintro e y14 ⟨rfl, _, hke⟩
  have BA := Lib.hid (BA.out.of_block (hke.block _ BA.out.lt (fun h => by have h1 := HXF.out _ h; omega)))
  have RW := Lib.hid (RW.out.keeps hke (fun h => by have h1 := HXF.out _ h; omega) (fun k hk h => by have h1 := HXF.out _ h; have h2 := HWL.out k hk; omega))
  have RG := Lib.hid (RG.out.keeps hke (fun h => by have h1 := HXL.out _ h; omega) (fun k hk h => by have h1 := HXL.out _ h; have h2 := HGF.out k hk; omega))
  have PX := Lib.hid (PX.out.keeps hke (fun b hb h => by have h1 := HXL.out _ h; have h2 := (PX.out.range b hb).1; omega))
  have HB := Lib.hid (HB.out.trans (hke.below (B := w.heap.size) HB.out.size (fun k hk => by have h1 := HXF.out k hk; omega)))
  have z14 := hke.size
  clear hke kX RX
  go_wp2_with fail
  refine (markByteS_any _ p Y6.heap.size (1 + tot ls) _ (by omega) (by omega) (by exact PX.out)).mono ?_
  rintro e y15 ⟨rfl, _, hgr⟩
  have hke := Keeps.of_grown hgr
  have hpb : ∀ k ∈ ((Value.slice (some ⟨Y6.heap.size, 0, none⟩) p.length p.length).ownBlock).toList, k = Y6.heap.size := fun k hk => by simpa [Value.ownBlock] using hk
  have BA := Lib.hid (BA.out.of_block (hke.block _ BA.out.lt (fun h => by have h1 := hpb _ h; omega)))
  have RW := Lib.hid (RW.out.keeps hke (fun h => by have h1 := hpb _ h; omega) (fun k hk h => by have h1 := hpb _ h; have h2 := HWL.out k hk; omega))
  have RG := Lib.hid (RG.out.keeps hke (fun h => by have h1 := hpb _ h; omega) (fun k hk h => by have h1 := hpb _ h; have h2 := HGF.out k hk; omega))
  have HB := Lib.hid (HB.out.trans (hke.below (B := w.heap.size) HB.out.size (fun k hk => by have h1 := hpb k hk; omega)))
  have z15 := hke.size
  have kG : y15.cell? ⟨y8.heap.size, 0, none⟩ = some (.slice Ag R.length cg) := RG.out.cell
  have kW : y15.cell? ⟨w4.heap.size, 0, none⟩ = some (.slice Aw R.length cw) := RW.out.cell
  obtain ⟨K, hK, hK0⟩ : ∃ K : Int, ((1 + tot ls + p.length : Nat) : Int) = K ∧ ¬ K < 0 := ⟨_, rfl, by omega⟩
  have hKd : decide (K < 0) = false := decide_eq_false hK0
  rw [hK]
  clear hke hgr hpb hK hK0 PX
  go_wp2_with fail
  refine (eqRope_any Ag Aw R R cg cw _ (by omega) (by exact RG.out.cs) (by exact RW.out.cs)).mono ?_
  rintro e y16 ⟨rfl, hb16⟩
  rw [decide_eq_true (rfl : R = R)]
  have z16 := hb16.size
  have BA := Lib.hid (BA.out.below hb16)
  have RW := Lib.hid (RW.out.below hb16)
  have RG := Lib.hid (RG.out.below hb16)
  have HB := Lib.hid (below_then HB.out hb16)
  have kG : y16.cell? ⟨y8.heap.size, 0, none⟩ = some (.slice Ag R.length cg) := RG.out.cell
  clear hb16 kW
  -- marks in the answer
  go_wp2_with fail
  refine (markRope_any _ R fg 1 _ (by omega) (by omega) HNG.out (by exact RG.out.ow)).mono ?_
  rintro e y17 ⟨rfl, how17, hke⟩
  have BA := Lib.hid (BA.out.of_block (hke.block _ BA.out.lt (fun h => by have h1 := HGF.out _ h; omega)))
  have RW := Lib.hid (RW.out.keeps hke (fun h => by have h1 := HGF.out _ h; omega) (fun k hk h => by have h1 := HGF.out _ h; have h2 := HWL.out k hk; omega))
  have GB := Lib.hid (RG.out.blk.of_block (hke.block _ RG.out.blk.lt (fun h => by have h1 := HGL.out _ h; omega)))
  have HB := Lib.hid (HB.out.trans (hke.below (B := w.heap.size) HB.out.size (fun k hk => by have h1 := HGF.out k hk; omega)))
  have z17 := hke.size
  have hlenM : (marksC 1 R).length = R.length := marksC_length 1 R
  obtain ⟨Ag', cg', eg, _, _, hM⟩ := Lay.chunks_rd (Lay.chunks.read how17)
  rw [hlenM] at eg
  simp only [Value.slice.injEq, true_and] at eg
  obtain ⟨rfl, rfl⟩ := eg
  have HM := Lib.hid hM
  have kG : y17.cell? ⟨y8.heap.size, 0, none⟩ = some (.slice Ag R.length cg) := GB.out.cell 0
  clear hke hM how17 RG
  go_wp2_with fail
  refine (heldRope_any Ag R cg 1 _ (by omega) (by omega) (by exact HM.out)).mono ?_
  rintro e y18 ⟨rfl, hb18⟩
  have BA := Lib.hid (BA.out.below hb18)
  have RW := Lib.hid (RW.out.below hb18)
  have GB := Lib.hid (GB.out.below hb18)
  have HM := Lib.hid (HM.out.below hb18)
  have HB := Lib.hid (below_then HB.out hb18)
  have HLe := Lib.hid (hL.below HB.out)
  have a0 : y18.cell? ⟨w.heap.size, 0, none⟩ = some (.slice A ls.length c) := BA.out.cell 0
  clear hb18 kG
  -- once more
  go_wp2_with fail
  refine (toRope_any A ls c _ hl1 (by exact HLe.out)).mono ?_
  rintro e y19 ⟨v19, fp19, rfl, how19, _, _, hb19⟩
  obtain ⟨A19, c19, rfl, _, _, hD19⟩ := Lay.chunks_rd (Lay.chunks.read how19)
  have BA := Lib.hid (BA.out.below hb19)
  have RW := Lib.hid (RW.out.below hb19)
  have GB := Lib.hid (GB.out.below hb19)
  have HM := Lib.hid (HM.out.below hb19)
  have HB := Lib.hid (below_then HB.out hb19)
  have HPc := Lib.hid (hP.below HB.out)
  clear how19 hb19 a0 HLe
  go_wp2_with fail
  refine (toByteS_any Ap p cp _ hp (by exact HPc.out)).mono ?_
  rintro e y20 ⟨rfl, hrow20, hb20⟩
  have HD20 := Lib.hid (hD19.below hb20)
  have BA := Lib.hid (BA.out.below hb20)
  have RW := Lib.hid (RW.out.below hb20)
  have GB := Lib.hid (GB.out.below hb20)
  have HM := Lib.hid (HM.out.below hb20)
  have HB := Lib.hid (below_then HB.out hb20)
  have HT20 := Lib.hid (hT.below HB.out)
  have HX20 := Lib.hid hrow20.bs
  clear hb20 hD19 hrow20 HPc
  go_wp2_with fail
  refine (implRopeEdit_any A19 ls c19 a m _ p p.length _ hl2 (Nat.le_refl _) hp9 (by exact HT20.out) (by exact HD20.out) (by exact HX20.out) ha hmm).mono ?_
  rintro e y21 ⟨v21, fh, rfl, how21, _, _, hb21⟩
  rw [HRE.out] at how21
  rw [HZE.out]
  obtain ⟨Ah, ch, rfl, _, _, _⟩ := Lay.chunks_rd (Lay.chunks.read how21)
  have hal := (Below.refl y21.heap.size y21).alloc (Nat.le_refl _) (.cells #[.slice Ah R.length ch] 26)
  have RH := Lib.hid (RVar.new how21)
  have hb21' := below_then hb21 hal
  have BA := Lib.hid (BA.out.below hb21')
  have RW := Lib.hid (RW.out.below hb21')
  have GB := Lib.hid (GB.out.below hb21')
  have HM := Lib.hid (HM.out.below hb21')
  have HB := Lib.hid (below_then HB.out hb21')
  have kH : (y21.alloc (.cells #[.slice Ah R.length ch] 26)).cell? ⟨y21.heap.size, 0, none⟩ = some (.slice Ah R.length ch) := RH.out.cell
  have kW : (y21.alloc (.cells #[.slice Ah R.length ch] 26)).cell? ⟨w4.heap.size, 0, none⟩ = some (.slice Aw R.length cw) := RW.out.cell
  clear how21 hb21 hb21' hal HT20 HD20 HX20
  go_wp2_with fail
  generalize y21.alloc (.cells #[.slice Ah R.length ch] 26) = Y21 at *
  refine (eqRope_any Ah Aw R R ch cw _ (by omega) (by exact RH.out.cs) (by exact RW.out.cs)).mono ?_
  rintro e y22 ⟨rfl, hb22⟩
  rw [decide_eq_true (rfl : R = R)]
  have BA := Lib.hid (BA.out.below hb22)
  have GB := Lib.hid (GB.out.below hb22)
  have HM := Lib.hid (HM.out.below hb22)
  have HB := Lib.hid (below_then HB.out hb22)
  have kG : y22.cell? ⟨y8.heap.size, 0, none⟩ = some (.slice Ag R.length cg) := GB.out.cell 0
  clear hb22 kH kW RH RW
  go_wp2_with fail
  refine (heldRope_any Ag R cg 1 _ (by omega) (by omega) (by exact HM.out)).mono ?_
  rintro e y23 ⟨rfl, hb23⟩
  have hb24 := below_then HB.out hb23
  clear hb23 kG
  go_wp2
  go_ret
  exact ⟨rfl, hb24⟩

end Go.Proofs.YtfgbipomdfceeaaDoor.fnExactRopeEdit
