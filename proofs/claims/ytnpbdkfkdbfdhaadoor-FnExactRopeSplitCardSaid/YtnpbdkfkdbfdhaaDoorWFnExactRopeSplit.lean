/-
  FnExactRopeSplit, its walk. Own work.
-/
import Derived.Test.YtnpbdkfkdbfdhaaDoorLaw
import Derived.Test.YtnpbdkfkdbfdhaaDoorC04b
import Derived.Test.YtnpbdkfkdbfdhaaDoorR07
import Derived.Deep.RegionHeld3
namespace Go.Proofs.YtnpbdkfkdbfdhaaDoor.fnExactRopeSplit
open Go.ChangeShapes Go.WideShapes Go.ChangeAt Go.RowKit P
set_option linter.unusedVariables false
set_option maxRecDepth 100000

theorem two_vars {w : World} {A1 A2 : Option Addr} {c1 c2 : Nat} {R S : List (List UInt8)} {f1 f2 : List Nat} (h1 : Lay.chunks.ow w [.slice A1 R.length c1] R f1) (h2 : Lay.chunks.ow w [.slice A2 S.length c2] S f2) :
    RVar ((w.alloc (.cells #[.slice A1 R.length c1] 38)).alloc (.cells #[.slice A2 S.length c2] 38)) w.heap.size A1 R c1 f1 ∧
    RVar ((w.alloc (.cells #[.slice A1 R.length c1] 38)).alloc (.cells #[.slice A2 S.length c2] 38)) (w.heap.size + 1) A2 S c2 f2 ∧
    Below w.heap.size w ((w.alloc (.cells #[.slice A1 R.length c1] 38)).alloc (.cells #[.slice A2 S.length c2] 38)) := by
  have hal := (Below.refl w.heap.size w).alloc (Nat.le_refl _) (.cells #[.slice A1 R.length c1] 38)
  have hal2 := (Below.refl (w.alloc (.cells #[.slice A1 R.length c1] 38)).heap.size (w.alloc (.cells #[.slice A1 R.length c1] 38))).alloc (Nat.le_refl _) (.cells #[.slice A2 S.length c2] 38)
  refine ⟨(RVar.new h1).below hal2, ?_, below_then hal hal2⟩
  have h9 := RVar.new (Lay.chunks.owBelow h2 hal)
  rw [World.size_alloc] at h9
  exact h9
theorem rvar_marked {w w' : World} {b : Nat} {A : Option Addr} {R M : List (List UInt8)} {c : Nat} {fp : List Nat} (h : RVar w b A R c fp) (hk : Keeps fp w w') (hb : b ∉ fp) (hl : M.length = R.length) (how : Lay.chunks.ow w' [.slice A R.length c] M fp) : RVar w' b A M c fp :=
  ⟨by rw [hl]; exact h.blk.of_block (hk.block _ h.blk.lt hb), by rw [hl]; exact how⟩

set_option maxHeartbeats 8000000 in
theorem walk (A : Option Addr) (ls : List (List UInt8)) (c : Nat) (hc : ls.length ≤ c) (hm : c ≤ maxLen) (a : Int) (ha : -9223372036854775808 ≤ a ∧ a ≤ 9223372036854775807) (w : World) (hL : Cs w A ls) (hT : Tab w) :
    Calls Tryd.prog 5 #[.agg #[.slice A ls.length c], .int .i64 a] w fun e w' => e = .returned (.bool true) ∧ Below w.heap.size w w' := by
  have hn9 : ls.length ≤ 9223372036854775807 := by unfold maxLen at hm; omega
  clear hc hm
  have hb0 := (Below.refl w.heap.size w).alloc (Nat.le_refl _) (.cells #[.slice A ls.length c] 52)
  have bA0 := Blk.new w #[.slice A ls.length c] 52
  obtain ⟨R, hRe⟩ : ∃ R, spA ls a = R := ⟨_, rfl⟩
  obtain ⟨S, hSe⟩ : ∃ R, spB ls a = R := ⟨_, rfl⟩
  obtain ⟨z, hze⟩ : ∃ z, rCut ls a = z := ⟨_, rfl⟩
  have hRb : R.length + tot R ≤ 800 := by rw [← hRe]; exact spA_bd ls a
  have hSb : S.length + tot S ≤ 800 := by rw [← hSe]; exact spB_bd ls a
  have HRE := Lib.hid hRe
  have HSE := Lib.hid hSe
  have HZE := Lib.hid hze
  have hzz : (z != z) = false := by simp
  clear hRe hSe hze
  go_enter Tryd.func5, Tryd.ntmps5
  go_wp2_with fail
  generalize w.alloc (.cells #[.slice A ls.length c] 52) = W0 at *
  refine (szRope_any A ls c _ hn9 (by exact hL.below hb0)).mono ?_
  rintro e w1 ⟨⟨r, rfl, hr⟩, hb1⟩
  have BA := Lib.hid (bA0.below hb1)
  have HB := Lib.hid (below_then hb0 hb1)
  clear bA0 hb0 hb1
  by_cases hneg : r < 0
  · go_wp2
    go_ret
    exact ⟨rfl, HB.out⟩
  have hl1 : ls.length + tot ls ≤ 1048576 := by omega
  have hl2 : ls.length ≤ 1048576 := by omega
  have kA : w1.cell? ⟨w.heap.size, 0, none⟩ = some (.slice A ls.length c) := BA.out.cell 0
  have HLc := Lib.hid (hL.below HB.out)
  clear hr
  -- what the model answers
  go_wp2_with fail
  refine (toRope_any A ls c _ hl1 (by exact HLc.out)).mono ?_
  rintro e w2 ⟨v2, fp2, rfl, how2, _, _, hb2⟩
  obtain ⟨A2, c2, rfl, _, _, hD2⟩ := Lay.chunks_rd (Lay.chunks.read how2)
  have BA := Lib.hid (BA.out.below hb2)
  have HB := Lib.hid (below_then HB.out hb2)
  clear how2 hb2 kA HLc
  go_wp2_with fail
  refine (specRopeSplit_any A2 ls c2 a _ hn9 (by exact hD2) ha).mono ?_
  rintro e w4 ⟨Aw, cw, Av, cv, fw, fv, rfl, how4, hov4, hnw, hnv, hfw, hfv, hdw, hb4⟩
  rw [HRE.out] at how4
  rw [HSE.out] at hov4
  rw [HRE.out, HSE.out, HZE.out]
  obtain ⟨rw4, rv4, hal⟩ := two_vars how4 hov4
  have RW := Lib.hid rw4
  have RV := Lib.hid rv4
  have HWL := Lib.hid (Lay.chunks.lt how4)
  have HVL := Lib.hid (Lay.chunks.lt hov4)
  have HWF := Lib.hid hfw
  have HVF := Lib.hid hfv
  have hzA0 : w.heap.size < w4.heap.size := by have h1 := BA.out.lt; have h2 := hb4.size; omega
  have hb4' := below_then hb4 hal
  have BA := Lib.hid (BA.out.below hb4')
  have HB := Lib.hid (below_then HB.out hb4')
  have hz4 : w4.heap.size + 1 < ((w4.alloc (.cells #[.slice Aw R.length cw] 38)).alloc (.cells #[.slice Av S.length cv] 38)).heap.size := by simp
  have HLc := Lib.hid (hL.below HB.out)
  have kA : ((w4.alloc (.cells #[.slice Aw R.length cw] 38)).alloc (.cells #[.slice Av S.length cv] 38)).cell? ⟨w.heap.size, 0, none⟩ = some (.slice A ls.length c) := BA.out.cell 0
  have hzA : w.heap.size < w4.heap.size := hzA0
  clear how4 hov4 hnw hnv hfw hfv hdw hb4 hb4' hal hD2 rw4 rv4
  go_wp2_with fail
  generalize (w4.alloc (.cells #[.slice Aw R.length cw] 38)).alloc (.cells #[.slice Av S.length cv] 38) = W4 at *
  -- the copy of the argument
  refine (toRope_any A ls c _ hl1 (by exact HLc.out)).mono ?_
  rintro e y6 ⟨v6, fx, rfl, how6, hnx, hfx, hb6⟩
  obtain ⟨Ax, cx, rfl, hcx, _, _⟩ := Lay.chunks_rd (Lay.chunks.read how6)
  have hal := (Below.refl y6.heap.size y6).alloc (Nat.le_refl _) (.cells #[.slice Ax ls.length cx] 38)
  have RX := Lib.hid (RVar.new how6)
  have HXL := Lib.hid (Lay.chunks.lt how6)
  have HXF := Lib.hid hfx
  have HNX := Lib.hid hnx
  have hb6' := below_then hb6 hal
  have z6 := hb6.size
  have BA := Lib.hid (BA.out.below hb6')
  have RW := Lib.hid (RW.out.below hb6')
  have RV := Lib.hid (RV.out.below hb6')
  have HB := Lib.hid (below_then HB.out hb6')
  have hz6 : y6.heap.size < (y6.alloc (.cells #[.slice Ax ls.length cx] 38)).heap.size := by simp
  have kX : (y6.alloc (.cells #[.slice Ax ls.length cx] 38)).cell? ⟨y6.heap.size, 0, none⟩ = some (.slice Ax ls.length cx) := RX.out.cell
  have HT7 := Lib.hid (hT.below HB.out)
  clear how6 hnx hfx hb6 hb6' hal HLc kA
  go_wp2_with fail
  generalize y6.alloc (.cells #[.slice Ax ls.length cx] 38) = Y6 at *
  -- the program's answer
  refine (implRopeSplit_any Ax ls cx a _ hl2 (by exact HT7.out) (by exact RX.out.cs) ha).mono ?_
  rintro e y8 ⟨Ag, cg, Ah, ch, fg, fh, rfl, how8, hov8, hng, hnh, hfg, hfh, hdg, hb8⟩
  rw [HRE.out] at how8
  rw [HSE.out] at hov8
  rw [HRE.out, HSE.out, HZE.out]
  obtain ⟨rg8, rh8, hal⟩ := two_vars how8 hov8
  have RG := Lib.hid rg8
  have RH := Lib.hid rh8
  have HGL := Lib.hid (Lay.chunks.lt how8)
  have HHL := Lib.hid (Lay.chunks.lt hov8)
  have HGF := Lib.hid hfg
  have HHF := Lib.hid hfh
  have HNG := Lib.hid hng
  have HNH := Lib.hid hnh
  have HDG := Lib.hid hdg
  have hb8' := below_then hb8 hal
  have z8 := hb8.size
  have BA := Lib.hid (BA.out.below hb8')
  have RW := Lib.hid (RW.out.below hb8')
  have RV := Lib.hid (RV.out.below hb8')
  have RX := Lib.hid (RX.out.below hb8')
  have HB := Lib.hid (below_then HB.out hb8')
  have hz8 : y8.heap.size + 1 < ((y8.alloc (.cells #[.slice Ag R.length cg] 38)).alloc (.cells #[.slice Ah S.length ch] 38)).heap.size := by simp
  have kG := RG.out.cell
  have kW := RW.out.cell
  have kH := RH.out.cell
  have kV := RV.out.cell
  clear how8 hov8 hng hnh hfg hfh hdg hb8 hb8' hal HT7 kX rg8 rh8
  go_wp2_with fail
  generalize (y8.alloc (.cells #[.slice Ag R.length cg] 38)).alloc (.cells #[.slice Ah S.length ch] 38) = Y8 at *
  refine (eqRope_any Ag Aw R R cg cw _ (by omega) (by exact RG.out.cs) (by exact RW.out.cs)).mono ?_
  rintro e y9 ⟨rfl, hb9⟩
  rw [decide_eq_true (rfl : R = R)]
  have z9 := hb9.size
  have BA := Lib.hid (BA.out.below hb9)
  have RW := Lib.hid (RW.out.below hb9)
  have RV := Lib.hid (RV.out.below hb9)
  have RX := Lib.hid (RX.out.below hb9)
  have RG := Lib.hid (RG.out.below hb9)
  have RH := Lib.hid (RH.out.below hb9)
  have HB := Lib.hid (below_then HB.out hb9)
  clear kG kW kH kV
  have kH := RH.out.cell
  have kV := RV.out.cell
  clear hb9
  go_wp2_with fail
  refine (eqRope_any Ah Av S S ch cv _ (by omega) (by exact RH.out.cs) (by exact RV.out.cs)).mono ?_
  rintro e y10 ⟨rfl, hb10⟩
  rw [decide_eq_true (rfl : S = S)]
  have z10 := hb10.size
  have BA := Lib.hid (BA.out.below hb10)
  have RW := Lib.hid (RW.out.below hb10)
  have RV := Lib.hid (RV.out.below hb10)
  have RX := Lib.hid (RX.out.below hb10)
  have RG := Lib.hid (RG.out.below hb10)
  have RH := Lib.hid (RH.out.below hb10)
  have HB := Lib.hid (below_then HB.out hb10)
  have HLc := Lib.hid (hL.below HB.out)
  have HXC := Lib.hid RX.out.cs
  have hsA := BA.out.lt
  have hsX := RX.out.lt.1
  have p0 : y10.cell? ⟨w.heap.size, 0, none⟩ = some (.slice A ls.length c) := BA.out.cell 0
  have x0 : y10.cell? ⟨y6.heap.size, 0, none⟩ = some (.slice Ax ls.length cx) := RX.out.cell
  clear hb10 kH kV
  -- the argument's copy is unchanged
  go_wp2_with fail
  go_region_held3 (fun V => V.cell? ⟨w.heap.size, 0, none⟩ = some (.slice A ls.length c) ∧ V.cell? ⟨y6.heap.size, 0, none⟩ = some (.slice Ax ls.length cx)) (exact ⟨(by first | exact p0 | exact p1 | exact p2), (by first | exact x0 | exact x1 | exact x2)⟩) (first
    | (go_at_call 26; refine (toRope_any A ls c _ hl1 (by exact HLc.out)).mono ?_; rintro e u10 ⟨v10, fp10, rfl, how10, _, _, hb10⟩; have hb10 : Below y10.heap.size y10 u10 := ⟨hb10.os, hb10.tape, hb10.output, hb10.size, hb10.block⟩; obtain ⟨A10, c10, rfl, _, _, hE10⟩ := Lay.chunks_rd (Lay.chunks.read how10); have p1 := (hb10.cell (p := ⟨w.heap.size, 0, none⟩) hsA).trans p0; have x1 := (hb10.cell (p := ⟨y6.heap.size, 0, none⟩) hsX).trans x0; have hsA1 := Nat.lt_of_lt_of_le hsA hb10.size; have hsX1 := Nat.lt_of_lt_of_le hsX hb10.size; have HXC2 := Lib.hid (HXC.out.below hb10); have HE10 := Lib.hid hE10; have HB10 := Lib.hid hb10; clear how10 hb10 hE10)
    | (go_at_call 27; refine (eqRope_any Ax A10 ls ls cx c10 _ hn9 (by exact HXC2.out) (by exact HE10.out)).mono ?_; rintro e y11 ⟨rfl, hb11⟩; have hb11 : Below u10.heap.size u10 y11 := ⟨hb11.os, hb11.tape, hb11.output, hb11.size, hb11.block⟩; rw [decide_eq_true (rfl : ls = ls)]; have p2 := (hb11.cell (p := ⟨w.heap.size, 0, none⟩) hsA1).trans p1; have x2 := (hb11.cell (p := ⟨y6.heap.size, 0, none⟩) hsX1).trans x1; have HB11 := Lib.hid (below_then HB10.out hb11); clear hb11))
  have hb11 := HB11.out
  have z11 := hb11.size
  have BA := Lib.hid (BA.out.below hb11)
  have RW := Lib.hid (RW.out.below hb11)
  have RV := Lib.hid (RV.out.below hb11)
  have RX := Lib.hid (RX.out.below hb11)
  have RG := Lib.hid (RG.out.below hb11)
  have RH := Lib.hid (RH.out.below hb11)
  have HB := Lib.hid (below_then HB.out hb11)
  have kX : y11.cell? ⟨y6.heap.size, 0, none⟩ = some (.slice Ax ls.length cx) := RX.out.cell
  clear p0 p1 p2 x0 x1 x2 hsA hsX hsA1 hsX1 HXC HXC2 HE10 HB10 HB11 HLc hb11
  -- marks in the argument's copy
  go_wp2_with fail
  refine (markRope_any _ ls fx 1 _ (by omega) (by omega) HNX.out (by exact RX.out.ow)).mono ?_
  rintro e y14 ⟨rfl, _, hke⟩
  have BA := Lib.hid (BA.out.of_block (hke.block _ BA.out.lt (fun h => by have h1 := HXF.out _ h; omega)))
  have RW := Lib.hid (RW.out.keeps hke (fun h => by have h1 := HXF.out _ h; omega) (fun k hk h => by have h1 := HXF.out _ h; have h2 := HWL.out k hk; omega))
  have RV := Lib.hid (RV.out.keeps hke (fun h => by have h1 := HXF.out _ h; omega) (fun k hk h => by have h1 := HXF.out _ h; have h2 := HVL.out k hk; omega))
  have RG := Lib.hid (RG.out.keeps hke (fun h => by have h1 := HXL.out _ h; omega) (fun k hk h => by have h1 := HXL.out _ h; have h2 := HGF.out k hk; omega))
  have RH := Lib.hid (RH.out.keeps hke (fun h => by have h1 := HXL.out _ h; omega) (fun k hk h => by have h1 := HXL.out _ h; have h2 := HHF.out k hk; omega))
  have HB := Lib.hid (HB.out.trans (hke.below (B := w.heap.size) HB.out.size (fun k hk => by have h1 := HXF.out k hk; omega)))
  have z14 := hke.size
  have kG := RG.out.cell
  have kW := RW.out.cell
  have kH := RH.out.cell
  have kV := RV.out.cell
  obtain ⟨K, hK, hK0⟩ : ∃ K : Int, ((1 + tot ls : Nat) : Int) = K ∧ ¬ K < 0 := ⟨_, rfl, by omega⟩
  have hKd : decide (K < 0) = false := decide_eq_false hK0
  rw [hK]
  clear hke hK hK0 RX kX
  go_wp2_with fail
  refine (eqRope_any Ag Aw R R cg cw _ (by omega) (by exact RG.out.cs) (by exact RW.out.cs)).mono ?_
  rintro e y16 ⟨rfl, hb16⟩
  rw [decide_eq_true (rfl : R = R)]
  have z16 := hb16.size
  have BA := Lib.hid (BA.out.below hb16)
  have RW := Lib.hid (RW.out.below hb16)
  have RV := Lib.hid (RV.out.below hb16)
  have RG := Lib.hid (RG.out.below hb16)
  have RH := Lib.hid (RH.out.below hb16)
  have HB := Lib.hid (below_then HB.out hb16)
  clear kG kW kH kV
  have kH := RH.out.cell
  have kV := RV.out.cell
  clear hb16
  go_wp2_with fail
  refine (eqRope_any Ah Av S S ch cv _ (by omega) (by exact RH.out.cs) (by exact RV.out.cs)).mono ?_
  rintro e y17 ⟨rfl, hb17⟩
  rw [decide_eq_true (rfl : S = S)]
  have z17 := hb17.size
  have BA := Lib.hid (BA.out.below hb17)
  have RW := Lib.hid (RW.out.below hb17)
  have RV := Lib.hid (RV.out.below hb17)
  have RG := Lib.hid (RG.out.below hb17)
  have RH := Lib.hid (RH.out.below hb17)
  have HB := Lib.hid (below_then HB.out hb17)
  clear kH kV
  have kG := RG.out.cell
  clear hb17
  -- marks in the answers
  go_wp2_with fail
  refine (markRope_any _ R fg 1 _ (by omega) (by omega) HNG.out (by exact RG.out.ow)).mono ?_
  rintro e y18 ⟨rfl, how18, hke⟩
  have BA := Lib.hid (BA.out.of_block (hke.block _ BA.out.lt (fun h => by have h1 := HGF.out _ h; omega)))
  have RW := Lib.hid (RW.out.keeps hke (fun h => by have h1 := HGF.out _ h; omega) (fun k hk h => by have h1 := HGF.out _ h; have h2 := HWL.out k hk; omega))
  have RV := Lib.hid (RV.out.keeps hke (fun h => by have h1 := HGF.out _ h; omega) (fun k hk h => by have h1 := HGF.out _ h; have h2 := HVL.out k hk; omega))
  have RH := Lib.hid (RH.out.keeps hke (fun h => by have h1 := HGL.out _ h; omega) (fun k hk h => HDG.out k h hk))
  have RG := Lib.hid (rvar_marked RG.out hke (fun h => by have h1 := HGL.out _ h; omega) (marksC_length 1 R) how18)
  have HB := Lib.hid (HB.out.trans (hke.below (B := w.heap.size) HB.out.size (fun k hk => by have h1 := HGF.out k hk; omega)))
  have z18 := hke.size
  have kH := RH.out.cell
  clear hke how18 kG
  go_wp2_with fail
  refine (markRope_any _ S fh (1 + tot R) _ (by omega) (by omega) HNH.out (by exact RH.out.ow)).mono ?_
  rintro e y19 ⟨rfl, how19, hke⟩
  have BA := Lib.hid (BA.out.of_block (hke.block _ BA.out.lt (fun h => by have h1 := HHF.out _ h; omega)))
  have RW := Lib.hid (RW.out.keeps hke (fun h => by have h1 := HHF.out _ h; omega) (fun k hk h => by have h1 := HHF.out _ h; have h2 := HWL.out k hk; omega))
  have RV := Lib.hid (RV.out.keeps hke (fun h => by have h1 := HHF.out _ h; omega) (fun k hk h => by have h1 := HHF.out _ h; have h2 := HVL.out k hk; omega))
  have RG := Lib.hid (RG.out.keeps hke (fun h => by have h1 := HHL.out _ h; omega) (fun k hk h => HDG.out k hk h))
  have RH := Lib.hid (rvar_marked RH.out hke (fun h => by have h1 := HHL.out _ h; omega) (marksC_length (1 + tot R) S) how19)
  have HB := Lib.hid (HB.out.trans (hke.below (B := w.heap.size) HB.out.size (fun k hk => by have h1 := HHF.out k hk; omega)))
  have z19 := hke.size
  have hlR : (marksC 1 R).length = R.length := marksC_length 1 R
  have hlS : (marksC (1 + tot R) S).length = S.length := marksC_length (1 + tot R) S
  have kG := RG.out.cell
  rw [hlR] at kG
  clear hke how19 kH
  go_wp2_with fail
  refine (heldRope_any Ag R cg 1 _ (by omega) (by omega) (by exact RG.out.cs)).mono ?_
  rintro e y20 ⟨rfl, hb20⟩
  have BA := Lib.hid (BA.out.below hb20)
  have RW := Lib.hid (RW.out.below hb20)
  have RV := Lib.hid (RV.out.below hb20)
  have RG := Lib.hid (RG.out.below hb20)
  have RH := Lib.hid (RH.out.below hb20)
  have HB := Lib.hid (below_then HB.out hb20)
  have kH := RH.out.cell
  rw [hlS] at kH
  clear hb20 kG
  go_wp2_with fail
  refine (heldRope_any Ah S ch (1 + tot R) _ (by omega) (by omega) (by exact RH.out.cs)).mono ?_
  rintro e y21 ⟨rfl, hb21⟩
  have BA := Lib.hid (BA.out.below hb21)
  have RW := Lib.hid (RW.out.below hb21)
  have RV := Lib.hid (RV.out.below hb21)
  have RG := Lib.hid (RG.out.below hb21)
  have RH := Lib.hid (RH.out.below hb21)
  have HB := Lib.hid (below_then HB.out hb21)
  have HLe := Lib.hid (hL.below HB.out)
  have a0 : y21.cell? ⟨w.heap.size, 0, none⟩ = some (.slice A ls.length c) := BA.out.cell 0
  clear hb21 kH
  -- once more
  go_wp2_with fail
  refine (toRope_any A ls c _ hl1 (by exact HLe.out)).mono ?_
  rintro e y22 ⟨v22, fp22, rfl, how22, _, _, hb22⟩
  obtain ⟨A22, c22, rfl, _, _, hD22⟩ := Lay.chunks_rd (Lay.chunks.read how22)
  have BA := Lib.hid (BA.out.below hb22)
  have RW := Lib.hid (RW.out.below hb22)
  have RV := Lib.hid (RV.out.below hb22)
  have RG := Lib.hid (RG.out.below hb22)
  have RH := Lib.hid (RH.out.below hb22)
  have HB := Lib.hid (below_then HB.out hb22)
  have HD22 := Lib.hid hD22
  have HT22 := Lib.hid (hT.below HB.out)
  clear how22 hb22 a0 HLe hD22
  go_wp2_with fail
  refine (implRopeSplit_any A22 ls c22 a _ hl2 (by exact HT22.out) (by exact HD22.out) ha).mono ?_
  rintro e y23 ⟨Am, cm, An, cn, fm, fn, rfl, how23, hov23, _, _, _, _, _, hb23⟩
  rw [HRE.out] at how23
  rw [HSE.out] at hov23
  rw [HRE.out, HSE.out, HZE.out]
  obtain ⟨rm23, rn23, hal⟩ := two_vars how23 hov23
  have RM := Lib.hid rm23
  have RN := Lib.hid rn23
  have hb23' := below_then hb23 hal
  have BA := Lib.hid (BA.out.below hb23')
  have RW := Lib.hid (RW.out.below hb23')
  have RV := Lib.hid (RV.out.below hb23')
  have RG := Lib.hid (RG.out.below hb23')
  have RH := Lib.hid (RH.out.below hb23')
  have HB := Lib.hid (below_then HB.out hb23')
  have kM := RM.out.cell
  have kN := RN.out.cell
  have kW := RW.out.cell
  have kV := RV.out.cell
  clear how23 hov23 hb23 hb23' hal HT22 HD22 rm23 rn23
  go_wp2_with fail
  generalize (y23.alloc (.cells #[.slice Am R.length cm] 38)).alloc (.cells #[.slice An S.length cn] 38) = Y23 at *
  refine (eqRope_any Am Aw R R cm cw _ (by omega) (by exact RM.out.cs) (by exact RW.out.cs)).mono ?_
  rintro e y24 ⟨rfl, hb24⟩
  rw [decide_eq_true (rfl : R = R)]
  have BA := Lib.hid (BA.out.below hb24)
  have RV := Lib.hid (RV.out.below hb24)
  have RG := Lib.hid (RG.out.below hb24)
  have RH := Lib.hid (RH.out.below hb24)
  have RN := Lib.hid (RN.out.below hb24)
  have HB := Lib.hid (below_then HB.out hb24)
  clear kM kN kW kV
  have kN := RN.out.cell
  have kV := RV.out.cell
  clear hb24
  go_wp2_with fail
  refine (eqRope_any An Av S S cn cv _ (by omega) (by exact RN.out.cs) (by exact RV.out.cs)).mono ?_
  rintro e y25 ⟨rfl, hb25⟩
  rw [decide_eq_true (rfl : S = S)]
  have RG := Lib.hid (RG.out.below hb25)
  have RH := Lib.hid (RH.out.below hb25)
  have HB := Lib.hid (below_then HB.out hb25)
  have kG := RG.out.cell
  rw [hlR] at kG
  clear hb25 kN kV
  go_wp2_with fail
  refine (heldRope_any Ag R cg 1 _ (by omega) (by omega) (by exact RG.out.cs)).mono ?_
  rintro e y26 ⟨rfl, hb26⟩
  have RG := Lib.hid (RG.out.below hb26)
  have RH := Lib.hid (RH.out.below hb26)
  have HB := Lib.hid (below_then HB.out hb26)
  have kH := RH.out.cell
  rw [hlS] at kH
  clear hb26 kG
  go_wp2_with fail
  refine (heldRope_any Ah S ch (1 + tot R) _ (by omega) (by omega) (by exact RH.out.cs)).mono ?_
  rintro e y27 ⟨rfl, hb27⟩
  have hb28 := below_then HB.out hb27
  clear hb27 kH
  go_wp2
  go_ret
  exact ⟨rfl, hb28⟩

end Go.Proofs.YtnpbdkfkdbfdhaaDoor.fnExactRopeSplit
