/-
  FnExactRopeJoin, its walk. Own work.
-/
import Derived.Test.YtpipkmnmdipeeaaDoorLaw
import Derived.Test.YtpipkmnmdipeeaaDoorC04b
import Derived.Test.YtpipkmnmdipeeaaDoorI05b
import Derived.Test.YtpipkmnmdipeeaaDoorS05c
import Derived.Deep.RegionHeld3
import Derived.Deep.RegionWith
import Derived.Deep.DeepCutAuto
namespace Go.Proofs.YtpipkmnmdipeeaaDoor.fnExactRopeJoin
open Go.ChangeShapes Go.WideShapes Go.ChangeAt Go.RowKit P
set_option linter.unusedVariables false
set_option maxRecDepth 100000

set_option maxHeartbeats 8000000 in
theorem walk (A : Option Addr) (ls : List (List UInt8)) (c : Nat) (hc : ls.length ≤ c) (hm : c ≤ maxLen) (B : Option Addr) (rs : List (List UInt8)) (d : Nat) (hd : rs.length ≤ d) (hm2 : d ≤ maxLen) (w : World) (hL : Cs w A ls) (hR : Cs w B rs) (hT : Tab w) :
    Calls Tryd.prog 10 #[.agg #[.slice A ls.length c], .agg #[.slice B rs.length d]] w fun e w' => e = .returned (.bool true) ∧ Below w.heap.size w w' := by
  have hn9 : ls.length ≤ 9223372036854775807 := by unfold maxLen at hm; omega
  have hr9 : rs.length ≤ 9223372036854775807 := by unfold maxLen at hm2; omega
  clear hc hm hd hm2
  have hb0 := ((Below.refl w.heap.size w).alloc (Nat.le_refl _) (.cells #[.slice A ls.length c] 24)).alloc (by simp) (.cells #[.slice B rs.length d] 24)
  have bA0 := (Blk.new w #[.slice A ls.length c] 24).alloc (.cells #[.slice B rs.length d] 24)
  have bB0 : Blk ((w.alloc (.cells #[.slice A ls.length c] 24)).alloc (.cells #[.slice B rs.length d] 24)) (w.heap.size + 1) #[.slice B rs.length d] 24 := by
    have := Blk.new (w.alloc (.cells #[.slice A ls.length c] 24)) #[.slice B rs.length d] 24
    simpa using this
  have kA := bA0.cell 0
  have kB := bB0.cell 0
  go_enter Tryd.func10, Tryd.ntmps10
  go_wp2_with fail
  generalize (w.alloc (.cells #[.slice A ls.length c] 24)).alloc (.cells #[.slice B rs.length d] 24) = W0 at *
  refine (szRope_gen A ls c 1048576 _ hn9 (by omega) (by omega) (by exact hL.below hb0)).mono ?_
  rintro e w1 ⟨⟨r, rfl, hr⟩, hb1⟩
  have bA1 := bA0.below hb1
  have bB1 := bB0.below hb1
  have hb1 := below_then hb0 hb1
  clear bA0 bB0 hb0 kA kB
  have kB : w1.cell? ⟨w.heap.size + 1, 0, none⟩ = some (.slice B rs.length d) := bB1.cell 0
  by_cases hneg : r < 0
  · go_wp2
    go_ret
    exact ⟨rfl, hb1⟩
  have hr' : r + ls.length + tot ls = 1048576 := by omega
  have hr0 : 0 ≤ r := by omega
  have hr1 : r ≤ 1048576 := by omega
  clear hr
  go_wp2_with fail
  refine (szRope_gen B rs d r _ hr9 hr0 hr1 (by exact hR.below hb1)).mono ?_
  rintro e w2 ⟨⟨s, rfl, hs⟩, hb2⟩
  have bA2 := bA1.below hb2
  have bB2 := bB1.below hb2
  have hb2 := below_then hb1 hb2
  clear bA1 bB1 hb1 kB hneg
  by_cases hneg : s < 0
  · go_wp2
    go_ret
    exact ⟨rfl, hb2⟩
  have htot : ls.length + tot ls + (rs.length + tot rs) ≤ 1048576 := by omega
  have hl1 : ls.length + tot ls ≤ 1048576 := by omega
  have hl2 : rs.length + tot rs ≤ 1048576 := by omega
  obtain ⟨R, hRe⟩ : ∃ R, joinR ls rs = R := ⟨_, rfl⟩
  obtain ⟨z, hze⟩ : ∃ z, joinOk ls rs = z := ⟨_, rfl⟩
  have HRE := Lib.hid hRe
  have HZE := Lib.hid hze
  have hRb : R.length + tot R ≤ 1048576 := by
    rw [← hRe]
    unfold joinR
    split
    · unfold tot at *; rw [List.length_append, List.flatten_append, List.length_append]; omega
    · simp [tot]
  have hzz : (z != z) = false := by simp
  clear hs hr' hr0 hr1 hRe hze
  have a0 : w2.cell? ⟨w.heap.size, 0, none⟩ = some (.slice A ls.length c) := bA2.cell 0
  have a1 : w2.cell? ⟨w.heap.size + 1, 0, none⟩ = some (.slice B rs.length d) := bB2.cell 0
  have BA2 := Lib.hid bA2
  have BB2 := Lib.hid bB2
  have HB2 := Lib.hid hb2
  have HLA2 := Lib.hid (hL.below hb2)
  have HRB2 := Lib.hid (hR.below hb2)
  have hzA := BA2.out.lt
  have hzB := BB2.out.lt
  clear bA2 bB2 hb2
  go_upto_region 8 with fail
  go_cut [6, 7] (fun p q wx => ∃ (b : Nat) (A5 : Option Addr) (c5 : Nat) (fp5 : List Nat), p = .pointer (some ⟨b, 0, none⟩) ∧ q = .bool z ∧ RVar wx b A5 R c5 fp5 ∧ w2.heap.size ≤ b ∧ (∀ k ∈ fp5, w2.heap.size ≤ k) ∧ fp5.Nodup ∧ Below w2.heap.size w2 wx)
  case first =>
    have a0d : ∀ o, (w2.drew.alloc o).cell? ⟨w.heap.size, 0, none⟩ = some (.slice A ls.length c) := fun o => (((Below.refl w2.heap.size w2).drew.alloc (Nat.le_refl _) o).cell (p := ⟨w.heap.size, 0, none⟩) hzA).trans a0
    have a0e : ∀ o, (w2.alloc o).cell? ⟨w.heap.size, 0, none⟩ = some (.slice A ls.length c) := fun o => (((Below.refl w2.heap.size w2).alloc (Nat.le_refl _) o).cell (p := ⟨w.heap.size, 0, none⟩) hzA).trans a0
    have a1e : ∀ o, (w2.alloc o).cell? ⟨w.heap.size + 1, 0, none⟩ = some (.slice B rs.length d) := fun o => (((Below.refl w2.heap.size w2).alloc (Nat.le_refl _) o).cell (p := ⟨w.heap.size + 1, 0, none⟩) hzB).trans a1
    have a1d : ∀ o, (w2.drew.alloc o).cell? ⟨w.heap.size + 1, 0, none⟩ = some (.slice B rs.length d) := fun o => (((Below.refl w2.heap.size w2).drew.alloc (Nat.le_refl _) o).cell (p := ⟨w.heap.size + 1, 0, none⟩) hzB).trans a1
    go_region_with (first
      | (go_at_call_of 17 (Value.agg #[Value.slice A ls.length c]); refine (toRope_any A ls c _ hl1 (by first | exact HLA2.out | exact HLA2.out.below (((Below.refl w2.heap.size w2).alloc (Nat.le_refl _) _).drew) | exact HLA2.out.below ((Below.refl w2.heap.size w2).drew.alloc (Nat.le_refl _) _))).mono ?_; rintro e y3 ⟨v3, fp3, rfl, how3, _, _, hb3⟩; obtain ⟨A3, c3, rfl, hcc3, _, hD3⟩ := Lay.chunks_rd (Lay.chunks.read how3); have HY3 : Hid (Below w2.heap.size w2 y3) := Lib.hid (below_then (by first | exact (Below.refl w2.heap.size w2).drew | exact ((Below.refl w2.heap.size w2).drew).alloc (Nat.le_refl _) _ | exact ((Below.refl w2.heap.size w2).alloc (Nat.le_refl _) _).drew) hb3); have HD3 := Lib.hid hD3; have HRB3 := Lib.hid (HRB2.out.below HY3.out); have b0 : y3.cell? ⟨w.heap.size, 0, none⟩ = some (.slice A ls.length c) := (HY3.out.cell (p := ⟨w.heap.size, 0, none⟩) hzA).trans a0; have b1 : y3.cell? ⟨w.heap.size + 1, 0, none⟩ = some (.slice B rs.length d) := (HY3.out.cell (p := ⟨w.heap.size + 1, 0, none⟩) hzB).trans a1; have b1a : ∀ o, (y3.alloc o).cell? ⟨w.heap.size + 1, 0, none⟩ = some (.slice B rs.length d) := fun o => (((Below.refl y3.heap.size y3).alloc (Nat.le_refl _) o).cell (p := ⟨w.heap.size + 1, 0, none⟩) (Nat.lt_of_lt_of_le hzB HY3.out.size)).trans b1; (try (have q3 : Hid (Blk y3 w2.heap.size #[.slice none 0 0] 29) := Lib.hid (by first | exact Blk.below (w := (w2.alloc (.cells #[.slice none 0 0] 29)).drew) (Blk.new w2 _ _) hb3 | exact Blk.below (w := w2.drew.alloc (.cells #[.slice none 0 0] 29)) (Blk.new w2.drew _ _) hb3))); clear how3 hD3 hb3)
      | (go_at_call_of 17 (Value.agg #[Value.slice B rs.length d]); refine (toRope_any B rs d _ hl2 (by first | exact HRB3.out | exact HRB3.out.below ((Below.refl y3.heap.size y3).alloc (Nat.le_refl _) _))).mono ?_; rintro e y4 ⟨v4, fp4, rfl, how4, _, _, hb4⟩; obtain ⟨A4, c4, rfl, hcc4, _, hD4⟩ := Lay.chunks_rd (Lay.chunks.read how4); have HX4 : Hid (Below y3.heap.size y3 y4) := Lib.hid (below_then (by first | exact Below.refl y3.heap.size y3 | exact (Below.refl y3.heap.size y3).alloc (Nat.le_refl _) _) hb4); have HY4 := Lib.hid (below_then HY3.out HX4.out); have HD4 := Lib.hid hD4; have HD34 := Lib.hid (HD3.out.below HX4.out); have g0 : y4.cell? ⟨w.heap.size, 0, none⟩ = some (.slice A ls.length c) := (HY4.out.cell (p := ⟨w.heap.size, 0, none⟩) hzA).trans a0; have g1 : y4.cell? ⟨w.heap.size + 1, 0, none⟩ = some (.slice B rs.length d) := (HY4.out.cell (p := ⟨w.heap.size + 1, 0, none⟩) hzB).trans a1; (try (have q4 : Hid (Blk y4 w2.heap.size #[.slice none 0 0] 29) := Lib.hid (q3.out.below HX4.out))); (try (have s4 : Hid (Blk y4 y3.heap.size #[.slice none 0 0] 29) := Lib.hid ((Blk.new y3 _ _).below hb4))); clear how4 hD4 hb4)
      | (go_at_call 39; refine (specRopeJoin_any A3 A4 ls rs c3 c4 _ hn9 hr9 (by first | exact HD34.out | exact HD34.out.below ((Below.refl y4.heap.size y4).alloc (Nat.le_refl _) _)) (by first | exact HD4.out | exact HD4.out.below ((Below.refl y4.heap.size y4).alloc (Nat.le_refl _) _))).mono ?_; rintro e y5 ⟨v5, fp5, rfl, how5, hnd5, hfp5, hb5⟩; rw [HRE.out] at how5; rw [HZE.out]; obtain ⟨A5, c5, rfl, _, _, _⟩ := Lay.chunks_rd (Lay.chunks.read how5); have HX5 : Hid (Below y4.heap.size y4 y5) := Lib.hid (below_then (by first | exact Below.refl y4.heap.size y4 | exact (Below.refl y4.heap.size y4).alloc (Nat.le_refl _) _) hb5); have HY5 := Lib.hid (below_then HY4.out HX5.out); have HO5 := Lib.hid how5; have HN5 := Lib.hid hnd5; have HF5 : Hid (∀ k ∈ fp5, y4.heap.size ≤ k) := Lib.hid (fun k hk => by first | exact hfp5 k hk | (have h9 := hfp5 k hk; simp at h9; omega)); have HFO := Lib.hid hfp5; (try (have q5 : Hid (Blk y5 w2.heap.size #[.slice none 0 0] 29) := Lib.hid (q4.out.below HX5.out); have q5c : y5.cell? ⟨w2.heap.size, 0, none⟩ = some (.slice none 0 0) := q5.out.cell 0; have q5f : y5.frozen? ⟨w2.heap.size, 0, none⟩ = false := q5.out.frozen 0)); (try (have s5 : Hid (Blk y5 y3.heap.size #[.slice none 0 0] 29) := Lib.hid (s4.out.below HX5.out); have s5c : y5.cell? ⟨y3.heap.size, 0, none⟩ = some (.slice none 0 0) := s5.out.cell 0; have s5f : y5.frozen? ⟨y3.heap.size, 0, none⟩ = false := s5.out.frozen 0)); (try (have t5 : Hid (Blk y5 y4.heap.size #[.slice none 0 0] 29) := Lib.hid ((Blk.new y4 _ _).below hb5); have t5c : y5.cell? ⟨y4.heap.size, 0, none⟩ = some (.slice none 0 0) := t5.out.cell 0; have t5f : y5.frozen? ⟨y4.heap.size, 0, none⟩ = false := t5.out.frozen 0)); clear how5 hb5 hfp5 hnd5))
    all_goals
      have z3 := HY3.out.size
      have z4 := HX4.out.size
      have z5 := HX5.out.size
      go_wp2_with fail
      go_meet
      first
        | exact ⟨w2.heap.size, A5, c5, fp5, rfl, rfl, RVar.store q5.out HO5.out (fun h => by have h1 := HF5.out _ h; have h2 := q4.out.lt; omega), Nat.le_refl _, (fun k hk => by have h1 := HF5.out k hk; omega), HN5.out, HY5.out.setCell (p := ⟨w2.heap.size, 0, none⟩) (Nat.le_refl _) _⟩
        | exact ⟨y3.heap.size, A5, c5, fp5, rfl, rfl, RVar.store s5.out HO5.out (fun h => by have h1 := HF5.out _ h; have h2 := s4.out.lt; omega), z3, (fun k hk => by have h1 := HF5.out k hk; omega), HN5.out, HY5.out.setCell (p := ⟨y3.heap.size, 0, none⟩) z3 _⟩
        | exact ⟨y4.heap.size, A5, c5, fp5, rfl, rfl, RVar.store t5.out HO5.out (fun h => by have h1 := HFO.out _ h; simp at h1; omega), Nat.le_trans z3 z4, (fun k hk => by have h1 := HF5.out k hk; omega), HN5.out, HY5.out.setCell (p := ⟨y4.heap.size, 0, none⟩) (Nat.le_trans z3 z4) _⟩
        | exact ⟨y5.heap.size, A5, c5, fp5, rfl, rfl, RVar.new HO5.out, Nat.le_trans z3 (Nat.le_trans z4 z5), (fun k hk => by have h1 := HF5.out k hk; omega), HN5.out, HY5.out.alloc HY5.out.size _⟩
  case rest =>
    obtain ⟨bw, Aw, cw, fw, rfl, rfl, RW, hbw, hfw, hnw, hbel⟩ := hcut
    have BA := Lib.hid (BA2.out.below hbel)
    have BB := Lib.hid (BB2.out.below hbel)
    have HB := Lib.hid (below_then HB2.out hbel)
    have RW := Lib.hid RW
    have hwlt := RW.out.lt
    have HWL := Lib.hid hwlt
    have HFW := Lib.hid hfw
    have z2 : w2.heap.size ≤ wc.heap.size := hbel.size
    have HLc := Lib.hid (hL.below HB.out)
    have kA : wc.cell? ⟨w.heap.size, 0, none⟩ = some (.slice A ls.length c) := BA.out.cell 0
    clear hnw hfw hwlt hbel a0 a1 BA2 BB2 HB2 HLA2 HRB2
    -- the copies of the arguments
    go_wp2_with fail
    refine (toRope_any A ls c _ hl1 (by exact HLc.out)).mono ?_
    rintro e y6 ⟨v6, fx, rfl, how6, hnx, hfx, hb6⟩
    obtain ⟨Ax, cx, rfl, hcx, _, _⟩ := Lay.chunks_rd (Lay.chunks.read how6)
    have hal := (Below.refl y6.heap.size y6).alloc (Nat.le_refl _) (.cells #[.slice Ax ls.length cx] 29)
    have RX := Lib.hid (RVar.new how6)
    have HXL := Lib.hid (Lay.chunks.lt how6)
    have HXF := Lib.hid hfx
    have HNX := Lib.hid hnx
    have hb6' := below_then hb6 hal
    have BA := Lib.hid (BA.out.below hb6')
    have BB := Lib.hid (BB.out.below hb6')
    have RW := Lib.hid (RW.out.below hb6')
    have HB := Lib.hid (below_then HB.out hb6')
    have HRc := Lib.hid (hR.below HB.out)
    have z6 := hb6.size
    have hz6 : (y6.alloc (.cells #[.slice Ax ls.length cx] 29)).heap.size = y6.heap.size + 1 := by simp
    have kB : (y6.alloc (.cells #[.slice Ax ls.length cx] 29)).cell? ⟨w.heap.size + 1, 0, none⟩ = some (.slice B rs.length d) := BB.out.cell 0
    clear how6 hnx hfx hb6 hb6' hal HLc kA
    go_wp2_with fail
    generalize y6.alloc (.cells #[.slice Ax ls.length cx] 29) = Y6 at *
    refine (toRope_any B rs d _ hl2 (by exact HRc.out)).mono ?_
    rintro e y7 ⟨v7, fy, rfl, how7, hny, hfy, hb7⟩
    obtain ⟨Ay, cy, rfl, hcy, _, _⟩ := Lay.chunks_rd (Lay.chunks.read how7)
    have hal := (Below.refl y7.heap.size y7).alloc (Nat.le_refl _) (.cells #[.slice Ay rs.length cy] 29)
    have RY := Lib.hid (RVar.new how7)
    have HYL := Lib.hid (Lay.chunks.lt how7)
    have HYF := Lib.hid hfy
    have HNY := Lib.hid hny
    have hb7' := below_then hb7 hal
    have BA := Lib.hid (BA.out.below hb7')
    have BB := Lib.hid (BB.out.below hb7')
    have RW := Lib.hid (RW.out.below hb7')
    have RX := Lib.hid (RX.out.below hb7')
    have HB := Lib.hid (below_then HB.out hb7')
    have HT7 := Lib.hid (hT.below HB.out)
    have z7 := hb7.size
    have hz7 : (y7.alloc (.cells #[.slice Ay rs.length cy] 29)).heap.size = y7.heap.size + 1 := by simp
    have kX : (y7.alloc (.cells #[.slice Ay rs.length cy] 29)).cell? ⟨y6.heap.size, 0, none⟩ = some (.slice Ax ls.length cx) := RX.out.cell
    have kY : (y7.alloc (.cells #[.slice Ay rs.length cy] 29)).cell? ⟨y7.heap.size, 0, none⟩ = some (.slice Ay rs.length cy) := RY.out.cell
    clear how7 hny hfy hb7 hb7' hal HRc kB
    -- the program's answer
    go_wp2_with fail
    generalize y7.alloc (.cells #[.slice Ay rs.length cy] 29) = Y7 at *
    refine (implRopeJoin_any Ax Ay ls rs cx cy _ hcx hcy (by omega) (by exact HT7.out) (by exact RX.out.cs) (by exact RY.out.cs)).mono ?_
    rintro e y8 ⟨v8, fg, rfl, how8, hng, hfg, hb8⟩
    rw [HRE.out] at how8
    rw [HZE.out]
    obtain ⟨Ag, cg, rfl, hcg, _, _⟩ := Lay.chunks_rd (Lay.chunks.read how8)
    have hal := (Below.refl y8.heap.size y8).alloc (Nat.le_refl _) (.cells #[.slice Ag R.length cg] 29)
    have RG := Lib.hid (RVar.new how8)
    have HGL := Lib.hid (Lay.chunks.lt how8)
    have HGF := Lib.hid hfg
    have HNG := Lib.hid hng
    have hb8' := below_then hb8 hal
    have BA := Lib.hid (BA.out.below hb8')
    have BB := Lib.hid (BB.out.below hb8')
    have RW := Lib.hid (RW.out.below hb8')
    have RX := Lib.hid (RX.out.below hb8')
    have RY := Lib.hid (RY.out.below hb8')
    have HB := Lib.hid (below_then HB.out hb8')
    have z8 := hb8.size
    have hz8 : (y8.alloc (.cells #[.slice Ag R.length cg] 29)).heap.size = y8.heap.size + 1 := by simp
    have kG : (y8.alloc (.cells #[.slice Ag R.length cg] 29)).cell? ⟨y8.heap.size, 0, none⟩ = some (.slice Ag R.length cg) := RG.out.cell
    have kW : (y8.alloc (.cells #[.slice Ag R.length cg] 29)).cell? ⟨bw, 0, none⟩ = some (.slice Aw R.length cw) := RW.out.cell
    clear how8 hng hfg hb8 hb8' hal HT7 kX kY
    go_wp2_with fail
    generalize y8.alloc (.cells #[.slice Ag R.length cg] 29) = Y8 at *
    refine (eqRope_any Ag Aw R R cg cw _ (by omega) (by exact RG.out.cs) (by exact RW.out.cs)).mono ?_
    rintro e y9 ⟨rfl, hb9⟩
    rw [decide_eq_true (rfl : R = R)]
    have BA := Lib.hid (BA.out.below hb9)
    have BB := Lib.hid (BB.out.below hb9)
    have RW := Lib.hid (RW.out.below hb9)
    have RX := Lib.hid (RX.out.below hb9)
    have RY := Lib.hid (RY.out.below hb9)
    have RG := Lib.hid (RG.out.below hb9)
    have HB := Lib.hid (below_then HB.out hb9)
    have z9 := hb9.size
    have HLc := Lib.hid (hL.below HB.out)
    have HXC := Lib.hid RX.out.cs
    have hsA := BA.out.lt
    have hsX := RX.out.lt.1
    have p0 : y9.cell? ⟨w.heap.size, 0, none⟩ = some (.slice A ls.length c) := BA.out.cell 0
    have x0 : y9.cell? ⟨y6.heap.size, 0, none⟩ = some (.slice Ax ls.length cx) := RX.out.cell
    clear hb9 kG kW
    -- the arguments' copies are unchanged
    go_wp2_with fail
    go_region_held3 (fun V => V.cell? ⟨w.heap.size, 0, none⟩ = some (.slice A ls.length c) ∧ V.cell? ⟨y6.heap.size, 0, none⟩ = some (.slice Ax ls.length cx)) (exact ⟨(by first | exact p0 | exact p1 | exact p2), (by first | exact x0 | exact x1 | exact x2)⟩) (first
      | (go_at_call 17; refine (toRope_any A ls c _ hl1 (by exact HLc.out)).mono ?_; rintro e y10 ⟨v10, fp10, rfl, how10, _, _, hb10⟩; have hb10 : Below y9.heap.size y9 y10 := ⟨hb10.os, hb10.tape, hb10.output, hb10.size, hb10.block⟩; obtain ⟨A10, c10, rfl, _, _, hE10⟩ := Lay.chunks_rd (Lay.chunks.read how10); have p1 := (hb10.cell (p := ⟨w.heap.size, 0, none⟩) hsA).trans p0; have x1 := (hb10.cell (p := ⟨y6.heap.size, 0, none⟩) hsX).trans x0; have HXC2 := Lib.hid (HXC.out.below hb10); have HE10 := Lib.hid hE10; have hsA1 := Nat.lt_of_lt_of_le hsA hb10.size; have hsX1 := Nat.lt_of_lt_of_le hsX hb10.size; have HB10 := Lib.hid hb10; clear how10 hE10 hb10)
      | (go_at_call 19; refine (eqRope_any Ax A10 ls ls cx c10 _ hn9 (by exact HXC2.out) (by exact HE10.out)).mono ?_; rintro e y11 ⟨rfl, hb11⟩; have hb11 : Below y10.heap.size y10 y11 := ⟨hb11.os, hb11.tape, hb11.output, hb11.size, hb11.block⟩; rw [decide_eq_true (rfl : ls = ls)]; have p2 := (hb11.cell (p := ⟨w.heap.size, 0, none⟩) hsA1).trans p1; have x2 := (hb11.cell (p := ⟨y6.heap.size, 0, none⟩) hsX1).trans x1; have HB11 := Lib.hid (below_then HB10.out hb11); clear hb11))
    have BA := Lib.hid (BA.out.below HB11.out)
    have BB := Lib.hid (BB.out.below HB11.out)
    have RW := Lib.hid (RW.out.below HB11.out)
    have RX := Lib.hid (RX.out.below HB11.out)
    have RY := Lib.hid (RY.out.below HB11.out)
    have RG := Lib.hid (RG.out.below HB11.out)
    have HB := Lib.hid (below_then HB.out HB11.out)
    have z11 := HB11.out.size
    have HRc := Lib.hid (hR.below HB.out)
    have HYC := Lib.hid RY.out.cs
    have hsB := BB.out.lt
    have hsY := RY.out.lt.1
    have q0 : y11.cell? ⟨w.heap.size + 1, 0, none⟩ = some (.slice B rs.length d) := BB.out.cell 0
    have w0 : y11.cell? ⟨y7.heap.size, 0, none⟩ = some (.slice Ay rs.length cy) := RY.out.cell
    clear p0 p1 p2 x0 x1 x2 hsA hsX hsA1 hsX1 HXC HXC2 HE10 HB10 HB11 HLc
    go_wp2_with fail
    go_region_held3 (fun V => V.cell? ⟨w.heap.size + 1, 0, none⟩ = some (.slice B rs.length d) ∧ V.cell? ⟨y7.heap.size, 0, none⟩ = some (.slice Ay rs.length cy)) (exact ⟨(by first | exact q0 | exact q1 | exact q2), (by first | exact w0 | exact w1' | exact w2')⟩) (first
      | (go_at_call 17; refine (toRope_any B rs d _ hl2 (by exact HRc.out)).mono ?_; rintro e y12 ⟨v12, fp12, rfl, how12, _, _, hb12⟩; have hb12 : Below y11.heap.size y11 y12 := ⟨hb12.os, hb12.tape, hb12.output, hb12.size, hb12.block⟩; obtain ⟨A12, c12, rfl, _, _, hE12⟩ := Lay.chunks_rd (Lay.chunks.read how12); have q1 := (hb12.cell (p := ⟨w.heap.size + 1, 0, none⟩) hsB).trans q0; have w1' := (hb12.cell (p := ⟨y7.heap.size, 0, none⟩) hsY).trans w0; have HYC2 := Lib.hid (HYC.out.below hb12); have HE12 := Lib.hid hE12; have hsB1 := Nat.lt_of_lt_of_le hsB hb12.size; have hsY1 := Nat.lt_of_lt_of_le hsY hb12.size; have HB12 := Lib.hid hb12; clear how12 hE12 hb12)
      | (go_at_call 19; refine (eqRope_any Ay A12 rs rs cy c12 _ hr9 (by exact HYC2.out) (by exact HE12.out)).mono ?_; rintro e y13 ⟨rfl, hb13⟩; have hb13 : Below y12.heap.size y12 y13 := ⟨hb13.os, hb13.tape, hb13.output, hb13.size, hb13.block⟩; rw [decide_eq_true (rfl : rs = rs)]; have q2 := (hb13.cell (p := ⟨w.heap.size + 1, 0, none⟩) hsB1).trans q1; have w2' := (hb13.cell (p := ⟨y7.heap.size, 0, none⟩) hsY1).trans w1'; have HB13 := Lib.hid (below_then HB12.out hb13); clear hb13))
    have BA := Lib.hid (BA.out.below HB13.out)
    have BB := Lib.hid (BB.out.below HB13.out)
    have RW := Lib.hid (RW.out.below HB13.out)
    have RX := Lib.hid (RX.out.below HB13.out)
    have RY := Lib.hid (RY.out.below HB13.out)
    have RG := Lib.hid (RG.out.below HB13.out)
    have HB := Lib.hid (below_then HB.out HB13.out)
    have z13 := HB13.out.size
    have zB := HB.out.size
    have kX : y13.cell? ⟨y6.heap.size, 0, none⟩ = some (.slice Ax ls.length cx) := RX.out.cell
    clear q0 q1 q2 w0 w1' w2' hsB hsY hsB1 hsY1 HYC HYC2 HE12 HB12 HB13 HRc
    -- marks in the arguments' copies
    go_wp2_with fail
    refine (markRope_any _ ls fx 1 _ (by omega) (by omega) HNX.out (by exact RX.out.ow)).mono ?_
    rintro e y14 ⟨rfl, _, hke⟩
    have BB := Lib.hid (BB.out.of_block (hke.block _ BB.out.lt (fun h => by have h1 := HXF.out _ h; omega)))
    have BA := Lib.hid (BA.out.of_block (hke.block _ BA.out.lt (fun h => by have h1 := HXF.out _ h; omega)))
    have RW := Lib.hid (RW.out.keeps hke (fun h => by have h1 := HXF.out _ h; have h2 := HWL.out.1; omega) (fun k hk h => by have h1 := HXF.out _ h; have h2 := HWL.out.2 k hk; omega))
    have RY := Lib.hid (RY.out.keeps hke (fun h => by have h1 := HXL.out _ h; omega) (fun k hk h => by have h1 := HXL.out _ h; have h2 := HYF.out k hk; omega))
    have RG := Lib.hid (RG.out.keeps hke (fun h => by have h1 := HXL.out _ h; omega) (fun k hk h => by have h1 := HXL.out _ h; have h2 := HGF.out k hk; omega))
    have HB := Lib.hid (HB.out.trans (hke.below (B := w.heap.size) HB.out.size (fun k hk => by have h1 := HXF.out k hk; omega)))
    have z14 := hke.size
    have kY : y14.cell? ⟨y7.heap.size, 0, none⟩ = some (.slice Ay rs.length cy) := RY.out.cell
    clear hke kX RX
    go_wp2_with fail
    refine (markRope_any _ rs fy (1 + tot ls) _ (by omega) (by omega) HNY.out (by exact RY.out.ow)).mono ?_
    rintro e y15 ⟨rfl, _, hke⟩
    have BB := Lib.hid (BB.out.of_block (hke.block _ BB.out.lt (fun h => by have h1 := HYF.out _ h; omega)))
    have BA := Lib.hid (BA.out.of_block (hke.block _ BA.out.lt (fun h => by have h1 := HYF.out _ h; omega)))
    have RW := Lib.hid (RW.out.keeps hke (fun h => by have h1 := HYF.out _ h; have h2 := HWL.out.1; omega) (fun k hk h => by have h1 := HYF.out _ h; have h2 := HWL.out.2 k hk; omega))
    have RG := Lib.hid (RG.out.keeps hke (fun h => by have h1 := HYL.out _ h; omega) (fun k hk h => by have h1 := HYL.out _ h; have h2 := HGF.out k hk; omega))
    have HB := Lib.hid (HB.out.trans (hke.below (B := w.heap.size) HB.out.size (fun k hk => by have h1 := HYF.out k hk; omega)))
    have z15 := hke.size
    have kG : y15.cell? ⟨y8.heap.size, 0, none⟩ = some (.slice Ag R.length cg) := RG.out.cell
    have kW : y15.cell? ⟨bw, 0, none⟩ = some (.slice Aw R.length cw) := RW.out.cell
    obtain ⟨K, hK, hK0⟩ : ∃ K : Int, ((1 + tot ls + tot rs : Nat) : Int) = K ∧ ¬ K < 0 := ⟨_, rfl, by omega⟩
    have hKd : decide (K < 0) = false := decide_eq_false hK0
    rw [hK]
    clear hke kY RY hK hK0
    go_wp2_with fail
    refine (eqRope_any Ag Aw R R cg cw _ (by omega) (by exact RG.out.cs) (by exact RW.out.cs)).mono ?_
    rintro e y16 ⟨rfl, hb16⟩
    rw [decide_eq_true (rfl : R = R)]
    have BA := Lib.hid (BA.out.below hb16)
    have BB := Lib.hid (BB.out.below hb16)
    have RW := Lib.hid (RW.out.below hb16)
    have RG := Lib.hid (RG.out.below hb16)
    have HB := Lib.hid (below_then HB.out hb16)
    have z16 := hb16.size
    have kG : y16.cell? ⟨y8.heap.size, 0, none⟩ = some (.slice Ag R.length cg) := RG.out.cell
    clear hb16 kW
    -- marks in the answer
    go_wp2_with fail
    refine (markRope_any _ R fg 1 _ (by omega) (by omega) HNG.out (by exact RG.out.ow)).mono ?_
    rintro e y17 ⟨rfl, how17, hke⟩
    have BB := Lib.hid (BB.out.of_block (hke.block _ BB.out.lt (fun h => by have h1 := HGF.out _ h; omega)))
    have BA := Lib.hid (BA.out.of_block (hke.block _ BA.out.lt (fun h => by have h1 := HGF.out _ h; omega)))
    have RW := Lib.hid (RW.out.keeps hke (fun h => by have h1 := HGF.out _ h; have h2 := HWL.out.1; omega) (fun k hk h => by have h1 := HGF.out _ h; have h2 := HWL.out.2 k hk; omega))
    have GB := Lib.hid (RG.out.blk.of_block (hke.block _ RG.out.blk.lt (fun h => by have h1 := HGL.out _ h; omega)))
    have HB := Lib.hid (HB.out.trans (hke.below (B := w.heap.size) HB.out.size (fun k hk => by have h1 := HGF.out k hk; omega)))
    have z17 := hke.size
    have hlenM : (marksC 1 R).length = R.length := marksC_length 1 R
    obtain ⟨Ag', cg', eg, _, _, hM⟩ := Lay.chunks_rd (Lay.chunks.read how17)
    rw [hlenM] at eg
    simp only [Value.slice.injEq, true_and] at eg
    obtain ⟨rfl, rfl⟩ := eg
    have HM := Lib.hid hM
    have kG : y17.cell? ⟨y8.heap.size, 0, none⟩ = some (.slice Ag R.length cg) := GB.out.cell 0
    clear hke hM how17 RG
    go_wp2_with fail
    refine (heldRope_any Ag R cg 1 _ (by omega) (by omega) (by exact HM.out)).mono ?_
    rintro e y18 ⟨rfl, hb18⟩
    have BA := Lib.hid (BA.out.below hb18)
    have BB := Lib.hid (BB.out.below hb18)
    have RW := Lib.hid (RW.out.below hb18)
    have GB := Lib.hid (GB.out.below hb18)
    have HM := Lib.hid (HM.out.below hb18)
    have HB := Lib.hid (below_then HB.out hb18)
    have HLe := Lib.hid (hL.below HB.out)
    have HRe := Lib.hid (hR.below HB.out)
    have HTe := Lib.hid (hT.below HB.out)
    have hzA' := BA.out.lt
    have hzB' := BB.out.lt
    have a0 : y18.cell? ⟨w.heap.size, 0, none⟩ = some (.slice A ls.length c) := BA.out.cell 0
    have a1 : y18.cell? ⟨w.heap.size + 1, 0, none⟩ = some (.slice B rs.length d) := BB.out.cell 0
    clear hb18 kG hzA hzB
    have hzA := hzA'
    have hzB := hzB'
    clear hzA' hzB'
    -- once more
    go_upto_region 31 with fail
    go_cut [15, 16] (fun p q wx => ∃ (b : Nat) (A5 : Option Addr) (c5 : Nat) (fp5 : List Nat), p = .pointer (some ⟨b, 0, none⟩) ∧ q = .bool z ∧ RVar wx b A5 R c5 fp5 ∧ y18.heap.size ≤ b ∧ (∀ k ∈ fp5, y18.heap.size ≤ k) ∧ fp5.Nodup ∧ Below y18.heap.size y18 wx)
    case first =>
      have a0d : ∀ o, (y18.drew.alloc o).cell? ⟨w.heap.size, 0, none⟩ = some (.slice A ls.length c) := fun o => (((Below.refl y18.heap.size y18).drew.alloc (Nat.le_refl _) o).cell (p := ⟨w.heap.size, 0, none⟩) hzA).trans a0
      have a0e : ∀ o, (y18.alloc o).cell? ⟨w.heap.size, 0, none⟩ = some (.slice A ls.length c) := fun o => (((Below.refl y18.heap.size y18).alloc (Nat.le_refl _) o).cell (p := ⟨w.heap.size, 0, none⟩) hzA).trans a0
      have a1e : ∀ o, (y18.alloc o).cell? ⟨w.heap.size + 1, 0, none⟩ = some (.slice B rs.length d) := fun o => (((Below.refl y18.heap.size y18).alloc (Nat.le_refl _) o).cell (p := ⟨w.heap.size + 1, 0, none⟩) hzB).trans a1
      have a1d : ∀ o, (y18.drew.alloc o).cell? ⟨w.heap.size + 1, 0, none⟩ = some (.slice B rs.length d) := fun o => (((Below.refl y18.heap.size y18).drew.alloc (Nat.le_refl _) o).cell (p := ⟨w.heap.size + 1, 0, none⟩) hzB).trans a1
      go_region_with (first
        | (go_at_call_of 17 (Value.agg #[Value.slice A ls.length c]); refine (toRope_any A ls c _ hl1 (by first | exact HLe.out | exact HLe.out.below (((Below.refl y18.heap.size y18).alloc (Nat.le_refl _) _).drew) | exact HLe.out.below ((Below.refl y18.heap.size y18).drew.alloc (Nat.le_refl _) _))).mono ?_; rintro e y3 ⟨v3, fp3, rfl, how3, _, _, hb3⟩; obtain ⟨A3, c3, rfl, hcc3, _, hD3⟩ := Lay.chunks_rd (Lay.chunks.read how3); have HY3 : Hid (Below y18.heap.size y18 y3) := Lib.hid (below_then (by first | exact (Below.refl y18.heap.size y18).drew | exact ((Below.refl y18.heap.size y18).drew).alloc (Nat.le_refl _) _ | exact ((Below.refl y18.heap.size y18).alloc (Nat.le_refl _) _).drew) hb3); have HD3 := Lib.hid hD3; have HRB3 := Lib.hid (HRe.out.below HY3.out); have b0 : y3.cell? ⟨w.heap.size, 0, none⟩ = some (.slice A ls.length c) := (HY3.out.cell (p := ⟨w.heap.size, 0, none⟩) hzA).trans a0; have b1 : y3.cell? ⟨w.heap.size + 1, 0, none⟩ = some (.slice B rs.length d) := (HY3.out.cell (p := ⟨w.heap.size + 1, 0, none⟩) hzB).trans a1; have b1a : ∀ o, (y3.alloc o).cell? ⟨w.heap.size + 1, 0, none⟩ = some (.slice B rs.length d) := fun o => (((Below.refl y3.heap.size y3).alloc (Nat.le_refl _) o).cell (p := ⟨w.heap.size + 1, 0, none⟩) (Nat.lt_of_lt_of_le hzB HY3.out.size)).trans b1; (try (have q3 : Hid (Blk y3 y18.heap.size #[.slice none 0 0] 29) := Lib.hid (by first | exact Blk.below (w := (y18.alloc (.cells #[.slice none 0 0] 29)).drew) (Blk.new y18 _ _) hb3 | exact Blk.below (w := y18.drew.alloc (.cells #[.slice none 0 0] 29)) (Blk.new y18.drew _ _) hb3))); clear how3 hD3 hb3)
        | (go_at_call_of 17 (Value.agg #[Value.slice B rs.length d]); refine (toRope_any B rs d _ hl2 (by first | exact HRB3.out | exact HRB3.out.below ((Below.refl y3.heap.size y3).alloc (Nat.le_refl _) _))).mono ?_; rintro e y4 ⟨v4, fp4, rfl, how4, _, _, hb4⟩; obtain ⟨A4, c4, rfl, hcc4, _, hD4⟩ := Lay.chunks_rd (Lay.chunks.read how4); have HX4 : Hid (Below y3.heap.size y3 y4) := Lib.hid (below_then (by first | exact Below.refl y3.heap.size y3 | exact (Below.refl y3.heap.size y3).alloc (Nat.le_refl _) _) hb4); have HY4 := Lib.hid (below_then HY3.out HX4.out); have HD4 := Lib.hid hD4; have HD34 := Lib.hid (HD3.out.below HX4.out); have g0 : y4.cell? ⟨w.heap.size, 0, none⟩ = some (.slice A ls.length c) := (HY4.out.cell (p := ⟨w.heap.size, 0, none⟩) hzA).trans a0; have g1 : y4.cell? ⟨w.heap.size + 1, 0, none⟩ = some (.slice B rs.length d) := (HY4.out.cell (p := ⟨w.heap.size + 1, 0, none⟩) hzB).trans a1; (try (have q4 : Hid (Blk y4 y18.heap.size #[.slice none 0 0] 29) := Lib.hid (q3.out.below HX4.out))); (try (have s4 : Hid (Blk y4 y3.heap.size #[.slice none 0 0] 29) := Lib.hid ((Blk.new y3 _ _).below hb4))); clear how4 hD4 hb4)
        | (have HT4 := Lib.hid (HTe.out.below HY4.out); go_at_call 40; refine (implRopeJoin_any A3 A4 ls rs c3 c4 _ hcc3 hcc4 (by omega) (by first | exact HT4.out | exact HT4.out.below ((Below.refl y4.heap.size y4).alloc (Nat.le_refl _) _)) (by first | exact HD34.out | exact HD34.out.below ((Below.refl y4.heap.size y4).alloc (Nat.le_refl _) _)) (by first | exact HD4.out | exact HD4.out.below ((Below.refl y4.heap.size y4).alloc (Nat.le_refl _) _))).mono ?_; rintro e y5 ⟨v5, fp5, rfl, how5, hnd5, hfp5, hb5⟩; rw [HRE.out] at how5; rw [HZE.out]; obtain ⟨A5, c5, rfl, _, _, _⟩ := Lay.chunks_rd (Lay.chunks.read how5); have HX5 : Hid (Below y4.heap.size y4 y5) := Lib.hid (below_then (by first | exact Below.refl y4.heap.size y4 | exact (Below.refl y4.heap.size y4).alloc (Nat.le_refl _) _) hb5); have HY5 := Lib.hid (below_then HY4.out HX5.out); have HO5 := Lib.hid how5; have HN5 := Lib.hid hnd5; have HF5 : Hid (∀ k ∈ fp5, y4.heap.size ≤ k) := Lib.hid (fun k hk => by first | exact hfp5 k hk | (have h9 := hfp5 k hk; simp at h9; omega)); have HFO := Lib.hid hfp5; (try (have q5 : Hid (Blk y5 y18.heap.size #[.slice none 0 0] 29) := Lib.hid (q4.out.below HX5.out); have q5c : y5.cell? ⟨y18.heap.size, 0, none⟩ = some (.slice none 0 0) := q5.out.cell 0; have q5f : y5.frozen? ⟨y18.heap.size, 0, none⟩ = false := q5.out.frozen 0)); (try (have s5 : Hid (Blk y5 y3.heap.size #[.slice none 0 0] 29) := Lib.hid (s4.out.below HX5.out); have s5c : y5.cell? ⟨y3.heap.size, 0, none⟩ = some (.slice none 0 0) := s5.out.cell 0; have s5f : y5.frozen? ⟨y3.heap.size, 0, none⟩ = false := s5.out.frozen 0)); (try (have t5 : Hid (Blk y5 y4.heap.size #[.slice none 0 0] 29) := Lib.hid ((Blk.new y4 _ _).below hb5); have t5c : y5.cell? ⟨y4.heap.size, 0, none⟩ = some (.slice none 0 0) := t5.out.cell 0; have t5f : y5.frozen? ⟨y4.heap.size, 0, none⟩ = false := t5.out.frozen 0)); clear how5 hb5 hfp5 hnd5))
      all_goals
        have z3 := HY3.out.size
        have z4 := HX4.out.size
        have z5 := HX5.out.size
        go_wp2_with fail
        go_meet
        first
          | exact ⟨y18.heap.size, A5, c5, fp5, rfl, rfl, RVar.store q5.out HO5.out (fun h => by have h1 := HF5.out _ h; have h2 := q4.out.lt; omega), Nat.le_refl _, (fun k hk => by have h1 := HF5.out k hk; omega), HN5.out, HY5.out.setCell (p := ⟨y18.heap.size, 0, none⟩) (Nat.le_refl _) _⟩
          | exact ⟨y3.heap.size, A5, c5, fp5, rfl, rfl, RVar.store s5.out HO5.out (fun h => by have h1 := HF5.out _ h; have h2 := s4.out.lt; omega), z3, (fun k hk => by have h1 := HF5.out k hk; omega), HN5.out, HY5.out.setCell (p := ⟨y3.heap.size, 0, none⟩) z3 _⟩
          | exact ⟨y4.heap.size, A5, c5, fp5, rfl, rfl, RVar.store t5.out HO5.out (fun h => by have h1 := HFO.out _ h; simp at h1; omega), Nat.le_trans z3 z4, (fun k hk => by have h1 := HF5.out k hk; omega), HN5.out, HY5.out.setCell (p := ⟨y4.heap.size, 0, none⟩) (Nat.le_trans z3 z4) _⟩
          | exact ⟨y5.heap.size, A5, c5, fp5, rfl, rfl, RVar.new HO5.out, Nat.le_trans z3 (Nat.le_trans z4 z5), (fun k hk => by have h1 := HF5.out k hk; omega), HN5.out, HY5.out.alloc HY5.out.size _⟩
    case rest =>
      obtain ⟨bv, Av, cv, fv, rfl, rfl, RV, hbv, hfv, hnv, hbel⟩ := hcut
      have RW := Lib.hid (RW.out.below hbel)
      have GB := Lib.hid (GB.out.below hbel)
      have HM := Lib.hid (HM.out.below hbel)
      have HB := Lib.hid (below_then HB.out hbel)
      have kV := RV.cell
      have kW := RW.out.cell
      have RV := Lib.hid RV
      clear hbel hfv hnv hbv a0 a1
      go_wp2_with fail
      refine (eqRope_any Av Aw R R cv cw _ (by omega) (by exact RV.out.cs) (by exact RW.out.cs)).mono ?_
      rintro e y19 ⟨rfl, hb19⟩
      rw [decide_eq_true (rfl : R = R)]
      have GB := Lib.hid (GB.out.below hb19)
      have HM := Lib.hid (HM.out.below hb19)
      have HB := Lib.hid (below_then HB.out hb19)
      have kG : y19.cell? ⟨y8.heap.size, 0, none⟩ = some (.slice Ag R.length cg) := GB.out.cell 0
      clear hb19 kV kW
      go_wp2_with fail
      refine (heldRope_any Ag R cg 1 _ (by omega) (by omega) (by exact HM.out)).mono ?_
      rintro e y20 ⟨rfl, hb20⟩
      have hb20 := below_then HB.out hb20
      go_wp2
      go_ret
      exact ⟨rfl, hb20⟩

end Go.Proofs.YtpipkmnmdipeeaaDoor.fnExactRopeJoin
