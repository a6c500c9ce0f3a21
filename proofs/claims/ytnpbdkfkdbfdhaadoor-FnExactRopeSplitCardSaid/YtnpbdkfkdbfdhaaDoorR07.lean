/-
  Chapter 4, RopeSplit in the model and in the program: contracts. Own work.
  Chapter 4, RopeSplit in the model: contract. Own work.
-/
import Derived.Test.YtnpbdkfkdbfdhaaDoorC04b
import Derived.Test.YtnpbdkfkdbfdhaaDoorS07b
import Derived.Test.YtnpbdkfkdbfdhaaDoorP07b
import Derived.Deep.RegionHeld3
import Derived.Deep.DeepCutAuto
namespace Go.Proofs.YtnpbdkfkdbfdhaaDoor
open Go.RowKit P
set_option linter.unusedVariables false
set_option linter.unusedSimpArgs false
set_option maxRecDepth 100000

/-- The parts of a rope that is cut at a. -/
def spA (ls : List (List UInt8)) (a : Int) : List (List UInt8) := if rCut ls a = true then editV ls a ((tot ls : Int) - a) [] else []
def spB (ls : List (List UInt8)) (a : Int) : List (List UInt8) := if rCut ls a = true then editV ls 0 a [] else []
theorem cut_facts {ls : List (List UInt8)} {a : Int} (h : rCut ls a = true) : chunksOk ls = true ∧ chunksText ls = ls.flatten ∧ 0 ≤ a ∧ a ≤ (tot ls : Int) ∧ tot ls ≤ 400 := by
  obtain ⟨h1, k, rfl, h2, _⟩ := rCut_true h
  have h3 := chunksText_ok h1
  have h4 := isText_len (chunksText_isText ls)
  rw [h3] at h2 h4
  unfold tot
  exact ⟨h1, h3, by omega, by omega, h4⟩
theorem editOk_back (ls : List (List UInt8)) (a : Int) : editOk ls 0 a [] = rCut ls a := by
  cases h : rCut ls a
  · cases h2 : editOk ls 0 a []
    · rfl
    · obtain ⟨_, _, _, h4, _⟩ := (editOk_iff ls 0 a []).1 h2
      rw [Int.zero_add, h] at h4
      cases h4
  · obtain ⟨h1, h3, h4, h5, h6⟩ := cut_facts h
    rw [editOk_iff]
    refine ⟨h4, isText_nil, ?_, by rw [Int.zero_add]; exact h, by simp; omega⟩
    unfold rCut
    rw [h1, Bool.true_and]
    have h7 := chunksText_isText ls
    exact isBound_zero _ (isText_ok h7)
theorem editOk_front {ls : List (List UInt8)} {a : Int} (h : rCut ls a = true) : editOk ls a ((tot ls : Int) - a) [] = true := by
  obtain ⟨h1, h3, h4, h5, h6⟩ := cut_facts h
  rw [editOk_iff]
  refine ⟨by omega, isText_nil, h, ?_, by simp; omega⟩
  rw [show a + ((tot ls : Int) - a) = (tot ls : Int) by omega]
  unfold rCut
  rw [h1, Bool.true_and, h3]
  exact isBound_end _
theorem editV_cut {ls : List (List UInt8)} {a m : Int} (h : rCut ls a = false) : editV ls a m [] = [] := by
  unfold editV
  rw [if_neg]
  intro h2
  obtain ⟨_, _, h3, _, _⟩ := (editOk_iff ls a m []).1 h2
  rw [h] at h3
  cases h3
theorem editV_back (ls : List (List UInt8)) (a : Int) : editV ls 0 a [] = spB ls a := by
  unfold spB
  split
  · rfl
  · rename_i h
    unfold editV
    rw [editOk_back, if_neg h]

theorem editV_800 {ls : List (List UInt8)} {a m : Int} {p : List UInt8} (h : editOk ls a m p = true) : (editV ls a m p).length + tot (editV ls a m p) ≤ 800 := by
  obtain ⟨_, _, _, _, _, h6⟩ := editOk_text h
  have h7 := chunksOk_len h6
  have h8 := isText_len (chunksOk_text h6)
  unfold tot
  omega
theorem spA_bd (ls : List (List UInt8)) (a : Int) : (spA ls a).length + tot (spA ls a) ≤ 800 := by
  unfold spA; split
  · rename_i h; exact editV_800 (editOk_front h)
  · simp [tot]
theorem spB_bd (ls : List (List UInt8)) (a : Int) : (spB ls a).length + tot (spB ls a) ≤ 800 := by
  unfold spB; split
  · rename_i h; exact editV_800 (by rw [editOk_back]; exact h)
  · simp [tot]

def Splits (ls : List (List UInt8)) (a : Int) (w : World) (e : Ending) (w' : World) : Prop :=
  ∃ A1 c1 A2 c2 f1 f2, e = .returned (.tuple #[.agg #[.slice A1 (spA ls a).length c1], .agg #[.slice A2 (spB ls a).length c2], .bool (rCut ls a)]) ∧ Lay.chunks.ow w' [.slice A1 (spA ls a).length c1] (spA ls a) f1 ∧ Lay.chunks.ow w' [.slice A2 (spB ls a).length c2] (spB ls a) f2 ∧
    f1.Nodup ∧ f2.Nodup ∧ (∀ k ∈ f1, w.heap.size ≤ k) ∧ (∀ k ∈ f2, w.heap.size ≤ k) ∧ (∀ k ∈ f1, k ∉ f2) ∧ Below w.heap.size w w'
set_option maxHeartbeats 8000000 in
theorem implRopeSplit_any (A : Option Addr) (ls : List (List UInt8)) (c : Nat) (a : Int) (w : World) (hl2 : ls.length ≤ 1048576) (hT : Tab w) (hC : Cs w A ls) (ha : -9223372036854775808 ≤ a ∧ a ≤ 9223372036854775807) :
    Calls Tryd.prog 19 #[.agg #[.slice A ls.length c], .int .i64 a] w (Splits ls a w) := by
  obtain ⟨SA, hSA⟩ : ∃ x, spA ls a = x := ⟨_, rfl⟩
  obtain ⟨SB, hSB⟩ : ∃ x, spB ls a = x := ⟨_, rfl⟩
  obtain ⟨ok, hok⟩ : ∃ x, rCut ls a = x := ⟨_, rfl⟩
  unfold Splits
  rw [hSA, hSB, hok]
  obtain ⟨N, hN⟩ : ∃ x, mB (chunksText ls) = x := ⟨_, rfl⟩
  obtain ⟨m, hm⟩ : ∃ m, IntKind.i64.wrap (N - a) = m := ⟨_, rfl⟩
  have hmr : -9223372036854775808 ≤ m ∧ m ≤ 9223372036854775807 := by rw [← hm, IntKind.wrap_i64]; omega
  have hV1 : editV ls a m [] = SA := by
    rw [← hSA]
    unfold spA
    split
    · rename_i h
      obtain ⟨h1, h3, h4, h5, h6⟩ := cut_facts h
      have hN2 : N = (tot ls : Int) := by
        rw [← hN]
        unfold mB
        rw [chunksText_isText, if_pos rfl, h3]
        rfl
      rw [← hm, hN2, IntWalk.i64_in _ (by omega)]
    · rename_i h
      exact editV_cut (by simpa using h)
  have hV2 : editV ls 0 a [] = SB := by rw [editV_back, hSB]
  have hE2 : editOk ls 0 a [] = ok := by rw [editOk_back, hok]
  have hfd : ∀ y z W, (Instr.field 47 (meas N y z) 0).run Tryd.prog W = .ok (.int .i64 N) W := fun y z W => by kernel_rfl
  have HV1 := Lib.hid hV1
  have HV2 := Lib.hid hV2
  have HE2 := Lib.hid hE2
  have HN := Lib.hid hN
  clear hSA hSB hok hV1 hV2 hE2 hN
  have hb0 := ((((Below.refl w.heap.size w).alloc (Nat.le_refl _) (.cells #[.slice A ls.length c] 38)).alloc (by simp) (.cells #[.slice none 0 0] 38)).alloc (by simp; omega) (.cells #[.slice none 0 0] 38))
  have hb1 : Blk (((w.alloc (.cells #[.slice A ls.length c] 38)).alloc (.cells #[.slice none 0 0] 38)).alloc (.cells #[.slice none 0 0] 38)) w.heap.size #[.slice A ls.length c] 38 := ((Blk.new w #[.slice A ls.length c] 38).alloc (.cells #[.slice none 0 0] 38)).alloc (.cells #[.slice none 0 0] 38)
  have hb2 : Blk (((w.alloc (.cells #[.slice A ls.length c] 38)).alloc (.cells #[.slice none 0 0] 38)).alloc (.cells #[.slice none 0 0] 38)) (w.heap.size + 1) #[.slice none 0 0] 38 := by
    have h9 := (Blk.new (w.alloc (.cells #[.slice A ls.length c] 38)) #[.slice none 0 0] 38).alloc (.cells #[.slice none 0 0] 38)
    simpa using h9
  have hb3 : Blk (((w.alloc (.cells #[.slice A ls.length c] 38)).alloc (.cells #[.slice none 0 0] 38)).alloc (.cells #[.slice none 0 0] 38)) (w.heap.size + 2) #[.slice none 0 0] 38 := by
    have h9 := Blk.new ((w.alloc (.cells #[.slice A ls.length c] 38)).alloc (.cells #[.slice none 0 0] 38)) #[.slice none 0 0] 38
    simpa using h9
  have hC0 := hC.below hb0
  have p0 := hb1.cell 0
  have hT0 := hT.below hb0
  go_enter Tryd.func19, Tryd.ntmps19
  go_wp2_with fail
  generalize ((w.alloc (.cells #[.slice A ls.length c] 38)).alloc (.cells #[.slice none 0 0] 38)).alloc (.cells #[.slice none 0 0] 38) = W0 at *
  have BB1 := Lib.hid hb1
  have BB2 := Lib.hid hb2
  have BB3 := Lib.hid hb3
  have HC := Lib.hid hC0
  have HT := Lib.hid hT0
  have HB0 := Lib.hid hb0
  clear hb1 hb2 hb3 hC0 hT0 hb0 hC hT
  go_upto_region 1 with fail
  go_cut [7] (fun p wx => ∃ (b : Nat) (A1 : Option Addr) (c1 : Nat) (f1 : List Nat), p = .pointer (some ⟨b, 0, none⟩) ∧ Blk wx b #[.slice A1 SA.length c1] 38 ∧ Lay.chunks.ow wx [.slice A1 SA.length c1] SA f1 ∧ f1.Nodup ∧ (∀ k ∈ f1, W0.heap.size ≤ k) ∧ b ∉ f1 ∧ W0.heap.size ≤ b ∧ Below W0.heap.size W0 wx)
  case first =>
    have nH0 : Hid (Below W0.heap.size W0 W0.drew) := Lib.hid (Below.refl W0.heap.size W0).drew
    have nz0 : W0.drew.heap.size = W0.heap.size := World.size_drew W0
    refine wp_region_noPanic ?_
    refine wp_region_held_drew (S := (fun V => V.cell? ⟨w.heap.size, 0, none⟩ = some (.slice A ls.length c))) (by kernel_rfl) (by exact p0) (fun hHeld => ?_)
    refine wpAnyH_take (i := 0) (oi := ?_) (v := ?_) ?_ ?_ ?_ ?_ ?_ ?_ (by exact hHeld) ?_
    rotate_left 2
    · (simp only [List.getElem?_toArray, List.getElem?_cons_zero]; try rfl)
    · kernel_rfl
    · kernel_rfl
    · kernel_rfl
    · exact fun _ _ _ h => h
    · refine Or.inl ⟨by rfl, ?_⟩
      (intro V hSV; (try dsimp only at hSV); have q0 := hSV; go_simp; try with_reducible rfl)
    (try simp only [Act.put, List.setIfInBounds_toArray, List.set_cons_zero, List.set_cons_succ])
    refine wpAnyH_take (i := 1) (oi := ?_) (v := ?_) ?_ ?_ ?_ ?_ ?_ ?_ (by exact hHeld) ?_
    rotate_left 2
    · (simp only [List.getElem?_toArray, List.getElem?_cons_zero, List.getElem?_cons_succ]; try rfl)
    · kernel_rfl
    · kernel_rfl
    · kernel_rfl
    · exact fun _ _ _ h => h
    · refine Or.inl ⟨by rfl, ?_⟩
      (intro V hSV; (try dsimp only at hSV); have q0 := hSV; go_simp; try with_reducible rfl)
    (try simp only [Act.put, List.setIfInBounds_toArray, List.set_cons_zero, List.set_cons_succ])
    refine wpAnyH_take (i := 2) (oi := ?_) (v := ?_) ?_ ?_ ?_ ?_ ?_ ?_ (by exact hHeld) ?_
    rotate_left 2
    · (simp only [List.getElem?_toArray, List.getElem?_cons_zero, List.getElem?_cons_succ]; try rfl)
    · kernel_rfl
    · kernel_rfl
    · kernel_rfl
    · exact fun _ _ _ h => h
    · refine Or.inl ⟨by rfl, ?_⟩
      (intro V hSV; (try dsimp only at hSV); have q0 := hSV; go_simp; try with_reducible rfl)
    (try simp only [Act.put, List.setIfInBounds_toArray, List.set_cons_zero, List.set_cons_succ])
    refine wpAnyH_take (i := 5) (oi := ?_) (v := ?_) ?_ ?_ ?_ ?_ ?_ ?_ (by exact hHeld) ?_
    rotate_left 2
    · (simp only [List.getElem?_toArray, List.getElem?_cons_zero, List.getElem?_cons_succ]; try rfl)
    · kernel_rfl
    · kernel_rfl
    · kernel_rfl
    · exact fun _ _ _ h => h
    · refine Or.inl ⟨by rfl, ?_⟩
      (intro V hSV; (try dsimp only at hSV); have q0 := hSV; go_simp; try with_reducible rfl)
    (try simp only [Act.put, List.setIfInBounds_toArray, List.set_cons_zero, List.set_cons_succ])
    refine wpAnyH_ready (rs := [3, 11]) (by kernel_rfl) (by simp) ?_
    refine AllReadyH.cons (o := ?_) ?_ (fun K hK => ?_) ?_
    rotate_left 1
    · (simp only [List.getElem?_toArray, List.getElem?_cons_zero, List.getElem?_cons_succ]; try rfl)
    · go_simp
      refine (implRopeMeas_any A ls c _ hl2 (by exact HT.out.below nH0.out) (by exact HC.out.below nH0.out)).mono ?_
      rintro e ny1 ⟨rfl, hb⟩
      rw [HN.out]
      have zY1 := nH0.out.size
      have nH1 := Lib.hid (below_then nH0.out hb)
      clear hb
      go_wp2_with fail
      refine hK.out _ _ (by exact (BB1.out.below nH1.out).cell 0) (fun hHeld => ?_)
      clear hK K
      (try simp only [Act.put, List.setIfInBounds_toArray, List.set_cons_zero, List.set_cons_succ])
      refine wpAnyH_take (i := 4) (oi := ?_) (v := ?_) ?_ ?_ ?_ ?_ ?_ ?_ (by exact hHeld) ?_
      rotate_left 2
      · (simp only [List.getElem?_toArray, List.getElem?_cons_zero, List.getElem?_cons_succ]; try rfl)
      · kernel_rfl
      · kernel_rfl
      · kernel_rfl
      · exact fun _ _ _ h => h
      · refine Or.inl ⟨by rfl, ?_⟩
        (intro V hSV; (try dsimp only at hSV); have q0 := hSV; go_simp; try with_reducible rfl)
      (try simp only [Act.put, List.setIfInBounds_toArray, List.set_cons_zero, List.set_cons_succ])
      refine wpAnyH_take (i := 6) (oi := ?_) (v := ?_) ?_ ?_ ?_ ?_ ?_ ?_ (by exact hHeld) ?_
      rotate_left 2
      · (simp only [List.getElem?_toArray, List.getElem?_cons_zero, List.getElem?_cons_succ]; try rfl)
      · kernel_rfl
      · kernel_rfl
      · kernel_rfl
      · exact fun _ _ _ h => h
      · refine Or.inl ⟨by rfl, ?_⟩
        (intro V hSV; (try dsimp only at hSV); have q0 := hSV; go_simp; try with_reducible rfl)
      (try simp only [Act.put, List.setIfInBounds_toArray, List.set_cons_zero, List.set_cons_succ])
      refine wpAnyH_ready (rs := [7, 11]) (by kernel_rfl) (by simp) ?_
      refine AllReadyH.cons (o := ?_) ?_ (fun K hK => ?_) ?_
      rotate_left 1
      · (simp only [List.getElem?_toArray, List.getElem?_cons_zero, List.getElem?_cons_succ]; try rfl)
      · go_simp
        (try (have zBX := BX.out.lt))
        have zP1 := (nH1.out).size
        refine (implRopeEdit_any A ls c a m none [] 0 _ hl2 (Nat.le_refl _) (by decide) (by exact HT.out.below nH1.out) (by exact HC.out.below nH1.out) (fun k hk => absurd hk (Nat.not_lt_zero _)) ha hmr).mono ?_
        rintro e ny2 ⟨v1, f1, rfl, how1, hnd1, hfp1, hb⟩
        rw [HV1.out] at how1
        obtain ⟨A1, c1, rfl, _, _, _⟩ := Lay.chunks_rd (Lay.chunks.read how1)
        have HOW1 := Lib.hid how1
        have HND1 := Lib.hid hnd1
        have HFP1 := Lib.hid hfp1
        clear how1 hnd1 hfp1
        have zY2 := nH1.out.size
        have nH2 := Lib.hid (below_then nH1.out hb)
        clear hb
        go_wp2_with fail
        refine hK.out _ _ (by exact (BB1.out.below nH2.out).cell 0) (fun hHeld => ?_)
        clear hK K
        (try simp only [Act.put, List.setIfInBounds_toArray, List.set_cons_zero, List.set_cons_succ])
        refine wpAnyH_take (i := 8) (oi := ?_) (v := ?_) ?_ ?_ ?_ ?_ ?_ ?_ (by exact hHeld) ?_
        rotate_left 2
        · (simp only [List.getElem?_toArray, List.getElem?_cons_zero, List.getElem?_cons_succ]; try rfl)
        · kernel_rfl
        · kernel_rfl
        · kernel_rfl
        · exact fun _ _ _ h => h
        · refine Or.inl ⟨by rfl, ?_⟩
          (intro V hSV; (try dsimp only at hSV); have q0 := hSV; go_simp; try with_reducible rfl)
        (try simp only [Act.put, List.setIfInBounds_toArray, List.set_cons_zero, List.set_cons_succ])
        refine wpAnyH_take (i := 9) (oi := ?_) (v := ?_) ?_ ?_ ?_ ?_ ?_ ?_ (by exact hHeld) ?_
        rotate_left 2
        · (simp only [List.getElem?_toArray, List.getElem?_cons_zero, List.getElem?_cons_succ]; try rfl)
        · kernel_rfl
        · kernel_rfl
        · kernel_rfl
        · exact fun _ _ _ h => h
        · refine Or.inl ⟨by rfl, ?_⟩
          (intro V hSV; (try dsimp only at hSV); have q0 := hSV; go_simp; try with_reducible rfl)
        (try simp only [Act.put, List.setIfInBounds_toArray, List.set_cons_zero, List.set_cons_succ])
        refine wpAnyH_take (i := 10) (oi := ?_) (v := ?_) ?_ ?_ ?_ ?_ ?_ ?_ (by exact hHeld) ?_
        rotate_left 2
        · (simp only [List.getElem?_toArray, List.getElem?_cons_zero, List.getElem?_cons_succ]; try rfl)
        · kernel_rfl
        · kernel_rfl
        · kernel_rfl
        · exact fun _ _ _ h => h
        · refine Or.inl ⟨by rfl, ?_⟩
          (intro V hSV; (try dsimp only at hSV); have q0 := hSV; go_simp; try with_reducible rfl)
        (try simp only [Act.put, List.setIfInBounds_toArray, List.set_cons_zero, List.set_cons_succ])
        refine wpAnyH_ready (rs := [11]) (by kernel_rfl) (by simp) ?_
        refine AllReadyH.cons (o := ?_) ?_ (fun K hK => ?_) AllReadyH.nil
        rotate_left 1
        · (simp only [List.getElem?_toArray, List.getElem?_cons_zero, List.getElem?_cons_succ]; try rfl)
        have zA := nH2.out.size
        have nH3 := Lib.hid (nH2.out.alloc nH2.out.size (.cells #[.slice none 0 0] 38))
        go_simp
        refine hK.out _ _ (by exact (BB1.out.below nH3.out).cell 0) (fun hHeld => ?_)
        clear hK K
        (try simp only [Act.put, List.setIfInBounds_toArray, List.set_cons_zero, List.set_cons_succ])
        refine wpAnyH_ready (rs := [12]) (by kernel_rfl) (by simp) ?_
        refine AllReadyH.cons (o := ?_) ?_ (fun K hK => ?_) AllReadyH.nil
        rotate_left 1
        · (simp only [List.getElem?_toArray, List.getElem?_cons_zero, List.getElem?_cons_succ]; try rfl)
        have HF := Lib.hid (nH2.out.alloc nH2.out.size (.cells #[.slice A1 SA.length c1] 38))
        go_simp
        refine hK.out _ _ (by exact (BB1.out.below HF.out).cell 0) (fun hHeld => ?_)
        clear hK K
        (try simp only [Act.put, List.setIfInBounds_toArray, List.set_cons_zero, List.set_cons_succ])
        refine wpAnyH_take (i := 13) (oi := ?_) (v := ?_) ?_ ?_ ?_ ?_ ?_ ?_ (by exact hHeld) ?_
        rotate_left 2
        · (simp only [List.getElem?_toArray, List.getElem?_cons_zero, List.getElem?_cons_succ]; try rfl)
        · kernel_rfl
        · kernel_rfl
        · kernel_rfl
        · exact fun _ _ _ h => h
        · refine Or.inl ⟨by rfl, ?_⟩
          (intro V hSV; (try dsimp only at hSV); have q0 := hSV; go_simp; try with_reducible rfl)
        (try simp only [Act.put, List.setIfInBounds_toArray, List.set_cons_zero, List.set_cons_succ])
        refine wpAnyH_done (by kernel_rfl) ?_ _
        refine NoPanic.normal ?_
        go_wp2_with fail
        go_meet
        have BF := Lib.hid (Blk.new ny2 #[.slice A1 SA.length c1] 38)
        have zF := nH2.out.size
        exact ⟨ny2.heap.size, A1, c1, f1, rfl, BF.out, Lay.chunks.owBelow HOW1.out ((Below.refl _ _).alloc (Nat.le_refl _) _), HND1.out, (fun k hk => by have h1 := HFP1.out k hk; omega), (fun hm => by have h1 := Lay.chunks.lt HOW1.out _ hm; omega), by omega, HF.out⟩
      refine AllReadyH.cons (o := ?_) ?_ (fun K hK => ?_) AllReadyH.nil
      rotate_left 1
      · (simp only [List.getElem?_toArray, List.getElem?_cons_zero, List.getElem?_cons_succ]; try rfl)
      have zA := nH1.out.size
      have nH2 := Lib.hid (nH1.out.alloc nH1.out.size (.cells #[.slice none 0 0] 38))
      have BX := Lib.hid (Blk.new (ny1) #[.slice none 0 0] 38)
      go_simp
      refine hK.out _ _ (by exact (BB1.out.below nH2.out).cell 0) (fun hHeld => ?_)
      clear hK K
      (try simp only [Act.put, List.setIfInBounds_toArray, List.set_cons_zero, List.set_cons_succ])
      refine wpAnyH_ready (rs := [7]) (by kernel_rfl) (by simp) ?_
      refine AllReadyH.cons (o := ?_) ?_ (fun K hK => ?_) AllReadyH.nil
      rotate_left 1
      · (simp only [List.getElem?_toArray, List.getElem?_cons_zero, List.getElem?_cons_succ]; try rfl)
      go_simp
      (try (have zBX := BX.out.lt))
      have zP1 := (nH2.out).size
      refine (implRopeEdit_any A ls c a m none [] 0 _ hl2 (Nat.le_refl _) (by decide) (by exact HT.out.below nH2.out) (by exact HC.out.below nH2.out) (fun k hk => absurd hk (Nat.not_lt_zero _)) ha hmr).mono ?_
      rintro e ny2 ⟨v1, f1, rfl, how1, hnd1, hfp1, hb⟩
      rw [HV1.out] at how1
      obtain ⟨A1, c1, rfl, _, _, _⟩ := Lay.chunks_rd (Lay.chunks.read how1)
      have HOW1 := Lib.hid how1
      have HND1 := Lib.hid hnd1
      have HFP1 := Lib.hid hfp1
      clear how1 hnd1 hfp1
      have zY3 := nH2.out.size
      have nH3 := Lib.hid (below_then nH2.out hb)
      have BX := Lib.hid (BX.out.below hb)
      clear hb
      go_wp2_with fail
      refine hK.out _ _ (by exact (BB1.out.below nH3.out).cell 0) (fun hHeld => ?_)
      clear hK K
      (try simp only [Act.put, List.setIfInBounds_toArray, List.set_cons_zero, List.set_cons_succ])
      refine wpAnyH_take (i := 8) (oi := ?_) (v := ?_) ?_ ?_ ?_ ?_ ?_ ?_ (by exact hHeld) ?_
      rotate_left 2
      · (simp only [List.getElem?_toArray, List.getElem?_cons_zero, List.getElem?_cons_succ]; try rfl)
      · kernel_rfl
      · kernel_rfl
      · kernel_rfl
      · exact fun _ _ _ h => h
      · refine Or.inl ⟨by rfl, ?_⟩
        (intro V hSV; (try dsimp only at hSV); have q0 := hSV; go_simp; try with_reducible rfl)
      (try simp only [Act.put, List.setIfInBounds_toArray, List.set_cons_zero, List.set_cons_succ])
      refine wpAnyH_take (i := 9) (oi := ?_) (v := ?_) ?_ ?_ ?_ ?_ ?_ ?_ (by exact hHeld) ?_
      rotate_left 2
      · (simp only [List.getElem?_toArray, List.getElem?_cons_zero, List.getElem?_cons_succ]; try rfl)
      · kernel_rfl
      · kernel_rfl
      · kernel_rfl
      · exact fun _ _ _ h => h
      · refine Or.inl ⟨by rfl, ?_⟩
        (intro V hSV; (try dsimp only at hSV); have q0 := hSV; go_simp; try with_reducible rfl)
      (try simp only [Act.put, List.setIfInBounds_toArray, List.set_cons_zero, List.set_cons_succ])
      refine wpAnyH_take (i := 10) (oi := ?_) (v := ?_) ?_ ?_ ?_ ?_ ?_ ?_ (by exact hHeld) ?_
      rotate_left 2
      · (simp only [List.getElem?_toArray, List.getElem?_cons_zero, List.getElem?_cons_succ]; try rfl)
      · kernel_rfl
      · kernel_rfl
      · kernel_rfl
      · exact fun _ _ _ h => h
      · refine Or.inl ⟨by rfl, ?_⟩
        (intro V hSV; (try dsimp only at hSV); have q0 := hSV; go_simp; try with_reducible rfl)
      (try simp only [Act.put, List.setIfInBounds_toArray, List.set_cons_zero, List.set_cons_succ])
      have zB := BX.out.lt
      have nb0 := BB1.out.lt
      have g0 := BX.out.cell 0
      have f0 := BX.out.frozen 0
      have zz9 : W0.heap.size ≤ ny1.heap.size := by first | exact Nat.le_refl _ | omega
      have BF : Hid (Blk ((ny2.setCell ⟨ny1.heap.size, 0, none⟩ (.slice A1 SA.length c1))) ny1.heap.size #[.slice A1 SA.length c1] 38) := Lib.hid (by simpa using (BX.out.set 0 (.slice A1 SA.length c1)))
      have HF : Hid (Below W0.heap.size W0 ((ny2.setCell ⟨ny1.heap.size, 0, none⟩ (.slice A1 SA.length c1)))) := Lib.hid (nH3.out.setCell (p := ⟨ny1.heap.size, 0, none⟩) (by omega) (.slice A1 SA.length c1))
      refine wpAnyH_ready (rs := [12]) (by kernel_rfl) (by simp) ?_
      refine AllReadyH.cons (o := ?_) ?_ (fun K hK => ?_) AllReadyH.nil
      rotate_left 1
      · (simp only [List.getElem?_toArray, List.getElem?_cons_zero, List.getElem?_cons_succ]; try rfl)
      go_simp
      refine hK.out _ _ (by exact (BB1.out.below HF.out).cell 0) (fun hHeld => ?_)
      clear hK K
      (try simp only [Act.put, List.setIfInBounds_toArray, List.set_cons_zero, List.set_cons_succ])
      refine wpAnyH_take (i := 13) (oi := ?_) (v := ?_) ?_ ?_ ?_ ?_ ?_ ?_ (by exact hHeld) ?_
      rotate_left 2
      · (simp only [List.getElem?_toArray, List.getElem?_cons_zero, List.getElem?_cons_succ]; try rfl)
      · kernel_rfl
      · kernel_rfl
      · kernel_rfl
      · exact fun _ _ _ h => h
      · refine Or.inl ⟨by rfl, ?_⟩
        (intro V hSV; (try dsimp only at hSV); have q0 := hSV; go_simp; try with_reducible rfl)
      (try simp only [Act.put, List.setIfInBounds_toArray, List.set_cons_zero, List.set_cons_succ])
      refine wpAnyH_done (by kernel_rfl) ?_ _
      refine NoPanic.normal ?_
      go_wp2_with fail
      go_meet
      exact ⟨ny1.heap.size, A1, c1, f1, rfl, BF.out, Lay.chunks_setBelow HOW1.out (a := ⟨ny1.heap.size, 0, none⟩) (fun hm => by have h1 := HFP1.out _ hm; simp only at h1; omega) _, HND1.out, (fun k hk => by have h1 := HFP1.out k hk; omega), (fun hm => by have h1 := HFP1.out _ hm; omega), by omega, HF.out⟩
    refine AllReadyH.cons (o := ?_) ?_ (fun K hK => ?_) AllReadyH.nil
    rotate_left 1
    · (simp only [List.getElem?_toArray, List.getElem?_cons_zero, List.getElem?_cons_succ]; try rfl)
    have zA := nH0.out.size
    have nH1 := Lib.hid (nH0.out.alloc nH0.out.size (.cells #[.slice none 0 0] 38))
    have BX := Lib.hid (Blk.new (W0.drew) #[.slice none 0 0] 38)
    have BX := Lib.hid (show Blk (W0.drew.alloc (.cells #[.slice none 0 0] 38)) W0.heap.size #[.slice none 0 0] 38 from by have h9 := BX.out; rw [World.size_drew] at h9; exact h9)
    go_simp
    refine hK.out _ _ (by exact (BB1.out.below nH1.out).cell 0) (fun hHeld => ?_)
    clear hK K
    (try simp only [Act.put, List.setIfInBounds_toArray, List.set_cons_zero, List.set_cons_succ])
    refine wpAnyH_ready (rs := [3]) (by kernel_rfl) (by simp) ?_
    refine AllReadyH.cons (o := ?_) ?_ (fun K hK => ?_) AllReadyH.nil
    rotate_left 1
    · (simp only [List.getElem?_toArray, List.getElem?_cons_zero, List.getElem?_cons_succ]; try rfl)
    go_simp
    refine (implRopeMeas_any A ls c _ hl2 (by exact HT.out.below nH1.out) (by exact HC.out.below nH1.out)).mono ?_
    rintro e ny1 ⟨rfl, hb⟩
    rw [HN.out]
    have zY2 := nH1.out.size
    have nH2 := Lib.hid (below_then nH1.out hb)
    have BX := Lib.hid (BX.out.below hb)
    clear hb
    go_wp2_with fail
    refine hK.out _ _ (by exact (BB1.out.below nH2.out).cell 0) (fun hHeld => ?_)
    clear hK K
    (try simp only [Act.put, List.setIfInBounds_toArray, List.set_cons_zero, List.set_cons_succ])
    refine wpAnyH_take (i := 4) (oi := ?_) (v := ?_) ?_ ?_ ?_ ?_ ?_ ?_ (by exact hHeld) ?_
    rotate_left 2
    · (simp only [List.getElem?_toArray, List.getElem?_cons_zero, List.getElem?_cons_succ]; try rfl)
    · kernel_rfl
    · kernel_rfl
    · kernel_rfl
    · exact fun _ _ _ h => h
    · refine Or.inl ⟨by rfl, ?_⟩
      (intro V hSV; (try dsimp only at hSV); have q0 := hSV; go_simp; try with_reducible rfl)
    (try simp only [Act.put, List.setIfInBounds_toArray, List.set_cons_zero, List.set_cons_succ])
    refine wpAnyH_take (i := 6) (oi := ?_) (v := ?_) ?_ ?_ ?_ ?_ ?_ ?_ (by exact hHeld) ?_
    rotate_left 2
    · (simp only [List.getElem?_toArray, List.getElem?_cons_zero, List.getElem?_cons_succ]; try rfl)
    · kernel_rfl
    · kernel_rfl
    · kernel_rfl
    · exact fun _ _ _ h => h
    · refine Or.inl ⟨by rfl, ?_⟩
      (intro V hSV; (try dsimp only at hSV); have q0 := hSV; go_simp; try with_reducible rfl)
    (try simp only [Act.put, List.setIfInBounds_toArray, List.set_cons_zero, List.set_cons_succ])
    refine wpAnyH_ready (rs := [7]) (by kernel_rfl) (by simp) ?_
    refine AllReadyH.cons (o := ?_) ?_ (fun K hK => ?_) AllReadyH.nil
    rotate_left 1
    · (simp only [List.getElem?_toArray, List.getElem?_cons_zero, List.getElem?_cons_succ]; try rfl)
    go_simp
    (try (have zBX := BX.out.lt))
    have zP1 := (nH2.out).size
    refine (implRopeEdit_any A ls c a m none [] 0 _ hl2 (Nat.le_refl _) (by decide) (by exact HT.out.below nH2.out) (by exact HC.out.below nH2.out) (fun k hk => absurd hk (Nat.not_lt_zero _)) ha hmr).mono ?_
    rintro e ny2 ⟨v1, f1, rfl, how1, hnd1, hfp1, hb⟩
    rw [HV1.out] at how1
    obtain ⟨A1, c1, rfl, _, _, _⟩ := Lay.chunks_rd (Lay.chunks.read how1)
    have HOW1 := Lib.hid how1
    have HND1 := Lib.hid hnd1
    have HFP1 := Lib.hid hfp1
    clear how1 hnd1 hfp1
    have zY3 := nH2.out.size
    have nH3 := Lib.hid (below_then nH2.out hb)
    have BX := Lib.hid (BX.out.below hb)
    clear hb
    go_wp2_with fail
    refine hK.out _ _ (by exact (BB1.out.below nH3.out).cell 0) (fun hHeld => ?_)
    clear hK K
    (try simp only [Act.put, List.setIfInBounds_toArray, List.set_cons_zero, List.set_cons_succ])
    refine wpAnyH_take (i := 8) (oi := ?_) (v := ?_) ?_ ?_ ?_ ?_ ?_ ?_ (by exact hHeld) ?_
    rotate_left 2
    · (simp only [List.getElem?_toArray, List.getElem?_cons_zero, List.getElem?_cons_succ]; try rfl)
    · kernel_rfl
    · kernel_rfl
    · kernel_rfl
    · exact fun _ _ _ h => h
    · refine Or.inl ⟨by rfl, ?_⟩
      (intro V hSV; (try dsimp only at hSV); have q0 := hSV; go_simp; try with_reducible rfl)
    (try simp only [Act.put, List.setIfInBounds_toArray, List.set_cons_zero, List.set_cons_succ])
    refine wpAnyH_take (i := 9) (oi := ?_) (v := ?_) ?_ ?_ ?_ ?_ ?_ ?_ (by exact hHeld) ?_
    rotate_left 2
    · (simp only [List.getElem?_toArray, List.getElem?_cons_zero, List.getElem?_cons_succ]; try rfl)
    · kernel_rfl
    · kernel_rfl
    · kernel_rfl
    · exact fun _ _ _ h => h
    · refine Or.inl ⟨by rfl, ?_⟩
      (intro V hSV; (try dsimp only at hSV); have q0 := hSV; go_simp; try with_reducible rfl)
    (try simp only [Act.put, List.setIfInBounds_toArray, List.set_cons_zero, List.set_cons_succ])
    refine wpAnyH_take (i := 10) (oi := ?_) (v := ?_) ?_ ?_ ?_ ?_ ?_ ?_ (by exact hHeld) ?_
    rotate_left 2
    · (simp only [List.getElem?_toArray, List.getElem?_cons_zero, List.getElem?_cons_succ]; try rfl)
    · kernel_rfl
    · kernel_rfl
    · kernel_rfl
    · exact fun _ _ _ h => h
    · refine Or.inl ⟨by rfl, ?_⟩
      (intro V hSV; (try dsimp only at hSV); have q0 := hSV; go_simp; try with_reducible rfl)
    (try simp only [Act.put, List.setIfInBounds_toArray, List.set_cons_zero, List.set_cons_succ])
    have zB := BX.out.lt
    have nb0 := BB1.out.lt
    have g0 := BX.out.cell 0
    have f0 := BX.out.frozen 0
    have zz9 : W0.heap.size ≤ W0.heap.size := by first | exact Nat.le_refl _ | omega
    have BF : Hid (Blk ((ny2.setCell ⟨W0.heap.size, 0, none⟩ (.slice A1 SA.length c1))) W0.heap.size #[.slice A1 SA.length c1] 38) := Lib.hid (by simpa using (BX.out.set 0 (.slice A1 SA.length c1)))
    have HF : Hid (Below W0.heap.size W0 ((ny2.setCell ⟨W0.heap.size, 0, none⟩ (.slice A1 SA.length c1)))) := Lib.hid (nH3.out.setCell (p := ⟨W0.heap.size, 0, none⟩) (by omega) (.slice A1 SA.length c1))
    refine wpAnyH_ready (rs := [12]) (by kernel_rfl) (by simp) ?_
    refine AllReadyH.cons (o := ?_) ?_ (fun K hK => ?_) AllReadyH.nil
    rotate_left 1
    · (simp only [List.getElem?_toArray, List.getElem?_cons_zero, List.getElem?_cons_succ]; try rfl)
    go_simp
    refine hK.out _ _ (by exact (BB1.out.below HF.out).cell 0) (fun hHeld => ?_)
    clear hK K
    (try simp only [Act.put, List.setIfInBounds_toArray, List.set_cons_zero, List.set_cons_succ])
    refine wpAnyH_take (i := 13) (oi := ?_) (v := ?_) ?_ ?_ ?_ ?_ ?_ ?_ (by exact hHeld) ?_
    rotate_left 2
    · (simp only [List.getElem?_toArray, List.getElem?_cons_zero, List.getElem?_cons_succ]; try rfl)
    · kernel_rfl
    · kernel_rfl
    · kernel_rfl
    · exact fun _ _ _ h => h
    · refine Or.inl ⟨by rfl, ?_⟩
      (intro V hSV; (try dsimp only at hSV); have q0 := hSV; go_simp; try with_reducible rfl)
    (try simp only [Act.put, List.setIfInBounds_toArray, List.set_cons_zero, List.set_cons_succ])
    refine wpAnyH_done (by kernel_rfl) ?_ _
    refine NoPanic.normal ?_
    go_wp2_with fail
    go_meet
    exact ⟨W0.heap.size, A1, c1, f1, rfl, BF.out, Lay.chunks_setBelow HOW1.out (a := ⟨W0.heap.size, 0, none⟩) (fun hm => by have h1 := HFP1.out _ hm; simp only at h1; omega) _, HND1.out, (fun k hk => by have h1 := HFP1.out k hk; omega), (fun hm => by have h1 := HFP1.out _ hm; omega), by omega, HF.out⟩
  case rest =>
    obtain ⟨ob, A1, c1, f1, rfl, hOB, hO1, hn1, hf1, hob, zob, hb⟩ := hcut
    have OB1 := Lib.hid hOB
    have HO1 := Lib.hid hO1
    have HN1 := Lib.hid hn1
    have HF1 := Lib.hid hf1
    have HOB1 := Lib.hid hob
    have HB1 := Lib.hid hb
    have B1 := Lib.hid (BB1.out.below hb)
    have B2 := Lib.hid (BB2.out.below hb)
    have B3 := Lib.hid (BB3.out.below hb)
    have zc := hb.size
    have HL9 := Lib.hid (Lay.chunks.lt hO1)
    clear hOB hO1 hn1 hf1 hob hb p0
    have p0 := B1.out.cell 0
    go_wp2_with fail
    (try (have zBX := BX.out.lt))
    have zP2 := (HB1.out).size
    refine (implRopeEdit_any A ls c 0 a none [] 0 _ hl2 (Nat.le_refl _) (by decide) (by exact HT.out.below HB1.out) (by exact HC.out.below HB1.out) (fun k hk => absurd hk (Nat.not_lt_zero _)) (by omega) ha).mono ?_
    rintro e y2 ⟨v2, f2, rfl, how2, hnd2, hfp2, hb⟩
    rw [HV2.out] at how2
    obtain ⟨A2, c2, rfl, _, _, _⟩ := Lay.chunks_rd (Lay.chunks.read how2)
    have HOW2 := Lib.hid how2
    have HND2 := Lib.hid hnd2
    have HFP2 := Lib.hid hfp2
    clear how2 hnd2 hfp2
    have zy2 := hb.size
    have hal := (Below.refl y2.heap.size y2).alloc (Nat.le_refl _) (.cells #[.slice A2 SB.length c2] 38)
    have hb5 := below_then hb hal
    have OB1 := Lib.hid (OB1.out.below hb5)
    have HO1 := Lib.hid (Lay.chunks.owBelow HO1.out hb5)
    have B2 := Lib.hid (B2.out.below hb5)
    have B3 := Lib.hid (B3.out.below hb5)
    have HB2 := Lib.hid (below_then HB1.out hb5)
    have OB2 := Lib.hid (Blk.new y2 #[.slice A2 SB.length c2] 38)
    have HO2 := Lib.hid (Lay.chunks.owBelow HOW2.out hal)
    have hL1 := Lib.hid (fun k hk => (Lay.chunks.lt HO1.out k hk))
    have g1 := OB1.out.cell 0
    have g2 := OB2.out.cell 0
    have g3 := B2.out.cell 0
    have g4 := B3.out.cell 0
    have z3 := B3.out.lt
    have z2 := B2.out.lt
    have f3 := B2.out.frozen 0
    have f4 := B3.out.frozen 0
    have hzz : w.heap.size + 2 < W0.heap.size := BB3.out.lt
    clear hb hb5 hal p0
    go_wp2_with fail
    generalize y2.alloc (.cells #[.slice A2 SB.length c2] 38) = Y at *
    go_region
    all_goals go_wp2
    have q4 : Blk (Y.setCell ⟨w.heap.size + 1, 0, none⟩ (.slice A1 SA.length c1)) (w.heap.size + 1) #[.slice A1 SA.length c1] 38 := by simpa using B2.out.set 0 (.slice A1 SA.length c1)
    have q4b := q4.setOther (a := ⟨w.heap.size + 1 + 1, 0, none⟩) (by show w.heap.size + 1 ≠ w.heap.size + 1 + 1; omega) (.slice A2 SB.length c2)
    have r4 : ((Y.setCell ⟨w.heap.size + 1, 0, none⟩ (.slice A1 SA.length c1)).setCell ⟨w.heap.size + 1 + 1, 0, none⟩ (.slice A2 SB.length c2)).cell? ⟨w.heap.size + 1, 0, none⟩ = some (.slice A1 SA.length c1) := q4b.cell 0
    have B3' : Blk Y (w.heap.size + 1 + 1) #[.slice none 0 0] 38 := B3.out
    have q5 := B3'.setOther (a := ⟨w.heap.size + 1, 0, none⟩) (by show w.heap.size + 1 + 1 ≠ w.heap.size + 1; omega) (.slice A1 SA.length c1)
    have q5b : Blk ((Y.setCell ⟨w.heap.size + 1, 0, none⟩ (.slice A1 SA.length c1)).setCell ⟨w.heap.size + 1 + 1, 0, none⟩ (.slice A2 SB.length c2)) (w.heap.size + 1 + 1) #[.slice A2 SB.length c2] 38 := by simpa using q5.set 0 (.slice A2 SB.length c2)
    have r5 : ((Y.setCell ⟨w.heap.size + 1, 0, none⟩ (.slice A1 SA.length c1)).setCell ⟨w.heap.size + 1 + 1, 0, none⟩ (.slice A2 SB.length c2)).cell? ⟨w.heap.size + 1 + 1, 0, none⟩ = some (.slice A2 SB.length c2) := q5b.cell 0
    have n1 : ∀ k ∈ f1, W0.heap.size ≤ k := HF1.out
    have n2 : ∀ k ∈ f2, wc.heap.size ≤ k := HFP2.out
    have o1 := Lay.chunks_setBelow (Lay.chunks_setBelow HO1.out (a := ⟨w.heap.size + 1, 0, none⟩) (fun hm => by have h9 := n1 _ hm; simp only at h9; omega) (.slice A1 SA.length c1)) (a := ⟨w.heap.size + 1 + 1, 0, none⟩) (fun hm => by have h9 := n1 _ hm; simp only at h9; omega) (.slice A2 SB.length c2)
    have o2 := Lay.chunks_setBelow (Lay.chunks_setBelow HO2.out (a := ⟨w.heap.size + 1, 0, none⟩) (fun hm => by have h9 := n2 _ hm; simp only at h9; omega) (.slice A1 SA.length c1)) (a := ⟨w.heap.size + 1 + 1, 0, none⟩) (fun hm => by have h9 := n2 _ hm; simp only at h9; omega) (.slice A2 SB.length c2)
    have hbf := ((below_then HB0.out HB2.out).setCell (p := ⟨w.heap.size + 1, 0, none⟩) (by show w.heap.size ≤ w.heap.size + 1; omega) (.slice A1 SA.length c1)).setCell (p := ⟨w.heap.size + 1 + 1, 0, none⟩) (by show w.heap.size ≤ w.heap.size + 1 + 1; omega) (.slice A2 SB.length c2)
    have HE9 := HE2.out
    refine bodyPost_ret (v := .tuple #[.agg #[.slice A1 SA.length c1], .agg #[.slice A2 SB.length c2], .bool ok]) (by
      have r4' : (((Y.setCell ⟨w.heap.size + 1, 0, none⟩ (.slice A1 SA.length c1)).setCell ⟨w.heap.size + 1 + 1, 0, none⟩ (.slice A2 SB.length c2)).drew).cell? ⟨w.heap.size + 1, 0, none⟩ = some (.slice A1 SA.length c1) := r4
      have r5' : (((Y.setCell ⟨w.heap.size + 1, 0, none⟩ (.slice A1 SA.length c1)).setCell ⟨w.heap.size + 1 + 1, 0, none⟩ (.slice A2 SB.length c2)).drew).cell? ⟨w.heap.size + 1 + 1, 0, none⟩ = some (.slice A2 SB.length c2) := r5
      clear r4 r5 q4 q4b q5 q5b B3' o1 o2 hbf
      simp [results, Tryd.results19, go_sem, r4', r5', HE9]) rfl ?_
    exact ⟨A1, c1, A2, c2, f1, f2, rfl, o1, o2, HN1.out, HND2.out, fun k hk => by have h9 := n1 k hk; omega, fun k hk => by have h9 := n2 k hk; omega, fun k hk hk2 => by have h9 := HL9.out k hk; have h8 := n2 k hk2; omega, ⟨hbf.os, hbf.tape, hbf.output, hbf.size, hbf.block⟩⟩
end Go.Proofs.YtnpbdkfkdbfdhaaDoor

namespace Go.Proofs.YtnpbdkfkdbfdhaaDoor
open Go.RowKit P
set_option linter.unusedVariables false
set_option linter.unusedSimpArgs false
set_option maxRecDepth 100000

set_option maxHeartbeats 8000000 in
theorem specRopeSplit_any (A : Option Addr) (ls : List (List UInt8)) (c : Nat) (a : Int) (w : World) (hn9 : ls.length ≤ 9223372036854775807) (hC : Cs w A ls) (ha : -9223372036854775808 ≤ a ∧ a ≤ 9223372036854775807) :
    Calls Tryd.prog 18 #[.agg #[.slice A ls.length c], .int .i64 a] w (Splits ls a w) := by
  obtain ⟨SA, hSA⟩ : ∃ x, spA ls a = x := ⟨_, rfl⟩
  obtain ⟨SB, hSB⟩ : ∃ x, spB ls a = x := ⟨_, rfl⟩
  obtain ⟨ok, hok⟩ : ∃ x, rCut ls a = x := ⟨_, rfl⟩
  unfold Splits
  rw [hSA, hSB, hok]
  obtain ⟨tx, htx⟩ : ∃ x, chunksText ls = x := ⟨_, rfl⟩
  obtain ⟨m, hm⟩ : ∃ m, IntKind.i64.wrap ((tx.length : Int) - a) = m := ⟨_, rfl⟩
  have htl : tx.length ≤ 400 := by rw [← htx]; exact chunksText_len ls
  have hV1 : ok = true → editV ls a m [] = SA := by
    intro h9
    rw [h9] at hok
    rw [← hSA]
    unfold spA
    rw [if_pos hok]
    obtain ⟨h1, h3, h4, h5, h6⟩ := cut_facts hok
    have hN2 : (tx.length : Int) = (tot ls : Int) := by rw [← htx, h3]; rfl
    rw [← hm, hN2, IntWalk.i64_in _ (by omega)]
  have hV2 : editV ls 0 a [] = SB := by rw [editV_back, hSB]
  have hE2 : editOk ls 0 a [] = ok := by rw [editOk_back, hok]
  have hno : ok = false → SA = [] ∧ SB = [] := by
    intro h9
    rw [h9] at hok
    rw [← hSA, ← hSB]
    unfold spA spB
    rw [hok]
    exact ⟨rfl, rfl⟩
  have HNO := Lib.hid hno
  have HV1' := Lib.hid hV1
  have HV2 := Lib.hid hV2
  have HOK := Lib.hid hok
  have HTX := Lib.hid htx
  clear hSA hSB hok hV1 hV2 hE2 htx hno
  have hb0 := ((((Below.refl w.heap.size w).alloc (Nat.le_refl _) (.cells #[.slice A ls.length c] 38)).alloc (by simp) (.cells #[.slice none 0 0] 38)).alloc (by simp; omega) (.cells #[.slice none 0 0] 38))
  have hb1 : Blk (((w.alloc (.cells #[.slice A ls.length c] 38)).alloc (.cells #[.slice none 0 0] 38)).alloc (.cells #[.slice none 0 0] 38)) w.heap.size #[.slice A ls.length c] 38 := ((Blk.new w #[.slice A ls.length c] 38).alloc (.cells #[.slice none 0 0] 38)).alloc (.cells #[.slice none 0 0] 38)
  have hb2 : Blk (((w.alloc (.cells #[.slice A ls.length c] 38)).alloc (.cells #[.slice none 0 0] 38)).alloc (.cells #[.slice none 0 0] 38)) (w.heap.size + 1) #[.slice none 0 0] 38 := by
    have h9 := (Blk.new (w.alloc (.cells #[.slice A ls.length c] 38)) #[.slice none 0 0] 38).alloc (.cells #[.slice none 0 0] 38)
    simpa using h9
  have hb3 : Blk (((w.alloc (.cells #[.slice A ls.length c] 38)).alloc (.cells #[.slice none 0 0] 38)).alloc (.cells #[.slice none 0 0] 38)) (w.heap.size + 2) #[.slice none 0 0] 38 := by
    have h9 := Blk.new ((w.alloc (.cells #[.slice A ls.length c] 38)).alloc (.cells #[.slice none 0 0] 38)) #[.slice none 0 0] 38
    simpa using h9
  have hC0 := hC.below hb0
  have p0 := hb1.cell 0
  have hcut0 := l04Cut_any A ls c a (((w.alloc (.cells #[.slice A ls.length c] 38)).alloc (.cells #[.slice none 0 0] 38)).alloc (.cells #[.slice none 0 0] 38)) hn9 hC0
  go_enter Tryd.func18, Tryd.ntmps18
  go_wp2_with fail
  generalize ((w.alloc (.cells #[.slice A ls.length c] 38)).alloc (.cells #[.slice none 0 0] 38)).alloc (.cells #[.slice none 0 0] 38) = W9 at *
  refine hcut0.mono ?_
  rintro e W0 ⟨rfl, hbc⟩
  rw [HOK.out]
  have BB1 := Lib.hid (hb1.below hbc)
  have BB2 := Lib.hid (hb2.below hbc)
  have BB3 := Lib.hid (hb3.below hbc)
  have HC := Lib.hid (hC0.below hbc)
  have HB0 := Lib.hid (below_then hb0 hbc)
  clear hb1 hb2 hb3 hC0 hb0 hC hbc hcut0 p0
  cases ok
  · obtain ⟨rfl, rfl⟩ := HNO.out rfl
    have g3 := BB2.out.cell 0
    have g4 := BB3.out.cell 0
    have f3 := BB2.out.frozen 0
    have f4 := BB3.out.frozen 0
    have V1 : Blk (W0.setCell ⟨w.heap.size + 1, 0, none⟩ (.slice none 0 0)) (w.heap.size + 1) #[.slice none 0 0] 38 := by simpa using BB2.out.set 0 (.slice none 0 0)
    have q4b := V1.setOther (a := ⟨w.heap.size + 1 + 1, 0, none⟩) (by show w.heap.size + 1 ≠ w.heap.size + 1 + 1; omega) (.slice none 0 0)
    have r4 := q4b.cell 0
    have B3' : Blk W0 (w.heap.size + 1 + 1) #[.slice none 0 0] 38 := BB3.out
    have q5 := B3'.setOther (a := ⟨w.heap.size + 1, 0, none⟩) (by show w.heap.size + 1 + 1 ≠ w.heap.size + 1; omega) (.slice none 0 0)
    have q5b : Blk ((W0.setCell ⟨w.heap.size + 1, 0, none⟩ (.slice none 0 0)).setCell ⟨w.heap.size + 1 + 1, 0, none⟩ (.slice none 0 0)) (w.heap.size + 1 + 1) #[.slice none 0 0] 38 := by simpa using q5.set 0 (.slice none 0 0)
    have r5 := q5b.cell 0
    have hbf := ((HB0.out).setCell (p := ⟨w.heap.size + 1, 0, none⟩) (by show w.heap.size ≤ w.heap.size + 1; omega) (.slice none 0 0)).setCell (p := ⟨w.heap.size + 1 + 1, 0, none⟩) (by show w.heap.size ≤ w.heap.size + 1 + 1; omega) (.slice none 0 0)
    have R4 := Lib.hid r4
    have R5 := Lib.hid r5
    have HBF := Lib.hid hbf
    clear V1 q4b q5 q5b B3' r4 r5 hbf
    go_wp2
    refine bodyPost_ret (v := .tuple #[.agg #[.slice none 0 0], .agg #[.slice none 0 0], .bool false]) (by
      have r4' := R4.out
      have r5' := R5.out
      simp [results, Tryd.results18, go_sem, r4', r5']) rfl ?_
    exact ⟨none, 0, none, 0, [], [], rfl, Lay.slice_nil _ _ _, Lay.slice_nil _ _ _, List.nodup_nil, List.nodup_nil, (fun k hk => nomatch hk), (fun k hk => nomatch hk), (fun k hk => nomatch hk), HBF.out⟩
  have HV1 := Lib.hid (HV1'.out rfl)
  have p0 := BB1.out.cell 0
  go_upto_region 3 with fail
  go_cut [7] (fun p wx => ∃ (b : Nat) (A1 : Option Addr) (c1 : Nat) (f1 : List Nat), p = .pointer (some ⟨b, 0, none⟩) ∧ Blk wx b #[.slice A1 SA.length c1] 38 ∧ Lay.chunks.ow wx [.slice A1 SA.length c1] SA f1 ∧ f1.Nodup ∧ (∀ k ∈ f1, W0.heap.size ≤ k) ∧ b ∉ f1 ∧ W0.heap.size ≤ b ∧ Below W0.heap.size W0 wx)
  case first =>
    have nH0 : Hid (Below W0.heap.size W0 W0.drew) := Lib.hid (Below.refl W0.heap.size W0).drew
    have nz0 : W0.drew.heap.size = W0.heap.size := World.size_drew W0
    refine wp_region_noPanic ?_
    refine wp_region_held_drew (S := (fun V => V.cell? ⟨w.heap.size, 0, none⟩ = some (.slice A ls.length c))) (by kernel_rfl) (by exact p0) (fun hHeld => ?_)
    refine wpAnyH_take (i := 0) (oi := ?_) (v := ?_) ?_ ?_ ?_ ?_ ?_ ?_ (by exact hHeld) ?_
    rotate_left 2
    · (simp only [List.getElem?_toArray, List.getElem?_cons_zero]; try rfl)
    · kernel_rfl
    · kernel_rfl
    · kernel_rfl
    · exact fun _ _ _ h => h
    · refine Or.inl ⟨by rfl, ?_⟩
      (intro V hSV; (try dsimp only at hSV); have q0 := hSV; go_simp; try with_reducible rfl)
    (try simp only [Act.put, List.setIfInBounds_toArray, List.set_cons_zero, List.set_cons_succ])
    refine wpAnyH_take (i := 1) (oi := ?_) (v := ?_) ?_ ?_ ?_ ?_ ?_ ?_ (by exact hHeld) ?_
    rotate_left 2
    · (simp only [List.getElem?_toArray, List.getElem?_cons_zero, List.getElem?_cons_succ]; try rfl)
    · kernel_rfl
    · kernel_rfl
    · kernel_rfl
    · exact fun _ _ _ h => h
    · refine Or.inl ⟨by rfl, ?_⟩
      (intro V hSV; (try dsimp only at hSV); have q0 := hSV; go_simp; try with_reducible rfl)
    (try simp only [Act.put, List.setIfInBounds_toArray, List.set_cons_zero, List.set_cons_succ])
    refine wpAnyH_take (i := 2) (oi := ?_) (v := ?_) ?_ ?_ ?_ ?_ ?_ ?_ (by exact hHeld) ?_
    rotate_left 2
    · (simp only [List.getElem?_toArray, List.getElem?_cons_zero, List.getElem?_cons_succ]; try rfl)
    · kernel_rfl
    · kernel_rfl
    · kernel_rfl
    · exact fun _ _ _ h => h
    · refine Or.inl ⟨by rfl, ?_⟩
      (intro V hSV; (try dsimp only at hSV); have q0 := hSV; go_simp; try with_reducible rfl)
    (try simp only [Act.put, List.setIfInBounds_toArray, List.set_cons_zero, List.set_cons_succ])
    refine wpAnyH_take (i := 5) (oi := ?_) (v := ?_) ?_ ?_ ?_ ?_ ?_ ?_ (by exact hHeld) ?_
    rotate_left 2
    · (simp only [List.getElem?_toArray, List.getElem?_cons_zero, List.getElem?_cons_succ]; try rfl)
    · kernel_rfl
    · kernel_rfl
    · kernel_rfl
    · exact fun _ _ _ h => h
    · refine Or.inl ⟨by rfl, ?_⟩
      (intro V hSV; (try dsimp only at hSV); have q0 := hSV; go_simp; try with_reducible rfl)
    (try simp only [Act.put, List.setIfInBounds_toArray, List.set_cons_zero, List.set_cons_succ])
    refine wpAnyH_ready (rs := [3, 11]) (by kernel_rfl) (by simp) ?_
    refine AllReadyH.cons (o := ?_) ?_ (fun K hK => ?_) ?_
    rotate_left 1
    · (simp only [List.getElem?_toArray, List.getElem?_cons_zero, List.getElem?_cons_succ]; try rfl)
    · go_simp
      refine (specRopeText_any A ls c _ hn9 (by exact HC.out.below nH0.out)).mono ?_
      rintro e ny1 ⟨v7, rfl, hown7, hb⟩
      rw [HTX.out] at hown7
      obtain ⟨A7, c7, rfl, _, _, _⟩ := hown7.form
      clear hown7
      have zY1 := nH0.out.size
      have nH1 := Lib.hid (below_then nH0.out hb)
      clear hb
      go_wp2_with fail
      refine hK.out _ _ (by exact (BB1.out.below nH1.out).cell 0) (fun hHeld => ?_)
      clear hK K
      (try simp only [Act.put, List.setIfInBounds_toArray, List.set_cons_zero, List.set_cons_succ])
      refine wpAnyH_take (i := 4) (oi := ?_) (v := ?_) ?_ ?_ ?_ ?_ ?_ ?_ (by exact hHeld) ?_
      rotate_left 2
      · (simp only [List.getElem?_toArray, List.getElem?_cons_zero, List.getElem?_cons_succ]; try rfl)
      · kernel_rfl
      · kernel_rfl
      · kernel_rfl
      · exact fun _ _ _ h => h
      · refine Or.inl ⟨by rfl, ?_⟩
        (intro V hSV; (try dsimp only at hSV); have q0 := hSV; go_simp; try with_reducible rfl)
      (try simp only [Act.put, List.setIfInBounds_toArray, List.set_cons_zero, List.set_cons_succ])
      refine wpAnyH_take (i := 6) (oi := ?_) (v := ?_) ?_ ?_ ?_ ?_ ?_ ?_ (by exact hHeld) ?_
      rotate_left 2
      · (simp only [List.getElem?_toArray, List.getElem?_cons_zero, List.getElem?_cons_succ]; try rfl)
      · kernel_rfl
      · kernel_rfl
      · kernel_rfl
      · exact fun _ _ _ h => h
      · refine Or.inl ⟨by rfl, ?_⟩
        (intro V hSV; (try dsimp only at hSV); have q0 := hSV; go_simp; try with_reducible rfl)
      (try simp only [Act.put, List.setIfInBounds_toArray, List.set_cons_zero, List.set_cons_succ])
      refine wpAnyH_ready (rs := [7, 11]) (by kernel_rfl) (by simp) ?_
      refine AllReadyH.cons (o := ?_) ?_ (fun K hK => ?_) ?_
      rotate_left 1
      · (simp only [List.getElem?_toArray, List.getElem?_cons_zero, List.getElem?_cons_succ]; try rfl)
      · go_simp
        (try (have zBX := BX.out.lt))
        have zP1 := (nH1.out).size
        refine (specRopeEdit_any A ls c a m none [] 0 _ hn9 (Nat.le_refl _) (by decide) (by exact HC.out.below nH1.out) (fun k hk => absurd hk (Nat.not_lt_zero _))).mono ?_
        rintro e ny2 ⟨v1, f1, rfl, how1, hnd1, hfp1, hb⟩
        rw [HV1.out] at how1
        obtain ⟨A1, c1, rfl, _, _, _⟩ := Lay.chunks_rd (Lay.chunks.read how1)
        have HOW1 := Lib.hid how1
        have HND1 := Lib.hid hnd1
        have HFP1 := Lib.hid hfp1
        clear how1 hnd1 hfp1
        have zY2 := nH1.out.size
        have nH2 := Lib.hid (below_then nH1.out hb)
        clear hb
        go_wp2_with fail
        refine hK.out _ _ (by exact (BB1.out.below nH2.out).cell 0) (fun hHeld => ?_)
        clear hK K
        (try simp only [Act.put, List.setIfInBounds_toArray, List.set_cons_zero, List.set_cons_succ])
        refine wpAnyH_take (i := 8) (oi := ?_) (v := ?_) ?_ ?_ ?_ ?_ ?_ ?_ (by exact hHeld) ?_
        rotate_left 2
        · (simp only [List.getElem?_toArray, List.getElem?_cons_zero, List.getElem?_cons_succ]; try rfl)
        · kernel_rfl
        · kernel_rfl
        · kernel_rfl
        · exact fun _ _ _ h => h
        · refine Or.inl ⟨by rfl, ?_⟩
          (intro V hSV; (try dsimp only at hSV); have q0 := hSV; go_simp; try with_reducible rfl)
        (try simp only [Act.put, List.setIfInBounds_toArray, List.set_cons_zero, List.set_cons_succ])
        refine wpAnyH_take (i := 9) (oi := ?_) (v := ?_) ?_ ?_ ?_ ?_ ?_ ?_ (by exact hHeld) ?_
        rotate_left 2
        · (simp only [List.getElem?_toArray, List.getElem?_cons_zero, List.getElem?_cons_succ]; try rfl)
        · kernel_rfl
        · kernel_rfl
        · kernel_rfl
        · exact fun _ _ _ h => h
        · refine Or.inl ⟨by rfl, ?_⟩
          (intro V hSV; (try dsimp only at hSV); have q0 := hSV; go_simp; try with_reducible rfl)
        (try simp only [Act.put, List.setIfInBounds_toArray, List.set_cons_zero, List.set_cons_succ])
        refine wpAnyH_take (i := 10) (oi := ?_) (v := ?_) ?_ ?_ ?_ ?_ ?_ ?_ (by exact hHeld) ?_
        rotate_left 2
        · (simp only [List.getElem?_toArray, List.getElem?_cons_zero, List.getElem?_cons_succ]; try rfl)
        · kernel_rfl
        · kernel_rfl
        · kernel_rfl
        · exact fun _ _ _ h => h
        · refine Or.inl ⟨by rfl, ?_⟩
          (intro V hSV; (try dsimp only at hSV); have q0 := hSV; go_simp; try with_reducible rfl)
        (try simp only [Act.put, List.setIfInBounds_toArray, List.set_cons_zero, List.set_cons_succ])
        refine wpAnyH_ready (rs := [11]) (by kernel_rfl) (by simp) ?_
        refine AllReadyH.cons (o := ?_) ?_ (fun K hK => ?_) AllReadyH.nil
        rotate_left 1
        · (simp only [List.getElem?_toArray, List.getElem?_cons_zero, List.getElem?_cons_succ]; try rfl)
        have zA := nH2.out.size
        have nH3 := Lib.hid (nH2.out.alloc nH2.out.size (.cells #[.slice none 0 0] 38))
        go_simp
        refine hK.out _ _ (by exact (BB1.out.below nH3.out).cell 0) (fun hHeld => ?_)
        clear hK K
        (try simp only [Act.put, List.setIfInBounds_toArray, List.set_cons_zero, List.set_cons_succ])
        refine wpAnyH_ready (rs := [12]) (by kernel_rfl) (by simp) ?_
        refine AllReadyH.cons (o := ?_) ?_ (fun K hK => ?_) AllReadyH.nil
        rotate_left 1
        · (simp only [List.getElem?_toArray, List.getElem?_cons_zero, List.getElem?_cons_succ]; try rfl)
        have HF := Lib.hid (nH2.out.alloc nH2.out.size (.cells #[.slice A1 SA.length c1] 38))
        go_simp
        refine hK.out _ _ (by exact (BB1.out.below HF.out).cell 0) (fun hHeld => ?_)
        clear hK K
        (try simp only [Act.put, List.setIfInBounds_toArray, List.set_cons_zero, List.set_cons_succ])
        refine wpAnyH_take (i := 13) (oi := ?_) (v := ?_) ?_ ?_ ?_ ?_ ?_ ?_ (by exact hHeld) ?_
        rotate_left 2
        · (simp only [List.getElem?_toArray, List.getElem?_cons_zero, List.getElem?_cons_succ]; try rfl)
        · kernel_rfl
        · kernel_rfl
        · kernel_rfl
        · exact fun _ _ _ h => h
        · refine Or.inl ⟨by rfl, ?_⟩
          (intro V hSV; (try dsimp only at hSV); have q0 := hSV; go_simp; try with_reducible rfl)
        (try simp only [Act.put, List.setIfInBounds_toArray, List.set_cons_zero, List.set_cons_succ])
        refine wpAnyH_done (by kernel_rfl) ?_ _
        refine NoPanic.normal ?_
        go_wp2_with fail
        go_meet
        have BF := Lib.hid (Blk.new ny2 #[.slice A1 SA.length c1] 38)
        have zF := nH2.out.size
        exact ⟨ny2.heap.size, A1, c1, f1, rfl, BF.out, Lay.chunks.owBelow HOW1.out ((Below.refl _ _).alloc (Nat.le_refl _) _), HND1.out, (fun k hk => by have h1 := HFP1.out k hk; omega), (fun hm => by have h1 := Lay.chunks.lt HOW1.out _ hm; omega), by omega, HF.out⟩
      refine AllReadyH.cons (o := ?_) ?_ (fun K hK => ?_) AllReadyH.nil
      rotate_left 1
      · (simp only [List.getElem?_toArray, List.getElem?_cons_zero, List.getElem?_cons_succ]; try rfl)
      have zA := nH1.out.size
      have nH2 := Lib.hid (nH1.out.alloc nH1.out.size (.cells #[.slice none 0 0] 38))
      have BX := Lib.hid (Blk.new (ny1) #[.slice none 0 0] 38)
      go_simp
      refine hK.out _ _ (by exact (BB1.out.below nH2.out).cell 0) (fun hHeld => ?_)
      clear hK K
      (try simp only [Act.put, List.setIfInBounds_toArray, List.set_cons_zero, List.set_cons_succ])
      refine wpAnyH_ready (rs := [7]) (by kernel_rfl) (by simp) ?_
      refine AllReadyH.cons (o := ?_) ?_ (fun K hK => ?_) AllReadyH.nil
      rotate_left 1
      · (simp only [List.getElem?_toArray, List.getElem?_cons_zero, List.getElem?_cons_succ]; try rfl)
      go_simp
      (try (have zBX := BX.out.lt))
      have zP1 := (nH2.out).size
      refine (specRopeEdit_any A ls c a m none [] 0 _ hn9 (Nat.le_refl _) (by decide) (by exact HC.out.below nH2.out) (fun k hk => absurd hk (Nat.not_lt_zero _))).mono ?_
      rintro e ny2 ⟨v1, f1, rfl, how1, hnd1, hfp1, hb⟩
      rw [HV1.out] at how1
      obtain ⟨A1, c1, rfl, _, _, _⟩ := Lay.chunks_rd (Lay.chunks.read how1)
      have HOW1 := Lib.hid how1
      have HND1 := Lib.hid hnd1
      have HFP1 := Lib.hid hfp1
      clear how1 hnd1 hfp1
      have zY3 := nH2.out.size
      have nH3 := Lib.hid (below_then nH2.out hb)
      have BX := Lib.hid (BX.out.below hb)
      clear hb
      go_wp2_with fail
      refine hK.out _ _ (by exact (BB1.out.below nH3.out).cell 0) (fun hHeld => ?_)
      clear hK K
      (try simp only [Act.put, List.setIfInBounds_toArray, List.set_cons_zero, List.set_cons_succ])
      refine wpAnyH_take (i := 8) (oi := ?_) (v := ?_) ?_ ?_ ?_ ?_ ?_ ?_ (by exact hHeld) ?_
      rotate_left 2
      · (simp only [List.getElem?_toArray, List.getElem?_cons_zero, List.getElem?_cons_succ]; try rfl)
      · kernel_rfl
      · kernel_rfl
      · kernel_rfl
      · exact fun _ _ _ h => h
      · refine Or.inl ⟨by rfl, ?_⟩
        (intro V hSV; (try dsimp only at hSV); have q0 := hSV; go_simp; try with_reducible rfl)
      (try simp only [Act.put, List.setIfInBounds_toArray, List.set_cons_zero, List.set_cons_succ])
      refine wpAnyH_take (i := 9) (oi := ?_) (v := ?_) ?_ ?_ ?_ ?_ ?_ ?_ (by exact hHeld) ?_
      rotate_left 2
      · (simp only [List.getElem?_toArray, List.getElem?_cons_zero, List.getElem?_cons_succ]; try rfl)
      · kernel_rfl
      · kernel_rfl
      · kernel_rfl
      · exact fun _ _ _ h => h
      · refine Or.inl ⟨by rfl, ?_⟩
        (intro V hSV; (try dsimp only at hSV); have q0 := hSV; go_simp; try with_reducible rfl)
      (try simp only [Act.put, List.setIfInBounds_toArray, List.set_cons_zero, List.set_cons_succ])
      refine wpAnyH_take (i := 10) (oi := ?_) (v := ?_) ?_ ?_ ?_ ?_ ?_ ?_ (by exact hHeld) ?_
      rotate_left 2
      · (simp only [List.getElem?_toArray, List.getElem?_cons_zero, List.getElem?_cons_succ]; try rfl)
      · kernel_rfl
      · kernel_rfl
      · kernel_rfl
      · exact fun _ _ _ h => h
      · refine Or.inl ⟨by rfl, ?_⟩
        (intro V hSV; (try dsimp only at hSV); have q0 := hSV; go_simp; try with_reducible rfl)
      (try simp only [Act.put, List.setIfInBounds_toArray, List.set_cons_zero, List.set_cons_succ])
      have zB := BX.out.lt
      have nb0 := BB1.out.lt
      have g0 := BX.out.cell 0
      have f0 := BX.out.frozen 0
      have zz9 : W0.heap.size ≤ ny1.heap.size := by first | exact Nat.le_refl _ | omega
      have BF : Hid (Blk ((ny2.setCell ⟨ny1.heap.size, 0, none⟩ (.slice A1 SA.length c1))) ny1.heap.size #[.slice A1 SA.length c1] 38) := Lib.hid (by simpa using (BX.out.set 0 (.slice A1 SA.length c1)))
      have HF : Hid (Below W0.heap.size W0 ((ny2.setCell ⟨ny1.heap.size, 0, none⟩ (.slice A1 SA.length c1)))) := Lib.hid (nH3.out.setCell (p := ⟨ny1.heap.size, 0, none⟩) (by omega) (.slice A1 SA.length c1))
      refine wpAnyH_ready (rs := [12]) (by kernel_rfl) (by simp) ?_
      refine AllReadyH.cons (o := ?_) ?_ (fun K hK => ?_) AllReadyH.nil
      rotate_left 1
      · (simp only [List.getElem?_toArray, List.getElem?_cons_zero, List.getElem?_cons_succ]; try rfl)
      go_simp
      refine hK.out _ _ (by exact (BB1.out.below HF.out).cell 0) (fun hHeld => ?_)
      clear hK K
      (try simp only [Act.put, List.setIfInBounds_toArray, List.set_cons_zero, List.set_cons_succ])
      refine wpAnyH_take (i := 13) (oi := ?_) (v := ?_) ?_ ?_ ?_ ?_ ?_ ?_ (by exact hHeld) ?_
      rotate_left 2
      · (simp only [List.getElem?_toArray, List.getElem?_cons_zero, List.getElem?_cons_succ]; try rfl)
      · kernel_rfl
      · kernel_rfl
      · kernel_rfl
      · exact fun _ _ _ h => h
      · refine Or.inl ⟨by rfl, ?_⟩
        (intro V hSV; (try dsimp only at hSV); have q0 := hSV; go_simp; try with_reducible rfl)
      (try simp only [Act.put, List.setIfInBounds_toArray, List.set_cons_zero, List.set_cons_succ])
      refine wpAnyH_done (by kernel_rfl) ?_ _
      refine NoPanic.normal ?_
      go_wp2_with fail
      go_meet
      exact ⟨ny1.heap.size, A1, c1, f1, rfl, BF.out, Lay.chunks_setBelow HOW1.out (a := ⟨ny1.heap.size, 0, none⟩) (fun hm => by have h1 := HFP1.out _ hm; simp only at h1; omega) _, HND1.out, (fun k hk => by have h1 := HFP1.out k hk; omega), (fun hm => by have h1 := HFP1.out _ hm; omega), by omega, HF.out⟩
    refine AllReadyH.cons (o := ?_) ?_ (fun K hK => ?_) AllReadyH.nil
    rotate_left 1
    · (simp only [List.getElem?_toArray, List.getElem?_cons_zero, List.getElem?_cons_succ]; try rfl)
    have zA := nH0.out.size
    have nH1 := Lib.hid (nH0.out.alloc nH0.out.size (.cells #[.slice none 0 0] 38))
    have BX := Lib.hid (Blk.new (W0.drew) #[.slice none 0 0] 38)
    have BX := Lib.hid (show Blk (W0.drew.alloc (.cells #[.slice none 0 0] 38)) W0.heap.size #[.slice none 0 0] 38 from by have h9 := BX.out; rw [World.size_drew] at h9; exact h9)
    go_simp
    refine hK.out _ _ (by exact (BB1.out.below nH1.out).cell 0) (fun hHeld => ?_)
    clear hK K
    (try simp only [Act.put, List.setIfInBounds_toArray, List.set_cons_zero, List.set_cons_succ])
    refine wpAnyH_ready (rs := [3]) (by kernel_rfl) (by simp) ?_
    refine AllReadyH.cons (o := ?_) ?_ (fun K hK => ?_) AllReadyH.nil
    rotate_left 1
    · (simp only [List.getElem?_toArray, List.getElem?_cons_zero, List.getElem?_cons_succ]; try rfl)
    go_simp
    refine (specRopeText_any A ls c _ hn9 (by exact HC.out.below nH1.out)).mono ?_
    rintro e ny1 ⟨v7, rfl, hown7, hb⟩
    rw [HTX.out] at hown7
    obtain ⟨A7, c7, rfl, _, _, _⟩ := hown7.form
    clear hown7
    have zY2 := nH1.out.size
    have nH2 := Lib.hid (below_then nH1.out hb)
    have BX := Lib.hid (BX.out.below hb)
    clear hb
    go_wp2_with fail
    refine hK.out _ _ (by exact (BB1.out.below nH2.out).cell 0) (fun hHeld => ?_)
    clear hK K
    (try simp only [Act.put, List.setIfInBounds_toArray, List.set_cons_zero, List.set_cons_succ])
    refine wpAnyH_take (i := 4) (oi := ?_) (v := ?_) ?_ ?_ ?_ ?_ ?_ ?_ (by exact hHeld) ?_
    rotate_left 2
    · (simp only [List.getElem?_toArray, List.getElem?_cons_zero, List.getElem?_cons_succ]; try rfl)
    · kernel_rfl
    · kernel_rfl
    · kernel_rfl
    · exact fun _ _ _ h => h
    · refine Or.inl ⟨by rfl, ?_⟩
      (intro V hSV; (try dsimp only at hSV); have q0 := hSV; go_simp; try with_reducible rfl)
    (try simp only [Act.put, List.setIfInBounds_toArray, List.set_cons_zero, List.set_cons_succ])
    refine wpAnyH_take (i := 6) (oi := ?_) (v := ?_) ?_ ?_ ?_ ?_ ?_ ?_ (by exact hHeld) ?_
    rotate_left 2
    · (simp only [List.getElem?_toArray, List.getElem?_cons_zero, List.getElem?_cons_succ]; try rfl)
    · kernel_rfl
    · kernel_rfl
    · kernel_rfl
    · exact fun _ _ _ h => h
    · refine Or.inl ⟨by rfl, ?_⟩
      (intro V hSV; (try dsimp only at hSV); have q0 := hSV; go_simp; try with_reducible rfl)
    (try simp only [Act.put, List.setIfInBounds_toArray, List.set_cons_zero, List.set_cons_succ])
    refine wpAnyH_ready (rs := [7]) (by kernel_rfl) (by simp) ?_
    refine AllReadyH.cons (o := ?_) ?_ (fun K hK => ?_) AllReadyH.nil
    rotate_left 1
    · (simp only [List.getElem?_toArray, List.getElem?_cons_zero, List.getElem?_cons_succ]; try rfl)
    go_simp
    (try (have zBX := BX.out.lt))
    have zP1 := (nH2.out).size
    refine (specRopeEdit_any A ls c a m none [] 0 _ hn9 (Nat.le_refl _) (by decide) (by exact HC.out.below nH2.out) (fun k hk => absurd hk (Nat.not_lt_zero _))).mono ?_
    rintro e ny2 ⟨v1, f1, rfl, how1, hnd1, hfp1, hb⟩
    rw [HV1.out] at how1
    obtain ⟨A1, c1, rfl, _, _, _⟩ := Lay.chunks_rd (Lay.chunks.read how1)
    have HOW1 := Lib.hid how1
    have HND1 := Lib.hid hnd1
    have HFP1 := Lib.hid hfp1
    clear how1 hnd1 hfp1
    have zY3 := nH2.out.size
    have nH3 := Lib.hid (below_then nH2.out hb)
    have BX := Lib.hid (BX.out.below hb)
    clear hb
    go_wp2_with fail
    refine hK.out _ _ (by exact (BB1.out.below nH3.out).cell 0) (fun hHeld => ?_)
    clear hK K
    (try simp only [Act.put, List.setIfInBounds_toArray, List.set_cons_zero, List.set_cons_succ])
    refine wpAnyH_take (i := 8) (oi := ?_) (v := ?_) ?_ ?_ ?_ ?_ ?_ ?_ (by exact hHeld) ?_
    rotate_left 2
    · (simp only [List.getElem?_toArray, List.getElem?_cons_zero, List.getElem?_cons_succ]; try rfl)
    · kernel_rfl
    · kernel_rfl
    · kernel_rfl
    · exact fun _ _ _ h => h
    · refine Or.inl ⟨by rfl, ?_⟩
      (intro V hSV; (try dsimp only at hSV); have q0 := hSV; go_simp; try with_reducible rfl)
    (try simp only [Act.put, List.setIfInBounds_toArray, List.set_cons_zero, List.set_cons_succ])
    refine wpAnyH_take (i := 9) (oi := ?_) (v := ?_) ?_ ?_ ?_ ?_ ?_ ?_ (by exact hHeld) ?_
    rotate_left 2
    · (simp only [List.getElem?_toArray, List.getElem?_cons_zero, List.getElem?_cons_succ]; try rfl)
    · kernel_rfl
    · kernel_rfl
    · kernel_rfl
    · exact fun _ _ _ h => h
    · refine Or.inl ⟨by rfl, ?_⟩
      (intro V hSV; (try dsimp only at hSV); have q0 := hSV; go_simp; try with_reducible rfl)
    (try simp only [Act.put, List.setIfInBounds_toArray, List.set_cons_zero, List.set_cons_succ])
    refine wpAnyH_take (i := 10) (oi := ?_) (v := ?_) ?_ ?_ ?_ ?_ ?_ ?_ (by exact hHeld) ?_
    rotate_left 2
    · (simp only [List.getElem?_toArray, List.getElem?_cons_zero, List.getElem?_cons_succ]; try rfl)
    · kernel_rfl
    · kernel_rfl
    · kernel_rfl
    · exact fun _ _ _ h => h
    · refine Or.inl ⟨by rfl, ?_⟩
      (intro V hSV; (try dsimp only at hSV); have q0 := hSV; go_simp; try with_reducible rfl)
    (try simp only [Act.put, List.setIfInBounds_toArray, List.set_cons_zero, List.set_cons_succ])
    have zB := BX.out.lt
    have nb0 := BB1.out.lt
    have g0 := BX.out.cell 0
    have f0 := BX.out.frozen 0
    have zz9 : W0.heap.size ≤ W0.heap.size := by first | exact Nat.le_refl _ | omega
    have BF : Hid (Blk ((ny2.setCell ⟨W0.heap.size, 0, none⟩ (.slice A1 SA.length c1))) W0.heap.size #[.slice A1 SA.length c1] 38) := Lib.hid (by simpa using (BX.out.set 0 (.slice A1 SA.length c1)))
    have HF : Hid (Below W0.heap.size W0 ((ny2.setCell ⟨W0.heap.size, 0, none⟩ (.slice A1 SA.length c1)))) := Lib.hid (nH3.out.setCell (p := ⟨W0.heap.size, 0, none⟩) (by omega) (.slice A1 SA.length c1))
    refine wpAnyH_ready (rs := [12]) (by kernel_rfl) (by simp) ?_
    refine AllReadyH.cons (o := ?_) ?_ (fun K hK => ?_) AllReadyH.nil
    rotate_left 1
    · (simp only [List.getElem?_toArray, List.getElem?_cons_zero, List.getElem?_cons_succ]; try rfl)
    go_simp
    refine hK.out _ _ (by exact (BB1.out.below HF.out).cell 0) (fun hHeld => ?_)
    clear hK K
    (try simp only [Act.put, List.setIfInBounds_toArray, List.set_cons_zero, List.set_cons_succ])
    refine wpAnyH_take (i := 13) (oi := ?_) (v := ?_) ?_ ?_ ?_ ?_ ?_ ?_ (by exact hHeld) ?_
    rotate_left 2
    · (simp only [List.getElem?_toArray, List.getElem?_cons_zero, List.getElem?_cons_succ]; try rfl)
    · kernel_rfl
    · kernel_rfl
    · kernel_rfl
    · exact fun _ _ _ h => h
    · refine Or.inl ⟨by rfl, ?_⟩
      (intro V hSV; (try dsimp only at hSV); have q0 := hSV; go_simp; try with_reducible rfl)
    (try simp only [Act.put, List.setIfInBounds_toArray, List.set_cons_zero, List.set_cons_succ])
    refine wpAnyH_done (by kernel_rfl) ?_ _
    refine NoPanic.normal ?_
    go_wp2_with fail
    go_meet
    exact ⟨W0.heap.size, A1, c1, f1, rfl, BF.out, Lay.chunks_setBelow HOW1.out (a := ⟨W0.heap.size, 0, none⟩) (fun hm => by have h1 := HFP1.out _ hm; simp only at h1; omega) _, HND1.out, (fun k hk => by have h1 := HFP1.out k hk; omega), (fun hm => by have h1 := HFP1.out _ hm; omega), by omega, HF.out⟩
  case rest =>
    obtain ⟨ob, A1, c1, f1, rfl, hOB, hO1, hn1, hf1, hob, zob, hb⟩ := hcut
    have OB1 := Lib.hid hOB
    have HO1 := Lib.hid hO1
    have HN1 := Lib.hid hn1
    have HF1 := Lib.hid hf1
    have HOB1 := Lib.hid hob
    have HB1 := Lib.hid hb
    have B1 := Lib.hid (BB1.out.below hb)
    have B2 := Lib.hid (BB2.out.below hb)
    have B3 := Lib.hid (BB3.out.below hb)
    have zc := hb.size
    have HL9 := Lib.hid (Lay.chunks.lt hO1)
    clear hOB hO1 hn1 hf1 hob hb p0
    have p0 := B1.out.cell 0
    go_wp2_with fail
    (try (have zBX := BX.out.lt))
    have zP2 := (HB1.out).size
    refine (specRopeEdit_any A ls c 0 a none [] 0 _ hn9 (Nat.le_refl _) (by decide) (by exact HC.out.below HB1.out) (fun k hk => absurd hk (Nat.not_lt_zero _))).mono ?_
    rintro e y2 ⟨v2, f2, rfl, how2, hnd2, hfp2, hb⟩
    rw [HV2.out] at how2
    obtain ⟨A2, c2, rfl, _, _, _⟩ := Lay.chunks_rd (Lay.chunks.read how2)
    have HOW2 := Lib.hid how2
    have HND2 := Lib.hid hnd2
    have HFP2 := Lib.hid hfp2
    clear how2 hnd2 hfp2
    have zy2 := hb.size
    have hal := (Below.refl y2.heap.size y2).alloc (Nat.le_refl _) (.cells #[.slice A2 SB.length c2] 38)
    have hb5 := below_then hb hal
    have OB1 := Lib.hid (OB1.out.below hb5)
    have HO1 := Lib.hid (Lay.chunks.owBelow HO1.out hb5)
    have B2 := Lib.hid (B2.out.below hb5)
    have B3 := Lib.hid (B3.out.below hb5)
    have HB2 := Lib.hid (below_then HB1.out hb5)
    have OB2 := Lib.hid (Blk.new y2 #[.slice A2 SB.length c2] 38)
    have HO2 := Lib.hid (Lay.chunks.owBelow HOW2.out hal)
    have hL1 := Lib.hid (fun k hk => (Lay.chunks.lt HO1.out k hk))
    have g1 := OB1.out.cell 0
    have g2 := OB2.out.cell 0
    have g3 := B2.out.cell 0
    have g4 := B3.out.cell 0
    have z3 := B3.out.lt
    have z2 := B2.out.lt
    have f3 := B2.out.frozen 0
    have f4 := B3.out.frozen 0
    have hzz : w.heap.size + 2 < W0.heap.size := BB3.out.lt
    clear hb hb5 hal p0
    go_wp2_with fail
    generalize y2.alloc (.cells #[.slice A2 SB.length c2] 38) = Y at *
    go_region
    all_goals go_wp2
    have q4 : Blk (Y.setCell ⟨w.heap.size + 1, 0, none⟩ (.slice A1 SA.length c1)) (w.heap.size + 1) #[.slice A1 SA.length c1] 38 := by simpa using B2.out.set 0 (.slice A1 SA.length c1)
    have q4b := q4.setOther (a := ⟨w.heap.size + 1 + 1, 0, none⟩) (by show w.heap.size + 1 ≠ w.heap.size + 1 + 1; omega) (.slice A2 SB.length c2)
    have r4 : ((Y.setCell ⟨w.heap.size + 1, 0, none⟩ (.slice A1 SA.length c1)).setCell ⟨w.heap.size + 1 + 1, 0, none⟩ (.slice A2 SB.length c2)).cell? ⟨w.heap.size + 1, 0, none⟩ = some (.slice A1 SA.length c1) := q4b.cell 0
    have B3' : Blk Y (w.heap.size + 1 + 1) #[.slice none 0 0] 38 := B3.out
    have q5 := B3'.setOther (a := ⟨w.heap.size + 1, 0, none⟩) (by show w.heap.size + 1 + 1 ≠ w.heap.size + 1; omega) (.slice A1 SA.length c1)
    have q5b : Blk ((Y.setCell ⟨w.heap.size + 1, 0, none⟩ (.slice A1 SA.length c1)).setCell ⟨w.heap.size + 1 + 1, 0, none⟩ (.slice A2 SB.length c2)) (w.heap.size + 1 + 1) #[.slice A2 SB.length c2] 38 := by simpa using q5.set 0 (.slice A2 SB.length c2)
    have r5 : ((Y.setCell ⟨w.heap.size + 1, 0, none⟩ (.slice A1 SA.length c1)).setCell ⟨w.heap.size + 1 + 1, 0, none⟩ (.slice A2 SB.length c2)).cell? ⟨w.heap.size + 1 + 1, 0, none⟩ = some (.slice A2 SB.length c2) := q5b.cell 0
    have n1 : ∀ k ∈ f1, W0.heap.size ≤ k := HF1.out
    have n2 : ∀ k ∈ f2, wc.heap.size ≤ k := HFP2.out
    have o1 := Lay.chunks_setBelow (Lay.chunks_setBelow HO1.out (a := ⟨w.heap.size + 1, 0, none⟩) (fun hm => by have h9 := n1 _ hm; simp only at h9; omega) (.slice A1 SA.length c1)) (a := ⟨w.heap.size + 1 + 1, 0, none⟩) (fun hm => by have h9 := n1 _ hm; simp only at h9; omega) (.slice A2 SB.length c2)
    have o2 := Lay.chunks_setBelow (Lay.chunks_setBelow HO2.out (a := ⟨w.heap.size + 1, 0, none⟩) (fun hm => by have h9 := n2 _ hm; simp only at h9; omega) (.slice A1 SA.length c1)) (a := ⟨w.heap.size + 1 + 1, 0, none⟩) (fun hm => by have h9 := n2 _ hm; simp only at h9; omega) (.slice A2 SB.length c2)
    have hbf := ((below_then HB0.out HB2.out).setCell (p := ⟨w.heap.size + 1, 0, none⟩) (by show w.heap.size ≤ w.heap.size + 1; omega) (.slice A1 SA.length c1)).setCell (p := ⟨w.heap.size + 1 + 1, 0, none⟩) (by show w.heap.size ≤ w.heap.size + 1 + 1; omega) (.slice A2 SB.length c2)
    have HE9 := (rfl : true = true)
    refine bodyPost_ret (v := .tuple #[.agg #[.slice A1 SA.length c1], .agg #[.slice A2 SB.length c2], .bool true]) (by
      have r4' : (((Y.setCell ⟨w.heap.size + 1, 0, none⟩ (.slice A1 SA.length c1)).setCell ⟨w.heap.size + 1 + 1, 0, none⟩ (.slice A2 SB.length c2)).drew).cell? ⟨w.heap.size + 1, 0, none⟩ = some (.slice A1 SA.length c1) := r4
      have r5' : (((Y.setCell ⟨w.heap.size + 1, 0, none⟩ (.slice A1 SA.length c1)).setCell ⟨w.heap.size + 1 + 1, 0, none⟩ (.slice A2 SB.length c2)).drew).cell? ⟨w.heap.size + 1 + 1, 0, none⟩ = some (.slice A2 SB.length c2) := r5
      clear r4 r5 q4 q4b q5 q5b B3' o1 o2 hbf
      simp [results, Tryd.results18, go_sem, r4', r5', HE9]) rfl ?_
    exact ⟨A1, c1, A2, c2, f1, f2, rfl, o1, o2, HN1.out, HND2.out, fun k hk => by have h9 := n1 k hk; omega, fun k hk => by have h9 := n2 k hk; omega, fun k hk hk2 => by have h9 := HL9.out k hk; have h8 := n2 k hk2; omega, ⟨hbf.os, hbf.tape, hbf.output, hbf.size, hbf.block⟩⟩
end Go.Proofs.YtnpbdkfkdbfdhaaDoor
