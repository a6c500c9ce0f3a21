/-
  FnExactStackMoved, its walk. Own work.
  FnExactStackMoved returns true at every argument, and the arguments read afterwards as they read before. Conditions: none.
-/
import Derived.Test.YtdmmdbapkogdhaaLaw0
import Derived.Test.YtdmmdbapkogdhaaC05b
import Derived.Test.YtdmmdbapkogdhaaC11
import Derived.Test.YtdmmdbapkogdhaaK17
import Derived.ProofKit
import Derived.OpenShut
import Derived.OpenVars
import Derived.ChangeOld
import Derived.Deep.DeepHandedRow
import Derived.Deep.RegionHeld3
import Derived.Deep.DeepCutAuto
import Derived.Test.YtdmmdbapkogdhaaRows
import Derived.Test.YtdmmdbapkogdhaaOpenS
namespace Go.Proofs.Ytdmmdbapkogdhaa.fnExactStackMoved
open Go.ChangeShapes Go.WideShapes Go.ChangeAt Go.RowKit P
set_option linter.unusedVariables false
set_option maxRecDepth 100000

set_option linter.unusedSimpArgs false
theorem tot_puts_le (es : List Ed) (h : ∀ e ∈ es, e.2.2.length ≤ 1000) : tot (puts es) ≤ 1000 * es.length := by
  induction es with
  | nil => simp [puts, tot]
  | cons e t ih =>
    have h1 := h e List.mem_cons_self
    have h2 := ih (fun x hx => h x (List.mem_cons_of_mem _ hx))
    unfold tot puts at h2 ⊢
    simp only [List.map_cons, List.flatten_cons, List.length_append, List.length_cons]
    omega
theorem topE_small {es : List Ed} {e : Ed} (hl : es.length ≤ 6) (hs : ∀ x ∈ es, x.2.2.length ≤ 1000) (he : e.2.2.length ≤ 1000) : (topE es e).length ≤ 6 ∧ ∀ x ∈ topE es e, x.2.2.length ≤ 1000 := by
  refine ⟨topE_len e hl, ?_⟩
  have hall : ∀ x ∈ es ++ [e], x.2.2.length ≤ 1000 := fun x hx => by
    rcases List.mem_append.1 hx with h | h
    · exact hs x h
    · rw [List.mem_singleton.1 h]; exact he
  unfold topE
  split
  · exact hall
  · exact fun x hx => hall x (List.mem_of_mem_drop hx)
theorem fit_small {es : List Ed} (h : stFit es = true) : es.length ≤ 6 ∧ ∀ x ∈ es, x.2.2.length ≤ 1000 := ⟨stFit_len h, fun x hx => by
  have h8 := (edSmall_iff _ _ _).1 (show edSmall x.1 x.2.1 x.2.2 = true from stFit_all h x hx)
  omega⟩
theorem moved_small (u r : List Ed) (x : Ed) : ((movU u r x).length ≤ 6 ∧ ∀ e ∈ movU u r x, e.2.2.length ≤ 1000) ∧ ((movR u r x).length ≤ 6 ∧ ∀ e ∈ movR u r x, e.2.2.length ≤ 1000) := by
  unfold movU movR mvL
  by_cases h : movOk u r x = true
  · have h2 := h
    rw [movOk_fit, Bool.and_eq_true] at h2
    have h3 := h2.2
    unfold stOk at h3
    rw [Bool.and_eq_true] at h3
    have h9 := h
    unfold movOk at h9
    rw [Bool.and_eq_true, Bool.and_eq_true (mvAll _ u)] at h9
    rw [if_pos h, if_pos h, if_pos h9.2.1, if_pos h9.2.2]
    exact ⟨fit_small h3.1, fit_small h3.2⟩
  · rw [if_neg h, if_neg h]
    exact ⟨⟨by simp, fun x hx => nomatch hx⟩, ⟨by simp, fun x hx => nomatch hx⟩⟩
theorem es_nil (w : World) (A : Option Addr) : Es w A [] := fun k h => nomatch h
set_option maxHeartbeats 32000000 in
theorem walk (A0 : Option Addr) (u0 : List Ed) (c0 : Nat) (hc0 : u0.length ≤ c0) (hm0 : c0 ≤ maxLen) (B0 : Option Addr) (r0 : List Ed) (d0 : Nat) (hd0 : r0.length ≤ d0) (hn0 : d0 ≤ maxLen) (a1 m1 : Int) (ha1 : -9223372036854775808 ≤ a1 ∧ a1 ≤ 9223372036854775807) (hn1 : -9223372036854775808 ≤ m1 ∧ m1 ≤ 9223372036854775807) (A1 : Option Addr) (l1 : List UInt8) (c1 : Nat) (hc1 : l1.length ≤ c1) (hm1 : c1 ≤ maxLen) (w : World) (hU0 : Es w A0 u0) (hR0 : Es w B0 r0) (hL1 : Bs w A1 l1) :
    Calls Try.prog 17 #[.agg #[.slice A0 u0.length c0, .slice B0 r0.length d0], .agg #[.int .i64 a1, .int .i64 m1, .slice A1 l1.length c1]] w fun e w' => e = .returned (.bool true) ∧ Below w.heap.size w w' := by
  have hu9 : u0.length ≤ 9223372036854775807 := by unfold maxLen at hm0; omega
  have hr9 : r0.length ≤ 9223372036854775807 := by unfold maxLen at hn0; omega
  have hl9 : l1.length ≤ 9223372036854775807 := by unfold maxLen at hm1; omega
  clear hc0 hm0 hd0 hn0 hc1 hm1
  have AX := Lib.hid ((Blk.new w #[.slice A0 u0.length c0, .slice B0 r0.length d0] 84).alloc (.cells #[.int .i64 a1, .int .i64 m1, .slice A1 l1.length c1] 76))
  have hex := Blk.new (w.alloc (.cells #[.slice A0 u0.length c0, .slice B0 r0.length d0] 84)) #[.int .i64 a1, .int .i64 m1, .slice A1 l1.length c1] 76
  simp only [World.size_alloc] at hex
  have EX := Lib.hid hex
  have HB := Lib.hid (((Below.refl w.heap.size w).alloc (Nat.le_refl _) (.cells #[.slice A0 u0.length c0, .slice B0 r0.length d0] 84)).alloc (by simp) (.cells #[.int .i64 a1, .int .i64 m1, .slice A1 l1.length c1] 76))
  clear hex
  obtain ⟨z, hz⟩ : ∃ z, movOk u0 r0 (a1, m1, l1) = z := ⟨_, rfl⟩
  have HZ := Lib.hid hz
  have hzz : (z != z) = false := by simp
  obtain ⟨L, hV⟩ : ∃ V, movU u0 r0 (a1, m1, l1) = V := ⟨_, rfl⟩
  obtain ⟨M, hVM⟩ : ∃ V, movR u0 r0 (a1, m1, l1) = V := ⟨_, rfl⟩
  have hLs := moved_small u0 r0 (a1, m1, l1)
  rw [hV, hVM] at hLs
  have hL6 := hLs.1.1
  have hLt := tot_puts_le L hLs.1.2
  have hM6 := hLs.2.1
  have hMt := tot_puts_le M hLs.2.2
  have HV := Lib.hid hV
  have HVM := Lib.hid hVM
  clear hz hV hVM hLs
  go_enter Try.func17, Try.ntmps17
  have HU := Lib.hid (hU0.below HB.out)
  have HR := Lib.hid (hR0.below HB.out)
  have p0 := AX.out.cell 0
  have p1 := AX.out.cell 1
  go_wp2_with fail
  generalize (w.alloc (.cells #[.slice A0 u0.length c0, .slice B0 r0.length d0] 84)).alloc (.cells #[.int .i64 a1, .int .i64 m1, .slice A1 l1.length c1] 76) = W0 at *
  refine (szStack_any A0 u0 c0 B0 r0 d0 1048576 _ hu9 hr9 (by omega) (by omega) HU.out HR.out).mono ?_
  rintro e s0 ⟨⟨q0, rfl, hq0⟩, hb⟩
  have AX := Lib.hid (AX.out.below hb)
  have EX := Lib.hid (EX.out.below hb)
  have HB := Lib.hid (below_then HB.out hb)
  clear hb
  clear p0 p1
  clear HU HR
  by_cases hneg : q0 < 0
  · go_wp2
    go_ret
    exact ⟨rfl, HB.out⟩
  have p0 := EX.out.cell 0
  have p1 := EX.out.cell 1
  have p2 := EX.out.cell 2
  go_wp2_with fail
  refine (szEdit_any a1 m1 A1 l1.length c1 q0 _ hl9 (by omega) (by omega)).mono ?_
  rintro e s1 ⟨⟨q1, rfl, hq1⟩, hb⟩
  have AX := Lib.hid (AX.out.below hb)
  have EX := Lib.hid (EX.out.below hb)
  have HB := Lib.hid (below_then HB.out hb)
  clear hb
  clear p0 p1 p2
  by_cases hneg1 : q1 < 0
  · go_wp2
    go_ret
    exact ⟨rfl, HB.out⟩
  have hsz : u0.length + tot (puts u0) + r0.length + tot (puts r0) + l1.length ≤ 1048576 := by omega
  clear hq0 hq1
  have HU := Lib.hid (hU0.below HB.out)
  have HR := Lib.hid (hR0.below HB.out)
  have HL := Lib.hid (hL1.below HB.out)
  have p0 := AX.out.cell 0
  have p1 := AX.out.cell 1
  have p2 := EX.out.cell 0
  have p3 := EX.out.cell 1
  have p4 := EX.out.cell 2
  go_upto_region 8 with fail
  go_cut [6, 7] (fun p k wx => ∃ (b : Nat) (A : Option Addr) (c : Nat) (fp : List Nat) (B : Option Addr) (d : Nat) (gp : List Nat), p = .pointer (some ⟨b, 0, none⟩) ∧ k = .bool z ∧ Blk wx b #[.slice A L.length c, .slice B M.length d] 46 ∧ s1.heap.size ≤ b ∧ RdE wx s1.heap.size A L fp ∧ RdE wx s1.heap.size B M gp ∧ Below s1.heap.size s1 wx)
  case first =>
    have mH0 : Hid (Below s1.heap.size s1 s1.drew) := Lib.hid (Below.refl s1.heap.size s1).drew
    have mz0 : s1.drew.heap.size = s1.heap.size := World.size_drew s1
    refine wp_region_noPanic ?_
    refine wp_region_held_drew (S := (fun V => V.cell? ⟨w.heap.size, 0, none⟩ = some (.slice A0 u0.length c0) ∧ V.cell? ⟨w.heap.size, 1, none⟩ = some (.slice B0 r0.length d0) ∧ V.cell? ⟨w.heap.size + 1, 0, none⟩ = some (.int .i64 a1) ∧ V.cell? ⟨w.heap.size + 1, 1, none⟩ = some (.int .i64 m1) ∧ V.cell? ⟨w.heap.size + 1, 2, none⟩ = some (.slice A1 l1.length c1))) (by kernel_rfl) (by exact ⟨p0, p1, p2, p3, p4⟩) (fun hHeld => ?_)
    refine wpAnyH_take (i := 0) (oi := ?_) (v := ?_) ?_ ?_ ?_ ?_ ?_ ?_ (by exact hHeld) ?_
    rotate_left 2
    · (simp only [List.getElem?_toArray, List.getElem?_cons_zero]; try rfl)
    · kernel_rfl
    · kernel_rfl
    · kernel_rfl
    · exact fun _ _ _ h => h
    · refine Or.inl ⟨by rfl, ?_⟩
      (intro V hSV; (try dsimp only at hSV); obtain ⟨q0, q1, q2, q3, q4⟩ := hSV; go_simp; try with_reducible rfl)
    (try simp only [Act.put, List.setIfInBounds_toArray, List.set_cons_zero, List.set_cons_succ])
    refine wpAnyH_take (i := 2) (oi := ?_) (v := ?_) ?_ ?_ ?_ ?_ ?_ ?_ (by exact hHeld) ?_
    rotate_left 2
    · (simp only [List.getElem?_toArray, List.getElem?_cons_zero, List.getElem?_cons_succ]; try rfl)
    · kernel_rfl
    · kernel_rfl
    · kernel_rfl
    · exact fun _ _ _ h => h
    · refine Or.inl ⟨by rfl, ?_⟩
      (intro V hSV; (try dsimp only at hSV); obtain ⟨q0, q1, q2, q3, q4⟩ := hSV; go_simp; try with_reducible rfl)
    (try simp only [Act.put, List.setIfInBounds_toArray, List.set_cons_zero, List.set_cons_succ])
    refine wpAnyH_ready (rs := [1, 8]) (by kernel_rfl) (by simp) ?_
    refine AllReadyH.cons (o := ?_) ?_ (fun K hK => ?_) ?_
    rotate_left 1
    · (simp only [List.getElem?_toArray, List.getElem?_cons_zero, List.getElem?_cons_succ]; try rfl)
    · go_simp
      refine (toStack_any A0 u0 c0 B0 r0 d0 _ (by omega) (by omega) (by exact HU.out.below mH0.out) (by exact HR.out.below mH0.out)).mono ?_
      rintro e my1 ⟨mA, mc, mf, mB, md, mg, rfl, ho, hb⟩
      have mO := Lib.hid ho
      have zc1 := hb.size
      try simp only [World.size_alloc, World.size_drew] at zc1
      clear ho
      have zY1 := mH0.out.size
      have mH1 := Lib.hid (below_then mH0.out hb)
      clear hb
      go_wp2_with fail
      refine hK.out _ _ (by exact ⟨(AX.out.below mH1.out).cell 0, (AX.out.below mH1.out).cell 1, (EX.out.below mH1.out).cell 0, (EX.out.below mH1.out).cell 1, (EX.out.below mH1.out).cell 2⟩) (fun hHeld => ?_)
      clear hK K
      (try simp only [Act.put, List.setIfInBounds_toArray, List.set_cons_zero, List.set_cons_succ])
      refine wpAnyH_ready (rs := [3, 8]) (by kernel_rfl) (by simp) ?_
      refine AllReadyH.cons (o := ?_) ?_ (fun K hK => ?_) ?_
      rotate_left 1
      · (simp only [List.getElem?_toArray, List.getElem?_cons_zero, List.getElem?_cons_succ]; try rfl)
      · go_simp
        refine (toEdit_any a1 m1 A1 l1 c1 _ (by omega) (by exact HL.out.below mH1.out)).mono ?_
        rintro e my2 ⟨v, rfl, hown, hb⟩
        obtain ⟨mP, me, rfl, _, _, _⟩ := hown.form
        have mL := Lib.hid (own_bs9 hown)
        have mO2 := Lib.hid ((mO.out.below (Below.refl my1.heap.size my1)).below hb)
        have zc2 := hb.size
        try simp only [World.size_alloc, World.size_drew] at zc2
        clear hown mO
        have zY2 := mH1.out.size
        have mH2 := Lib.hid (below_then mH1.out hb)
        clear hb
        go_wp2_with fail
        refine hK.out _ _ (by exact ⟨(AX.out.below mH2.out).cell 0, (AX.out.below mH2.out).cell 1, (EX.out.below mH2.out).cell 0, (EX.out.below mH2.out).cell 1, (EX.out.below mH2.out).cell 2⟩) (fun hHeld => ?_)
        clear hK K
        (try simp only [Act.put, List.setIfInBounds_toArray, List.set_cons_zero, List.set_cons_succ])
        refine wpAnyH_ready (rs := [4, 8]) (by kernel_rfl) (by simp) ?_
        refine AllReadyH.cons (o := ?_) ?_ (fun K hK => ?_) ?_
        rotate_left 1
        · (simp only [List.getElem?_toArray, List.getElem?_cons_zero, List.getElem?_cons_succ]; try rfl)
        · go_simp
          have mO3 := Lib.hid (mO2.out.below (Below.refl my2.heap.size my2))
          have mL3 := Lib.hid (mL.out.below (Below.refl my2.heap.size my2))
          refine (specStackMoved_any mA u0 mc mB r0 md a1 m1 mP l1 me _ hu9 hr9 hl9 (by exact mO3.out.u.es) (by exact mO3.out.r.es)).mono ?_
          rintro e my3 ⟨oA, oc, of, oB, od, og, rfl, hrd, hsd, hb⟩
          rw [HV.out] at hrd
          rw [HVM.out] at hsd
          rw [HZ.out, HV.out, HVM.out]
          have zc3 := mH2.out.size
          have zc4 := hrd.lo
          have oR := Lib.hid hrd
          have zc5 := hsd.lo
          have oS := Lib.hid hsd
          try simp only [World.size_alloc, World.size_drew] at zc3
          try simp only [World.size_alloc, World.size_drew] at zc4
          try simp only [World.size_alloc, World.size_drew] at zc5
          clear hrd hsd mO2 mO3 mL mL3
          have zY3 := mH2.out.size
          have mH3 := Lib.hid (below_then mH2.out hb)
          clear hb
          go_wp2_with fail
          refine hK.out _ _ (by exact ⟨(AX.out.below mH3.out).cell 0, (AX.out.below mH3.out).cell 1, (EX.out.below mH3.out).cell 0, (EX.out.below mH3.out).cell 1, (EX.out.below mH3.out).cell 2⟩) (fun hHeld => ?_)
          clear hK K
          (try simp only [Act.put, List.setIfInBounds_toArray, List.set_cons_zero, List.set_cons_succ])
          refine wpAnyH_take (i := 5) (oi := ?_) (v := ?_) ?_ ?_ ?_ ?_ ?_ ?_ (by exact hHeld) ?_
          rotate_left 2
          · (simp only [List.getElem?_toArray, List.getElem?_cons_zero, List.getElem?_cons_succ]; try rfl)
          · kernel_rfl
          · kernel_rfl
          · kernel_rfl
          · exact fun _ _ _ h => h
          · refine Or.inl ⟨by rfl, ?_⟩
            (intro V hSV; (try dsimp only at hSV); obtain ⟨q0, q1, q2, q3, q4⟩ := hSV; go_simp; try with_reducible rfl)
          (try simp only [Act.put, List.setIfInBounds_toArray, List.set_cons_zero, List.set_cons_succ])
          refine wpAnyH_take (i := 6) (oi := ?_) (v := ?_) ?_ ?_ ?_ ?_ ?_ ?_ (by exact hHeld) ?_
          rotate_left 2
          · (simp only [List.getElem?_toArray, List.getElem?_cons_zero, List.getElem?_cons_succ]; try rfl)
          · kernel_rfl
          · kernel_rfl
          · kernel_rfl
          · exact fun _ _ _ h => h
          · refine Or.inl ⟨by rfl, ?_⟩
            (intro V hSV; (try dsimp only at hSV); obtain ⟨q0, q1, q2, q3, q4⟩ := hSV; go_simp; try with_reducible rfl)
          (try simp only [Act.put, List.setIfInBounds_toArray, List.set_cons_zero, List.set_cons_succ])
          refine wpAnyH_take (i := 7) (oi := ?_) (v := ?_) ?_ ?_ ?_ ?_ ?_ ?_ (by exact hHeld) ?_
          rotate_left 2
          · (simp only [List.getElem?_toArray, List.getElem?_cons_zero, List.getElem?_cons_succ]; try rfl)
          · kernel_rfl
          · kernel_rfl
          · kernel_rfl
          · exact fun _ _ _ h => h
          · refine Or.inl ⟨by rfl, ?_⟩
            (intro V hSV; (try dsimp only at hSV); obtain ⟨q0, q1, q2, q3, q4⟩ := hSV; go_simp; try with_reducible rfl)
          (try simp only [Act.put, List.setIfInBounds_toArray, List.set_cons_zero, List.set_cons_succ])
          refine wpAnyH_ready (rs := [8]) (by kernel_rfl) (by simp) ?_
          refine AllReadyH.cons (o := ?_) ?_ (fun K hK => ?_) AllReadyH.nil
          rotate_left 1
          · (simp only [List.getElem?_toArray, List.getElem?_cons_zero, List.getElem?_cons_succ]; try rfl)
          have zA := mH3.out.size
          have mH4 := Lib.hid (mH3.out.alloc mH3.out.size (.cells #[.slice none 0 0, .slice none 0 0] 46))
          go_simp
          refine hK.out _ _ (by exact ⟨(AX.out.below mH4.out).cell 0, (AX.out.below mH4.out).cell 1, (EX.out.below mH4.out).cell 0, (EX.out.below mH4.out).cell 1, (EX.out.below mH4.out).cell 2⟩) (fun hHeld => ?_)
          clear hK K
          (try simp only [Act.put, List.setIfInBounds_toArray, List.set_cons_zero, List.set_cons_succ])
          refine wpAnyH_ready (rs := [9]) (by kernel_rfl) (by simp) ?_
          refine AllReadyH.cons (o := ?_) ?_ (fun K hK => ?_) AllReadyH.nil
          rotate_left 1
          · (simp only [List.getElem?_toArray, List.getElem?_cons_zero, List.getElem?_cons_succ]; try rfl)
          have HF := Lib.hid (mH3.out.alloc mH3.out.size (.cells #[.slice oA L.length oc, .slice oB M.length od] 46))
          go_simp
          refine hK.out _ _ (by exact ⟨(AX.out.below HF.out).cell 0, (AX.out.below HF.out).cell 1, (EX.out.below HF.out).cell 0, (EX.out.below HF.out).cell 1, (EX.out.below HF.out).cell 2⟩) (fun hHeld => ?_)
          clear hK K
          (try simp only [Act.put, List.setIfInBounds_toArray, List.set_cons_zero, List.set_cons_succ])
          refine wpAnyH_take (i := 10) (oi := ?_) (v := ?_) ?_ ?_ ?_ ?_ ?_ ?_ (by exact hHeld) ?_
          rotate_left 2
          · (simp only [List.getElem?_toArray, List.getElem?_cons_zero, List.getElem?_cons_succ]; try rfl)
          · kernel_rfl
          · kernel_rfl
          · kernel_rfl
          · exact fun _ _ _ h => h
          · refine Or.inl ⟨by rfl, ?_⟩
            (intro V hSV; (try dsimp only at hSV); obtain ⟨q0, q1, q2, q3, q4⟩ := hSV; go_simp; try with_reducible rfl)
          (try simp only [Act.put, List.setIfInBounds_toArray, List.set_cons_zero, List.set_cons_succ])
          refine wpAnyH_done (by kernel_rfl) ?_ _
          refine NoPanic.normal ?_
          go_wp2_with fail
          go_meet
          have BF := Lib.hid (Blk.new my3 #[.slice oA L.length oc, .slice oB M.length od] 46)
          have zF := mH3.out.size
          have RD := Lib.hid ((oR.out.mono (show s1.heap.size ≤ _ by omega)).below ((Below.refl my3.heap.size my3).alloc (Nat.le_refl _) (.cells #[.slice oA L.length oc, .slice oB M.length od] 46)))
          have SD := Lib.hid ((oS.out.mono (show s1.heap.size ≤ _ by omega)).below ((Below.refl my3.heap.size my3).alloc (Nat.le_refl _) (.cells #[.slice oA L.length oc, .slice oB M.length od] 46)))
          exact ⟨my3.heap.size, _, _, _, _, _, _, rfl, rfl, BF.out, by omega, RD.out, SD.out, HF.out⟩
        refine AllReadyH.cons (o := ?_) ?_ (fun K hK => ?_) AllReadyH.nil
        rotate_left 1
        · (simp only [List.getElem?_toArray, List.getElem?_cons_zero, List.getElem?_cons_succ]; try rfl)
        have zA := mH2.out.size
        have mH3 := Lib.hid (mH2.out.alloc mH2.out.size (.cells #[.slice none 0 0, .slice none 0 0] 46))
        have BX := Lib.hid (Blk.new (my2) #[.slice none 0 0, .slice none 0 0] 46)
        go_simp
        refine hK.out _ _ (by exact ⟨(AX.out.below mH3.out).cell 0, (AX.out.below mH3.out).cell 1, (EX.out.below mH3.out).cell 0, (EX.out.below mH3.out).cell 1, (EX.out.below mH3.out).cell 2⟩) (fun hHeld => ?_)
        clear hK K
        (try simp only [Act.put, List.setIfInBounds_toArray, List.set_cons_zero, List.set_cons_succ])
        refine wpAnyH_ready (rs := [4]) (by kernel_rfl) (by simp) ?_
        refine AllReadyH.cons (o := ?_) ?_ (fun K hK => ?_) AllReadyH.nil
        rotate_left 1
        · (simp only [List.getElem?_toArray, List.getElem?_cons_zero, List.getElem?_cons_succ]; try rfl)
        go_simp
        have mO3 := Lib.hid (mO2.out.below ((Below.refl my2.heap.size my2).alloc (Nat.le_refl _) (.cells #[.slice none 0 0, .slice none 0 0] 46)))
        have mL3 := Lib.hid (mL.out.below ((Below.refl my2.heap.size my2).alloc (Nat.le_refl _) (.cells #[.slice none 0 0, .slice none 0 0] 46)))
        refine (specStackMoved_any mA u0 mc mB r0 md a1 m1 mP l1 me _ hu9 hr9 hl9 (by exact mO3.out.u.es) (by exact mO3.out.r.es)).mono ?_
        rintro e my3 ⟨oA, oc, of, oB, od, og, rfl, hrd, hsd, hb⟩
        rw [HV.out] at hrd
        rw [HVM.out] at hsd
        rw [HZ.out, HV.out, HVM.out]
        have zc3 := mH3.out.size
        have zc4 := hrd.lo
        have oR := Lib.hid hrd
        have zc5 := hsd.lo
        have oS := Lib.hid hsd
        try simp only [World.size_alloc, World.size_drew] at zc3
        try simp only [World.size_alloc, World.size_drew] at zc4
        try simp only [World.size_alloc, World.size_drew] at zc5
        clear hrd hsd mO2 mO3 mL mL3
        have zY4 := mH3.out.size
        have mH4 := Lib.hid (below_then mH3.out hb)
        have BX := Lib.hid (BX.out.below hb)
        clear hb
        go_wp2_with fail
        refine hK.out _ _ (by exact ⟨(AX.out.below mH4.out).cell 0, (AX.out.below mH4.out).cell 1, (EX.out.below mH4.out).cell 0, (EX.out.below mH4.out).cell 1, (EX.out.below mH4.out).cell 2⟩) (fun hHeld => ?_)
        clear hK K
        (try simp only [Act.put, List.setIfInBounds_toArray, List.set_cons_zero, List.set_cons_succ])
        refine wpAnyH_take (i := 5) (oi := ?_) (v := ?_) ?_ ?_ ?_ ?_ ?_ ?_ (by exact hHeld) ?_
        rotate_left 2
        · (simp only [List.getElem?_toArray, List.getElem?_cons_zero, List.getElem?_cons_succ]; try rfl)
        · kernel_rfl
        · kernel_rfl
        · kernel_rfl
        · exact fun _ _ _ h => h
        · refine Or.inl ⟨by rfl, ?_⟩
          (intro V hSV; (try dsimp only at hSV); obtain ⟨q0, q1, q2, q3, q4⟩ := hSV; go_simp; try with_reducible rfl)
        (try simp only [Act.put, List.setIfInBounds_toArray, List.set_cons_zero, List.set_cons_succ])
        refine wpAnyH_take (i := 6) (oi := ?_) (v := ?_) ?_ ?_ ?_ ?_ ?_ ?_ (by exact hHeld) ?_
        rotate_left 2
        · (simp only [List.getElem?_toArray, List.getElem?_cons_zero, List.getElem?_cons_succ]; try rfl)
        · kernel_rfl
        · kernel_rfl
        · kernel_rfl
        · exact fun _ _ _ h => h
        · refine Or.inl ⟨by rfl, ?_⟩
          (intro V hSV; (try dsimp only at hSV); obtain ⟨q0, q1, q2, q3, q4⟩ := hSV; go_simp; try with_reducible rfl)
        (try simp only [Act.put, List.setIfInBounds_toArray, List.set_cons_zero, List.set_cons_succ])
        refine wpAnyH_take (i := 7) (oi := ?_) (v := ?_) ?_ ?_ ?_ ?_ ?_ ?_ (by exact hHeld) ?_
        rotate_left 2
        · (simp only [List.getElem?_toArray, List.getElem?_cons_zero, List.getElem?_cons_succ]; try rfl)
        · kernel_rfl
        · kernel_rfl
        · kernel_rfl
        · exact fun _ _ _ h => h
        · refine Or.inl ⟨by rfl, ?_⟩
          (intro V hSV; (try dsimp only at hSV); obtain ⟨q0, q1, q2, q3, q4⟩ := hSV; go_simp; try with_reducible rfl)
        (try simp only [Act.put, List.setIfInBounds_toArray, List.set_cons_zero, List.set_cons_succ])
        have zB := BX.out.lt
        have nb0 := AX.out.lt
        have nb1 := EX.out.lt
        have g0 := BX.out.cell 0
        have f0 := BX.out.frozen 0
        have g1 := BX.out.cell 1
        have f1 := BX.out.frozen 1
        have zz9 : s1.heap.size ≤ my2.heap.size := by first | exact Nat.le_refl _ | omega
        have BF : Hid (Blk (((my3.setCell ⟨my2.heap.size, 0, none⟩ (.slice oA L.length oc)).setCell ⟨my2.heap.size, 1, none⟩ (.slice oB M.length od))) my2.heap.size #[.slice oA L.length oc, .slice oB M.length od] 46) := Lib.hid (by simpa using ((BX.out.set 0 (.slice oA L.length oc)).set 1 (.slice oB M.length od)))
        have HF : Hid (Below s1.heap.size s1 (((my3.setCell ⟨my2.heap.size, 0, none⟩ (.slice oA L.length oc)).setCell ⟨my2.heap.size, 1, none⟩ (.slice oB M.length od)))) := Lib.hid ((mH4.out.setCell (p := ⟨my2.heap.size, 0, none⟩) (by omega) (.slice oA L.length oc)).setCell (p := ⟨my2.heap.size, 1, none⟩) (by omega) (.slice oB M.length od))
        refine wpAnyH_ready (rs := [9]) (by kernel_rfl) (by simp) ?_
        refine AllReadyH.cons (o := ?_) ?_ (fun K hK => ?_) AllReadyH.nil
        rotate_left 1
        · (simp only [List.getElem?_toArray, List.getElem?_cons_zero, List.getElem?_cons_succ]; try rfl)
        go_simp
        refine hK.out _ _ (by exact ⟨(AX.out.below HF.out).cell 0, (AX.out.below HF.out).cell 1, (EX.out.below HF.out).cell 0, (EX.out.below HF.out).cell 1, (EX.out.below HF.out).cell 2⟩) (fun hHeld => ?_)
        clear hK K
        (try simp only [Act.put, List.setIfInBounds_toArray, List.set_cons_zero, List.set_cons_succ])
        refine wpAnyH_take (i := 10) (oi := ?_) (v := ?_) ?_ ?_ ?_ ?_ ?_ ?_ (by exact hHeld) ?_
        rotate_left 2
        · (simp only [List.getElem?_toArray, List.getElem?_cons_zero, List.getElem?_cons_succ]; try rfl)
        · kernel_rfl
        · kernel_rfl
        · kernel_rfl
        · exact fun _ _ _ h => h
        · refine Or.inl ⟨by rfl, ?_⟩
          (intro V hSV; (try dsimp only at hSV); obtain ⟨q0, q1, q2, q3, q4⟩ := hSV; go_simp; try with_reducible rfl)
        (try simp only [Act.put, List.setIfInBounds_toArray, List.set_cons_zero, List.set_cons_succ])
        refine wpAnyH_done (by kernel_rfl) ?_ _
        refine NoPanic.normal ?_
        go_wp2_with fail
        go_meet
        have hk9 := ((Keeps.refl [my2.heap.size] my3).set (g := my2.heap.size) (by simp) 0 (.slice oA L.length oc)).set (g := my2.heap.size) (by simp) 1 (.slice oB M.length od)
        have RD := Lib.hid ((oR.out.mono (show s1.heap.size ≤ _ by (try simp only [World.size_alloc, World.size_drew]); omega)).keeps hk9 (fun q hq => by have := (zc4 q hq).1; simp only [List.mem_singleton]; omega))
        have SD := Lib.hid ((oS.out.mono (show s1.heap.size ≤ _ by (try simp only [World.size_alloc, World.size_drew]); omega)).keeps hk9 (fun q hq => by have := (zc5 q hq).1; simp only [List.mem_singleton]; omega))
        exact ⟨my2.heap.size, _, _, _, _, _, _, rfl, rfl, BF.out, by omega, RD.out, SD.out, HF.out⟩
      refine AllReadyH.cons (o := ?_) ?_ (fun K hK => ?_) AllReadyH.nil
      rotate_left 1
      · (simp only [List.getElem?_toArray, List.getElem?_cons_zero, List.getElem?_cons_succ]; try rfl)
      have zA := mH1.out.size
      have mH2 := Lib.hid (mH1.out.alloc mH1.out.size (.cells #[.slice none 0 0, .slice none 0 0] 46))
      have BX := Lib.hid (Blk.new (my1) #[.slice none 0 0, .slice none 0 0] 46)
      go_simp
      refine hK.out _ _ (by exact ⟨(AX.out.below mH2.out).cell 0, (AX.out.below mH2.out).cell 1, (EX.out.below mH2.out).cell 0, (EX.out.below mH2.out).cell 1, (EX.out.below mH2.out).cell 2⟩) (fun hHeld => ?_)
      clear hK K
      (try simp only [Act.put, List.setIfInBounds_toArray, List.set_cons_zero, List.set_cons_succ])
      refine wpAnyH_ready (rs := [3]) (by kernel_rfl) (by simp) ?_
      refine AllReadyH.cons (o := ?_) ?_ (fun K hK => ?_) AllReadyH.nil
      rotate_left 1
      · (simp only [List.getElem?_toArray, List.getElem?_cons_zero, List.getElem?_cons_succ]; try rfl)
      go_simp
      refine (toEdit_any a1 m1 A1 l1 c1 _ (by omega) (by exact HL.out.below mH2.out)).mono ?_
      rintro e my2 ⟨v, rfl, hown, hb⟩
      obtain ⟨mP, me, rfl, _, _, _⟩ := hown.form
      have mL := Lib.hid (own_bs9 hown)
      have mO2 := Lib.hid ((mO.out.below ((Below.refl my1.heap.size my1).alloc (Nat.le_refl _) (.cells #[.slice none 0 0, .slice none 0 0] 46))).below hb)
      have zc2 := hb.size
      try simp only [World.size_alloc, World.size_drew] at zc2
      clear hown mO
      have zY3 := mH2.out.size
      have mH3 := Lib.hid (below_then mH2.out hb)
      have BX := Lib.hid (BX.out.below hb)
      clear hb
      go_wp2_with fail
      refine hK.out _ _ (by exact ⟨(AX.out.below mH3.out).cell 0, (AX.out.below mH3.out).cell 1, (EX.out.below mH3.out).cell 0, (EX.out.below mH3.out).cell 1, (EX.out.below mH3.out).cell 2⟩) (fun hHeld => ?_)
      clear hK K
      (try simp only [Act.put, List.setIfInBounds_toArray, List.set_cons_zero, List.set_cons_succ])
      refine wpAnyH_ready (rs := [4]) (by kernel_rfl) (by simp) ?_
      refine AllReadyH.cons (o := ?_) ?_ (fun K hK => ?_) AllReadyH.nil
      rotate_left 1
      · (simp only [List.getElem?_toArray, List.getElem?_cons_zero, List.getElem?_cons_succ]; try rfl)
      go_simp
      have mO3 := Lib.hid (mO2.out.below (Below.refl my2.heap.size my2))
      have mL3 := Lib.hid (mL.out.below (Below.refl my2.heap.size my2))
      refine (specStackMoved_any mA u0 mc mB r0 md a1 m1 mP l1 me _ hu9 hr9 hl9 (by exact mO3.out.u.es) (by exact mO3.out.r.es)).mono ?_
      rintro e my3 ⟨oA, oc, of, oB, od, og, rfl, hrd, hsd, hb⟩
      rw [HV.out] at hrd
      rw [HVM.out] at hsd
      rw [HZ.out, HV.out, HVM.out]
      have zc3 := mH3.out.size
      have zc4 := hrd.lo
      have oR := Lib.hid hrd
      have zc5 := hsd.lo
      have oS := Lib.hid hsd
      try simp only [World.size_alloc, World.size_drew] at zc3
      try simp only [World.size_alloc, World.size_drew] at zc4
      try simp only [World.size_alloc, World.size_drew] at zc5
      clear hrd hsd mO2 mO3 mL mL3
      have zY4 := mH3.out.size
      have mH4 := Lib.hid (below_then mH3.out hb)
      have BX := Lib.hid (BX.out.below hb)
      clear hb
      go_wp2_with fail
      refine hK.out _ _ (by exact ⟨(AX.out.below mH4.out).cell 0, (AX.out.below mH4.out).cell 1, (EX.out.below mH4.out).cell 0, (EX.out.below mH4.out).cell 1, (EX.out.below mH4.out).cell 2⟩) (fun hHeld => ?_)
      clear hK K
      (try simp only [Act.put, List.setIfInBounds_toArray, List.set_cons_zero, List.set_cons_succ])
      refine wpAnyH_take (i := 5) (oi := ?_) (v := ?_) ?_ ?_ ?_ ?_ ?_ ?_ (by exact hHeld) ?_
      rotate_left 2
      · (simp only [List.getElem?_toArray, List.getElem?_cons_zero, List.getElem?_cons_succ]; try rfl)
      · kernel_rfl
      · kernel_rfl
      · kernel_rfl
      · exact fun _ _ _ h => h
      · refine Or.inl ⟨by rfl, ?_⟩
        (intro V hSV; (try dsimp only at hSV); obtain ⟨q0, q1, q2, q3, q4⟩ := hSV; go_simp; try with_reducible rfl)
      (try simp only [Act.put, List.setIfInBounds_toArray, List.set_cons_zero, List.set_cons_succ])
      refine wpAnyH_take (i := 6) (oi := ?_) (v := ?_) ?_ ?_ ?_ ?_ ?_ ?_ (by exact hHeld) ?_
      rotate_left 2
      · (simp only [List.getElem?_toArray, List.getElem?_cons_zero, List.getElem?_cons_succ]; try rfl)
      · kernel_rfl
      · kernel_rfl
      · kernel_rfl
      · exact fun _ _ _ h => h
      · refine Or.inl ⟨by rfl, ?_⟩
        (intro V hSV; (try dsimp only at hSV); obtain ⟨q0, q1, q2, q3, q4⟩ := hSV; go_simp; try with_reducible rfl)
      (try simp only [Act.put, List.setIfInBounds_toArray, List.set_cons_zero, List.set_cons_succ])
      refine wpAnyH_take (i := 7) (oi := ?_) (v := ?_) ?_ ?_ ?_ ?_ ?_ ?_ (by exact hHeld) ?_
      rotate_left 2
      · (simp only [List.getElem?_toArray, List.getElem?_cons_zero, List.getElem?_cons_succ]; try rfl)
      · kernel_rfl
      · kernel_rfl
      · kernel_rfl
      · exact fun _ _ _ h => h
      · refine Or.inl ⟨by rfl, ?_⟩
        (intro V hSV; (try dsimp only at hSV); obtain ⟨q0, q1, q2, q3, q4⟩ := hSV; go_simp; try with_reducible rfl)
      (try simp only [Act.put, List.setIfInBounds_toArray, List.set_cons_zero, List.set_cons_succ])
      have zB := BX.out.lt
      have nb0 := AX.out.lt
      have nb1 := EX.out.lt
      have g0 := BX.out.cell 0
      have f0 := BX.out.frozen 0
      have g1 := BX.out.cell 1
      have f1 := BX.out.frozen 1
      have zz9 : s1.heap.size ≤ my1.heap.size := by first | exact Nat.le_refl _ | omega
      have BF : Hid (Blk (((my3.setCell ⟨my1.heap.size, 0, none⟩ (.slice oA L.length oc)).setCell ⟨my1.heap.size, 1, none⟩ (.slice oB M.length od))) my1.heap.size #[.slice oA L.length oc, .slice oB M.length od] 46) := Lib.hid (by simpa using ((BX.out.set 0 (.slice oA L.length oc)).set 1 (.slice oB M.length od)))
      have HF : Hid (Below s1.heap.size s1 (((my3.setCell ⟨my1.heap.size, 0, none⟩ (.slice oA L.length oc)).setCell ⟨my1.heap.size, 1, none⟩ (.slice oB M.length od)))) := Lib.hid ((mH4.out.setCell (p := ⟨my1.heap.size, 0, none⟩) (by omega) (.slice oA L.length oc)).setCell (p := ⟨my1.heap.size, 1, none⟩) (by omega) (.slice oB M.length od))
      refine wpAnyH_ready (rs := [9]) (by kernel_rfl) (by simp) ?_
      refine AllReadyH.cons (o := ?_) ?_ (fun K hK => ?_) AllReadyH.nil
      rotate_left 1
      · (simp only [List.getElem?_toArray, List.getElem?_cons_zero, List.getElem?_cons_succ]; try rfl)
      go_simp
      refine hK.out _ _ (by exact ⟨(AX.out.below HF.out).cell 0, (AX.out.below HF.out).cell 1, (EX.out.below HF.out).cell 0, (EX.out.below HF.out).cell 1, (EX.out.below HF.out).cell 2⟩) (fun hHeld => ?_)
      clear hK K
      (try simp only [Act.put, List.setIfInBounds_toArray, List.set_cons_zero, List.set_cons_succ])
      refine wpAnyH_take (i := 10) (oi := ?_) (v := ?_) ?_ ?_ ?_ ?_ ?_ ?_ (by exact hHeld) ?_
      rotate_left 2
      · (simp only [List.getElem?_toArray, List.getElem?_cons_zero, List.getElem?_cons_succ]; try rfl)
      · kernel_rfl
      · kernel_rfl
      · kernel_rfl
      · exact fun _ _ _ h => h
      · refine Or.inl ⟨by rfl, ?_⟩
        (intro V hSV; (try dsimp only at hSV); obtain ⟨q0, q1, q2, q3, q4⟩ := hSV; go_simp; try with_reducible rfl)
      (try simp only [Act.put, List.setIfInBounds_toArray, List.set_cons_zero, List.set_cons_succ])
      refine wpAnyH_done (by kernel_rfl) ?_ _
      refine NoPanic.normal ?_
      go_wp2_with fail
      go_meet
      have hk9 := ((Keeps.refl [my1.heap.size] my3).set (g := my1.heap.size) (by simp) 0 (.slice oA L.length oc)).set (g := my1.heap.size) (by simp) 1 (.slice oB M.length od)
      have RD := Lib.hid ((oR.out.mono (show s1.heap.size ≤ _ by (try simp only [World.size_alloc, World.size_drew]); omega)).keeps hk9 (fun q hq => by have := (zc4 q hq).1; simp only [List.mem_singleton]; omega))
      have SD := Lib.hid ((oS.out.mono (show s1.heap.size ≤ _ by (try simp only [World.size_alloc, World.size_drew]); omega)).keeps hk9 (fun q hq => by have := (zc5 q hq).1; simp only [List.mem_singleton]; omega))
      exact ⟨my1.heap.size, _, _, _, _, _, _, rfl, rfl, BF.out, by omega, RD.out, SD.out, HF.out⟩
    refine AllReadyH.cons (o := ?_) ?_ (fun K hK => ?_) AllReadyH.nil
    rotate_left 1
    · (simp only [List.getElem?_toArray, List.getElem?_cons_zero, List.getElem?_cons_succ]; try rfl)
    have zA := mH0.out.size
    have mH1 := Lib.hid (mH0.out.alloc mH0.out.size (.cells #[.slice none 0 0, .slice none 0 0] 46))
    have BX := Lib.hid (Blk.new (s1.drew) #[.slice none 0 0, .slice none 0 0] 46)
    have BX := Lib.hid (show Blk (s1.drew.alloc (.cells #[.slice none 0 0, .slice none 0 0] 46)) s1.heap.size #[.slice none 0 0, .slice none 0 0] 46 from by have h9 := BX.out; rw [World.size_drew] at h9; exact h9)
    go_simp
    refine hK.out _ _ (by exact ⟨(AX.out.below mH1.out).cell 0, (AX.out.below mH1.out).cell 1, (EX.out.below mH1.out).cell 0, (EX.out.below mH1.out).cell 1, (EX.out.below mH1.out).cell 2⟩) (fun hHeld => ?_)
    clear hK K
    (try simp only [Act.put, List.setIfInBounds_toArray, List.set_cons_zero, List.set_cons_succ])
    refine wpAnyH_ready (rs := [1]) (by kernel_rfl) (by simp) ?_
    refine AllReadyH.cons (o := ?_) ?_ (fun K hK => ?_) AllReadyH.nil
    rotate_left 1
    · (simp only [List.getElem?_toArray, List.getElem?_cons_zero, List.getElem?_cons_succ]; try rfl)
    go_simp
    refine (toStack_any A0 u0 c0 B0 r0 d0 _ (by omega) (by omega) (by exact HU.out.below mH1.out) (by exact HR.out.below mH1.out)).mono ?_
    rintro e my1 ⟨mA, mc, mf, mB, md, mg, rfl, ho, hb⟩
    have mO := Lib.hid ho
    have zc1 := hb.size
    try simp only [World.size_alloc, World.size_drew] at zc1
    clear ho
    have zY2 := mH1.out.size
    have mH2 := Lib.hid (below_then mH1.out hb)
    have BX := Lib.hid (BX.out.below hb)
    clear hb
    go_wp2_with fail
    refine hK.out _ _ (by exact ⟨(AX.out.below mH2.out).cell 0, (AX.out.below mH2.out).cell 1, (EX.out.below mH2.out).cell 0, (EX.out.below mH2.out).cell 1, (EX.out.below mH2.out).cell 2⟩) (fun hHeld => ?_)
    clear hK K
    (try simp only [Act.put, List.setIfInBounds_toArray, List.set_cons_zero, List.set_cons_succ])
    refine wpAnyH_ready (rs := [3]) (by kernel_rfl) (by simp) ?_
    refine AllReadyH.cons (o := ?_) ?_ (fun K hK => ?_) AllReadyH.nil
    rotate_left 1
    · (simp only [List.getElem?_toArray, List.getElem?_cons_zero, List.getElem?_cons_succ]; try rfl)
    go_simp
    refine (toEdit_any a1 m1 A1 l1 c1 _ (by omega) (by exact HL.out.below mH2.out)).mono ?_
    rintro e my2 ⟨v, rfl, hown, hb⟩
    obtain ⟨mP, me, rfl, _, _, _⟩ := hown.form
    have mL := Lib.hid (own_bs9 hown)
    have mO2 := Lib.hid ((mO.out.below (Below.refl my1.heap.size my1)).below hb)
    have zc2 := hb.size
    try simp only [World.size_alloc, World.size_drew] at zc2
    clear hown mO
    have zY3 := mH2.out.size
    have mH3 := Lib.hid (below_then mH2.out hb)
    have BX := Lib.hid (BX.out.below hb)
    clear hb
    go_wp2_with fail
    refine hK.out _ _ (by exact ⟨(AX.out.below mH3.out).cell 0, (AX.out.below mH3.out).cell 1, (EX.out.below mH3.out).cell 0, (EX.out.below mH3.out).cell 1, (EX.out.below mH3.out).cell 2⟩) (fun hHeld => ?_)
    clear hK K
    (try simp only [Act.put, List.setIfInBounds_toArray, List.set_cons_zero, List.set_cons_succ])
    refine wpAnyH_ready (rs := [4]) (by kernel_rfl) (by simp) ?_
    refine AllReadyH.cons (o := ?_) ?_ (fun K hK => ?_) AllReadyH.nil
    rotate_left 1
    · (simp only [List.getElem?_toArray, List.getElem?_cons_zero, List.getElem?_cons_succ]; try rfl)
    go_simp
    have mO3 := Lib.hid (mO2.out.below (Below.refl my2.heap.size my2))
    have mL3 := Lib.hid (mL.out.below (Below.refl my2.heap.size my2))
    refine (specStackMoved_any mA u0 mc mB r0 md a1 m1 mP l1 me _ hu9 hr9 hl9 (by exact mO3.out.u.es) (by exact mO3.out.r.es)).mono ?_
    rintro e my3 ⟨oA, oc, of, oB, od, og, rfl, hrd, hsd, hb⟩
    rw [HV.out] at hrd
    rw [HVM.out] at hsd
    rw [HZ.out, HV.out, HVM.out]
    have zc3 := mH3.out.size
    have zc4 := hrd.lo
    have oR := Lib.hid hrd
    have zc5 := hsd.lo
    have oS := Lib.hid hsd
    try simp only [World.size_alloc, World.size_drew] at zc3
    try simp only [World.size_alloc, World.size_drew] at zc4
    try simp only [World.size_alloc, World.size_drew] at zc5
    clear hrd hsd mO2 mO3 mL mL3
    have zY4 := mH3.out.size
    have mH4 := Lib.hid (below_then mH3.out hb)
    have BX := Lib.hid (BX.out.below hb)
    clear hb
    go_wp2_with fail
    refine hK.out _ _ (by exact ⟨(AX.out.below mH4.out).cell 0, (AX.out.below mH4.out).cell 1, (EX.out.below mH4.out).cell 0, (EX.out.below mH4.out).cell 1, (EX.out.below mH4.out).cell 2⟩) (fun hHeld => ?_)
    clear hK K
    (try simp only [Act.put, List.setIfInBounds_toArray, List.set_cons_zero, List.set_cons_succ])
    refine wpAnyH_take (i := 5) (oi := ?_) (v := ?_) ?_ ?_ ?_ ?_ ?_ ?_ (by exact hHeld) ?_
    rotate_left 2
    · (simp only [List.getElem?_toArray, List.getElem?_cons_zero, List.getElem?_cons_succ]; try rfl)
    · kernel_rfl
    · kernel_rfl
    · kernel_rfl
    · exact fun _ _ _ h => h
    · refine Or.inl ⟨by rfl, ?_⟩
      (intro V hSV; (try dsimp only at hSV); obtain ⟨q0, q1, q2, q3, q4⟩ := hSV; go_simp; try with_reducible rfl)
    (try simp only [Act.put, List.setIfInBounds_toArray, List.set_cons_zero, List.set_cons_succ])
    refine wpAnyH_take (i := 6) (oi := ?_) (v := ?_) ?_ ?_ ?_ ?_ ?_ ?_ (by exact hHeld) ?_
    rotate_left 2
    · (simp only [List.getElem?_toArray, List.getElem?_cons_zero, List.getElem?_cons_succ]; try rfl)
    · kernel_rfl
    · kernel_rfl
    · kernel_rfl
    · exact fun _ _ _ h => h
    · refine Or.inl ⟨by rfl, ?_⟩
      (intro V hSV; (try dsimp only at hSV); obtain ⟨q0, q1, q2, q3, q4⟩ := hSV; go_simp; try with_reducible rfl)
    (try simp only [Act.put, List.setIfInBounds_toArray, List.set_cons_zero, List.set_cons_succ])
    refine wpAnyH_take (i := 7) (oi := ?_) (v := ?_) ?_ ?_ ?_ ?_ ?_ ?_ (by exact hHeld) ?_
    rotate_left 2
    · (simp only [List.getElem?_toArray, List.getElem?_cons_zero, List.getElem?_cons_succ]; try rfl)
    · kernel_rfl
    · kernel_rfl
    · kernel_rfl
    · exact fun _ _ _ h => h
    · refine Or.inl ⟨by rfl, ?_⟩
      (intro V hSV; (try dsimp only at hSV); obtain ⟨q0, q1, q2, q3, q4⟩ := hSV; go_simp; try with_reducible rfl)
    (try simp only [Act.put, List.setIfInBounds_toArray, List.set_cons_zero, List.set_cons_succ])
    have zB := BX.out.lt
    have nb0 := AX.out.lt
    have nb1 := EX.out.lt
    have g0 := BX.out.cell 0
    have f0 := BX.out.frozen 0
    have g1 := BX.out.cell 1
    have f1 := BX.out.frozen 1
    have zz9 : s1.heap.size ≤ s1.heap.size := by first | exact Nat.le_refl _ | omega
    have BF : Hid (Blk (((my3.setCell ⟨s1.heap.size, 0, none⟩ (.slice oA L.length oc)).setCell ⟨s1.heap.size, 1, none⟩ (.slice oB M.length od))) s1.heap.size #[.slice oA L.length oc, .slice oB M.length od] 46) := Lib.hid (by simpa using ((BX.out.set 0 (.slice oA L.length oc)).set 1 (.slice oB M.length od)))
    have HF : Hid (Below s1.heap.size s1 (((my3.setCell ⟨s1.heap.size, 0, none⟩ (.slice oA L.length oc)).setCell ⟨s1.heap.size, 1, none⟩ (.slice oB M.length od)))) := Lib.hid ((mH4.out.setCell (p := ⟨s1.heap.size, 0, none⟩) (by omega) (.slice oA L.length oc)).setCell (p := ⟨s1.heap.size, 1, none⟩) (by omega) (.slice oB M.length od))
    refine wpAnyH_ready (rs := [9]) (by kernel_rfl) (by simp) ?_
    refine AllReadyH.cons (o := ?_) ?_ (fun K hK => ?_) AllReadyH.nil
    rotate_left 1
    · (simp only [List.getElem?_toArray, List.getElem?_cons_zero, List.getElem?_cons_succ]; try rfl)
    go_simp
    refine hK.out _ _ (by exact ⟨(AX.out.below HF.out).cell 0, (AX.out.below HF.out).cell 1, (EX.out.below HF.out).cell 0, (EX.out.below HF.out).cell 1, (EX.out.below HF.out).cell 2⟩) (fun hHeld => ?_)
    clear hK K
    (try simp only [Act.put, List.setIfInBounds_toArray, List.set_cons_zero, List.set_cons_succ])
    refine wpAnyH_take (i := 10) (oi := ?_) (v := ?_) ?_ ?_ ?_ ?_ ?_ ?_ (by exact hHeld) ?_
    rotate_left 2
    · (simp only [List.getElem?_toArray, List.getElem?_cons_zero, List.getElem?_cons_succ]; try rfl)
    · kernel_rfl
    · kernel_rfl
    · kernel_rfl
    · exact fun _ _ _ h => h
    · refine Or.inl ⟨by rfl, ?_⟩
      (intro V hSV; (try dsimp only at hSV); obtain ⟨q0, q1, q2, q3, q4⟩ := hSV; go_simp; try with_reducible rfl)
    (try simp only [Act.put, List.setIfInBounds_toArray, List.set_cons_zero, List.set_cons_succ])
    refine wpAnyH_done (by kernel_rfl) ?_ _
    refine NoPanic.normal ?_
    go_wp2_with fail
    go_meet
    have hk9 := ((Keeps.refl [s1.heap.size] my3).set (g := s1.heap.size) (by simp) 0 (.slice oA L.length oc)).set (g := s1.heap.size) (by simp) 1 (.slice oB M.length od)
    have RD := Lib.hid ((oR.out.mono (show s1.heap.size ≤ _ by (try simp only [World.size_alloc, World.size_drew]); omega)).keeps hk9 (fun q hq => by have := (zc4 q hq).1; simp only [List.mem_singleton]; omega))
    have SD := Lib.hid ((oS.out.mono (show s1.heap.size ≤ _ by (try simp only [World.size_alloc, World.size_drew]); omega)).keeps hk9 (fun q hq => by have := (zc5 q hq).1; simp only [List.mem_singleton]; omega))
    exact ⟨s1.heap.size, _, _, _, _, _, _, rfl, rfl, BF.out, by omega, RD.out, SD.out, HF.out⟩
  case rest =>
    obtain ⟨ob, oA, oc, of, oB, od, og, rfl, rfl, hOB, zob, hrd, hsd, hb⟩ := hcut
    have OB := Lib.hid hOB
    have oR := Lib.hid hrd
    have oS := Lib.hid hsd
    have zb5 := hsd.lo
    have zb1 := hOB.lt
    have zb2 := hrd.lo
    have zb3 := HB.out.size
    clear p0 p1 p2 p3 p4
    have za1 : w.heap.size + 1 < s1.heap.size := EX.out.lt
    clear hOB hrd hsd HU HR HL
    have AX := Lib.hid (AX.out.below hb)
    have EX := Lib.hid (EX.out.below hb)
    have HB := Lib.hid (below_then HB.out hb)
    clear hb
    have HU := Lib.hid (hU0.below HB.out)
    have HR := Lib.hid (hR0.below HB.out)
    have p0 := AX.out.cell 0
    have p1 := AX.out.cell 1
    go_wp2_with fail
    refine (toStack_any A0 u0 c0 B0 r0 d0 _ (by omega) (by omega) (by exact HU.out) (by exact HR.out)).mono ?_
    rintro e x1 ⟨xA, xc, xf, xB, xd, xg, rfl, ho, hb⟩
    have xRu := Lib.hid ho.u.range
    have xRr := Lib.hid ho.r.range
    have xz := hb.size
    have hal := (Below.refl x1.heap.size x1).alloc (Nat.le_refl _) (.cells #[.slice xA u0.length xc, .slice xB r0.length xd] 46)
    have hb2 := below_then hb hal
    have xO := Lib.hid (ho.below hal)
    have XB := Lib.hid (Blk.new x1 #[.slice xA u0.length xc, .slice xB r0.length xd] 46)
    clear ho HU HR hb hal
    have AX := Lib.hid (AX.out.below hb2)
    have EX := Lib.hid (EX.out.below hb2)
    have OB := Lib.hid (OB.out.below hb2)
    have oR := Lib.hid (oR.out.below hb2)
    have oS := Lib.hid (oS.out.below hb2)
    have HB := Lib.hid (below_then HB.out hb2)
    clear hb2
    clear p0 p1
    have HL := Lib.hid (hL1.below HB.out)
    have p0 := EX.out.cell 0
    have p1 := EX.out.cell 1
    have p2 := EX.out.cell 2
    go_wp2_with fail
    generalize hxw : x1.alloc (.cells #[.slice xA u0.length xc, .slice xB r0.length xd] 46) = xw at *
    have zxw : x1.heap.size < xw.heap.size := XB.out.lt
    clear hxw
    refine (toEdit_any a1 m1 A1 l1 c1 _ (by omega) (by exact HL.out)).mono ?_
    rintro e v1 ⟨yv, rfl, hown, hb⟩
    obtain ⟨yP, ye, rfl, _, _, _⟩ := hown.form
    have yR := Lib.hid hown.range
    have yz := hb.size
    have hal := (Below.refl v1.heap.size v1).alloc (Nat.le_refl _) (.cells #[.int .i64 a1, .int .i64 m1, .slice yP l1.length ye] 30)
    have hb2 := below_then hb hal
    have yL := Lib.hid (hown.below hal)
    have YB := Lib.hid (Blk.new v1 #[.int .i64 a1, .int .i64 m1, .slice yP l1.length ye] 30)
    clear hown hb hal HL
    have AX := Lib.hid (AX.out.below hb2)
    have EX := Lib.hid (EX.out.below hb2)
    have OB := Lib.hid (OB.out.below hb2)
    have oR := Lib.hid (oR.out.below hb2)
    have oS := Lib.hid (oS.out.below hb2)
    have xO := Lib.hid (xO.out.below hb2)
    have XB := Lib.hid (XB.out.below hb2)
    have HB := Lib.hid (below_then HB.out hb2)
    clear hb2
    clear p0 p1 p2
    have q0 := XB.out.cell 0
    have q1 := XB.out.cell 1
    have y0 := YB.out.cell 0
    have y1 := YB.out.cell 1
    have y2 := YB.out.cell 2
    go_wp2_with fail
    generalize hvw : v1.alloc (.cells #[.int .i64 a1, .int .i64 m1, .slice yP l1.length ye] 30) = vw at *
    have zvw : v1.heap.size < vw.heap.size := YB.out.lt
    clear hvw
    refine (implStackMoved_any xA u0 xc xB r0 xd a1 m1 yP l1 ye _ hu9 hr9 hl9 ha1 hn1 xO.out.u.es xO.out.r.es (own_bs9 yL.out)).mono ?_
    rintro e g1 ⟨gA, gc, gf, gB, gd, gg, rfl, ho, hb⟩
    rw [HZ.out, HV.out, HVM.out]
    rw [HV.out, HVM.out] at ho
    have gRu := Lib.hid ho.u.range
    have gRr := Lib.hid ho.r.range
    have gz := hb.size
    have hal := (Below.refl g1.heap.size g1).alloc (Nat.le_refl _) (.cells #[.slice gA L.length gc, .slice gB M.length gd] 46)
    have hb2 := below_then hb hal
    have gO := Lib.hid (ho.below hal)
    have GB := Lib.hid (Blk.new g1 #[.slice gA L.length gc, .slice gB M.length gd] 46)
    clear ho hb hal
    clear q0 q1
    clear y0 y1 y2
    have AX := Lib.hid (AX.out.below hb2)
    have EX := Lib.hid (EX.out.below hb2)
    have OB := Lib.hid (OB.out.below hb2)
    have oR := Lib.hid (oR.out.below hb2)
    have oS := Lib.hid (oS.out.below hb2)
    have xO := Lib.hid (xO.out.below hb2)
    have XB := Lib.hid (XB.out.below hb2)
    have yL := Lib.hid (yL.out.below hb2)
    have YB := Lib.hid (YB.out.below hb2)
    have HB := Lib.hid (below_then HB.out hb2)
    clear hb2
    have q0 := GB.out.cell 0
    have q1 := GB.out.cell 1
    have o0 := OB.out.cell 0
    have o1 := OB.out.cell 1
    have E1 := Lib.hid gO.out.u.es
    have E2 := Lib.hid oR.out.es
    have F1 := Lib.hid gO.out.r.es
    have F2 := Lib.hid oS.out.es
    go_wp2_with fail
    generalize hgw : g1.alloc (.cells #[.slice gA L.length gc, .slice gB M.length gd] 46) = gw at *
    have zgw : g1.heap.size < gw.heap.size := GB.out.lt
    clear hgw
    refine (eqStack_any gA L gc gB M gd oA L oc oB M od _ (by omega) (by omega) (by exact E1.out) (by exact F1.out) (by exact E2.out) (by exact F2.out)).mono ?_
    rintro e h1 ⟨rfl, hb⟩
    rw [decide_eq_true (rfl : L = L), decide_eq_true (rfl : M = M), Bool.and_self]
    clear E1 E2 F1 F2
    clear q0 q1
    clear o0 o1
    have AX := Lib.hid (AX.out.below hb)
    have EX := Lib.hid (EX.out.below hb)
    have OB := Lib.hid (OB.out.below hb)
    have oR := Lib.hid (oR.out.below hb)
    have oS := Lib.hid (oS.out.below hb)
    have xO := Lib.hid (xO.out.below hb)
    have XB := Lib.hid (XB.out.below hb)
    have yL := Lib.hid (yL.out.below hb)
    have YB := Lib.hid (YB.out.below hb)
    have gO := Lib.hid (gO.out.below hb)
    have GB := Lib.hid (GB.out.below hb)
    have HB := Lib.hid (below_then HB.out hb)
    clear hb
    have HU := Lib.hid (hU0.below HB.out)
    have HR := Lib.hid (hR0.below HB.out)
    have p0 := AX.out.cell 0
    have p1 := AX.out.cell 1
    have q0 := XB.out.cell 0
    have q1 := XB.out.cell 1
    have zA := AX.out.lt
    have zX := XB.out.lt
    go_wp2_with fail
    refine wp_region_held_drew (S := (fun V => V.cell? ⟨w.heap.size, 0, none⟩ = some (.slice A0 u0.length c0) ∧ V.cell? ⟨w.heap.size, 1, none⟩ = some (.slice B0 r0.length d0) ∧ V.cell? ⟨x1.heap.size, 0, none⟩ = some (.slice xA u0.length xc) ∧ V.cell? ⟨x1.heap.size, 1, none⟩ = some (.slice xB r0.length xd))) (by kernel_rfl) (by exact ⟨p0, p1, q0, q1⟩) (fun hHeld => ?_)
    refine wpAnyH_take (i := 0) (oi := ?_) (v := ?_) ?_ ?_ ?_ ?_ ?_ ?_ (by exact hHeld) ?_
    rotate_left 2
    · (simp only [List.getElem?_toArray, List.getElem?_cons_zero]; try rfl)
    · kernel_rfl
    · kernel_rfl
    · kernel_rfl
    · exact fun _ _ _ h => h
    · refine Or.inl ⟨by rfl, ?_⟩
      (intro V hSV; (try dsimp only at hSV); obtain ⟨q0, q1, q2, q3⟩ := hSV; go_simp; try with_reducible rfl)
    (try simp only [Act.put, List.setIfInBounds_toArray, List.set_cons_zero, List.set_cons_succ])
    refine wpAnyH_take (i := 1) (oi := ?_) (v := ?_) ?_ ?_ ?_ ?_ ?_ ?_ (by exact hHeld) ?_
    rotate_left 2
    · (simp only [List.getElem?_toArray, List.getElem?_cons_zero, List.getElem?_cons_succ]; try rfl)
    · kernel_rfl
    · kernel_rfl
    · kernel_rfl
    · exact fun _ _ _ h => h
    · refine Or.inl ⟨by rfl, ?_⟩
      (intro V hSV; (try dsimp only at hSV); obtain ⟨q0, q1, q2, q3⟩ := hSV; go_simp; try with_reducible rfl)
    (try simp only [Act.put, List.setIfInBounds_toArray, List.set_cons_zero, List.set_cons_succ])
    refine wpAnyH_ready (rs := [2]) (by kernel_rfl) (by simp) ?_
    refine AllReadyH.cons rfl (fun K hK => ?_) AllReadyH.nil
    go_simp
    refine (toStack_any A0 u0 c0 B0 r0 d0 _ (by omega) (by omega) (by exact HU.out) (by exact HR.out)).mono ?_
    rintro e y1 ⟨yA, yc, yf, yB, yd, yg, rfl, ho, hby1⟩
    have hby1 : Below h1.heap.size h1 y1 := ⟨hby1.os, hby1.tape, hby1.output, hby1.size, hby1.block⟩
    have hbR := hby1
    have ho : OwS y1 h1.heap.size yA u0 yc yf yB r0 yd yg := ⟨ho.u, ho.r, ho.dis⟩
    have yO := Lib.hid ho
    have xO1 := Lib.hid (xO.out.below hby1)
    clear ho
    go_wp2_with fail
    refine hK.out _ _ (by exact ⟨((hbR).cell (p := ⟨w.heap.size, 0, none⟩) zA).trans p0, ((hbR).cell (p := ⟨w.heap.size, 1, none⟩) zA).trans p1, ((hbR).cell (p := ⟨x1.heap.size, 0, none⟩) zX).trans q0, ((hbR).cell (p := ⟨x1.heap.size, 1, none⟩) zX).trans q1⟩) (fun hHeld => ?_)
    clear hK K
    (try simp only [Act.put, List.setIfInBounds_toArray, List.set_cons_zero, List.set_cons_succ])
    refine wpAnyH_ready (rs := [3]) (by kernel_rfl) (by simp) ?_
    refine AllReadyH.cons rfl (fun K hK => ?_) AllReadyH.nil
    go_simp
    refine (eqStack_any xA u0 xc xB r0 xd yA u0 yc yB r0 yd _ hu9 hr9 (by exact xO1.out.u.es) (by exact xO1.out.r.es) (by exact yO.out.u.es) (by exact yO.out.r.es)).mono ?_
    rintro e y2 ⟨rfl, hby2⟩
    rw [decide_eq_true (rfl : u0 = u0), decide_eq_true (rfl : r0 = r0), Bool.and_self]
    have hby2 : Below y1.heap.size y1 y2 := ⟨hby2.os, hby2.tape, hby2.output, hby2.size, hby2.block⟩
    have hbR := below_then hbR hby2
    go_wp2_with fail
    refine hK.out _ _ (by exact ⟨((hbR).cell (p := ⟨w.heap.size, 0, none⟩) zA).trans p0, ((hbR).cell (p := ⟨w.heap.size, 1, none⟩) zA).trans p1, ((hbR).cell (p := ⟨x1.heap.size, 0, none⟩) zX).trans q0, ((hbR).cell (p := ⟨x1.heap.size, 1, none⟩) zX).trans q1⟩) (fun hHeld => ?_)
    clear hK K
    (try simp only [Act.put, List.setIfInBounds_toArray, List.set_cons_zero, List.set_cons_succ])
    refine wpAnyH_take (i := 4) (oi := ?_) (v := ?_) ?_ ?_ ?_ ?_ ?_ ?_ (by exact hHeld) ?_
    rotate_left 2
    · (simp only [List.getElem?_toArray, List.getElem?_cons_zero, List.getElem?_cons_succ]; try rfl)
    · kernel_rfl
    · kernel_rfl
    · kernel_rfl
    · exact fun _ _ _ h => h
    · refine Or.inl ⟨by rfl, ?_⟩
      (intro V hSV; (try dsimp only at hSV); obtain ⟨q0, q1, q2, q3⟩ := hSV; go_simp; try with_reducible rfl)
    (try simp only [Act.put, List.setIfInBounds_toArray, List.set_cons_zero, List.set_cons_succ])
    refine wpAnyH_done (by kernel_rfl) ?_ _
    clear hHeld yO xO1 HU HR zA zX hby1 hby2
    clear p0 p1
    clear q0 q1
    have AX := Lib.hid (AX.out.below hbR)
    have EX := Lib.hid (EX.out.below hbR)
    have OB := Lib.hid (OB.out.below hbR)
    have oR := Lib.hid (oR.out.below hbR)
    have oS := Lib.hid (oS.out.below hbR)
    have xO := Lib.hid (xO.out.below hbR)
    have XB := Lib.hid (XB.out.below hbR)
    have yL := Lib.hid (yL.out.below hbR)
    have YB := Lib.hid (YB.out.below hbR)
    have gO := Lib.hid (gO.out.below hbR)
    have GB := Lib.hid (GB.out.below hbR)
    have HB := Lib.hid (below_then HB.out hbR)
    clear hbR
    have HL := Lib.hid (hL1.below HB.out)
    have p0 := EX.out.cell 0
    have p1 := EX.out.cell 1
    have p2 := EX.out.cell 2
    have q0 := YB.out.cell 0
    have q1 := YB.out.cell 1
    have q2 := YB.out.cell 2
    have zA := EX.out.lt
    have zX := YB.out.lt
    go_wp2_with fail
    refine wp_region_held_drew (S := (fun V => V.cell? ⟨w.heap.size + 1, 0, none⟩ = some (.int .i64 a1) ∧ V.cell? ⟨w.heap.size + 1, 1, none⟩ = some (.int .i64 m1) ∧ V.cell? ⟨w.heap.size + 1, 2, none⟩ = some (.slice A1 l1.length c1) ∧ V.cell? ⟨v1.heap.size, 0, none⟩ = some (.int .i64 a1) ∧ V.cell? ⟨v1.heap.size, 1, none⟩ = some (.int .i64 m1) ∧ V.cell? ⟨v1.heap.size, 2, none⟩ = some (.slice yP l1.length ye))) (by kernel_rfl) (by exact ⟨p0, p1, p2, q0, q1, q2⟩) (fun hHeld => ?_)
    refine wpAnyH_take (i := 0) (oi := ?_) (v := ?_) ?_ ?_ ?_ ?_ ?_ ?_ (by exact hHeld) ?_
    rotate_left 2
    · (simp only [List.getElem?_toArray, List.getElem?_cons_zero]; try rfl)
    · kernel_rfl
    · kernel_rfl
    · kernel_rfl
    · exact fun _ _ _ h => h
    · refine Or.inl ⟨by rfl, ?_⟩
      (intro V hSV; (try dsimp only at hSV); obtain ⟨q0, q1, q2, q3, q4, q5⟩ := hSV; go_simp; try with_reducible rfl)
    (try simp only [Act.put, List.setIfInBounds_toArray, List.set_cons_zero, List.set_cons_succ])
    refine wpAnyH_take (i := 1) (oi := ?_) (v := ?_) ?_ ?_ ?_ ?_ ?_ ?_ (by exact hHeld) ?_
    rotate_left 2
    · (simp only [List.getElem?_toArray, List.getElem?_cons_zero, List.getElem?_cons_succ]; try rfl)
    · kernel_rfl
    · kernel_rfl
    · kernel_rfl
    · exact fun _ _ _ h => h
    · refine Or.inl ⟨by rfl, ?_⟩
      (intro V hSV; (try dsimp only at hSV); obtain ⟨q0, q1, q2, q3, q4, q5⟩ := hSV; go_simp; try with_reducible rfl)
    (try simp only [Act.put, List.setIfInBounds_toArray, List.set_cons_zero, List.set_cons_succ])
    refine wpAnyH_ready (rs := [2]) (by kernel_rfl) (by simp) ?_
    refine AllReadyH.cons rfl (fun K hK => ?_) AllReadyH.nil
    go_simp
    refine (toEdit_any a1 m1 A1 l1 c1 _ (by omega) (by exact HL.out)).mono ?_
    rintro e y3 ⟨v, rfl, hown, hby3⟩
    have hby3 : Below y2.heap.size y2 y3 := ⟨hby3.os, hby3.tape, hby3.output, hby3.size, hby3.block⟩
    have hbR := hby3
    obtain ⟨zP, ze, rfl, _, _, _⟩ := hown.form
    have yO := Lib.hid (own_bs9 hown)
    have xL1 := Lib.hid (yL.out.below hby3)
    clear hown
    go_wp2_with fail
    refine hK.out _ _ (by exact ⟨((hbR).cell (p := ⟨w.heap.size + 1, 0, none⟩) zA).trans p0, ((hbR).cell (p := ⟨w.heap.size + 1, 1, none⟩) zA).trans p1, ((hbR).cell (p := ⟨w.heap.size + 1, 2, none⟩) zA).trans p2, ((hbR).cell (p := ⟨v1.heap.size, 0, none⟩) zX).trans q0, ((hbR).cell (p := ⟨v1.heap.size, 1, none⟩) zX).trans q1, ((hbR).cell (p := ⟨v1.heap.size, 2, none⟩) zX).trans q2⟩) (fun hHeld => ?_)
    clear hK K
    (try simp only [Act.put, List.setIfInBounds_toArray, List.set_cons_zero, List.set_cons_succ])
    refine wpAnyH_ready (rs := [3]) (by kernel_rfl) (by simp) ?_
    refine AllReadyH.cons rfl (fun K hK => ?_) AllReadyH.nil
    go_simp
    refine (eqEdit_any a1 m1 a1 m1 yP zP l1 l1 ye ze _ hl9 (by exact own_bs9 xL1.out) (by exact yO.out)).mono ?_
    rintro e y4 ⟨rfl, hby4⟩
    rw [decide_eq_true (⟨rfl, rfl, rfl⟩ : a1 = a1 ∧ m1 = m1 ∧ l1 = l1)]
    have hby4 : Below y3.heap.size y3 y4 := ⟨hby4.os, hby4.tape, hby4.output, hby4.size, hby4.block⟩
    have hbR := below_then hbR hby4
    go_wp2_with fail
    refine hK.out _ _ (by exact ⟨((hbR).cell (p := ⟨w.heap.size + 1, 0, none⟩) zA).trans p0, ((hbR).cell (p := ⟨w.heap.size + 1, 1, none⟩) zA).trans p1, ((hbR).cell (p := ⟨w.heap.size + 1, 2, none⟩) zA).trans p2, ((hbR).cell (p := ⟨v1.heap.size, 0, none⟩) zX).trans q0, ((hbR).cell (p := ⟨v1.heap.size, 1, none⟩) zX).trans q1, ((hbR).cell (p := ⟨v1.heap.size, 2, none⟩) zX).trans q2⟩) (fun hHeld => ?_)
    clear hK K
    (try simp only [Act.put, List.setIfInBounds_toArray, List.set_cons_zero, List.set_cons_succ])
    refine wpAnyH_take (i := 4) (oi := ?_) (v := ?_) ?_ ?_ ?_ ?_ ?_ ?_ (by exact hHeld) ?_
    rotate_left 2
    · (simp only [List.getElem?_toArray, List.getElem?_cons_zero, List.getElem?_cons_succ]; try rfl)
    · kernel_rfl
    · kernel_rfl
    · kernel_rfl
    · exact fun _ _ _ h => h
    · refine Or.inl ⟨by rfl, ?_⟩
      (intro V hSV; (try dsimp only at hSV); obtain ⟨q0, q1, q2, q3, q4, q5⟩ := hSV; go_simp; try with_reducible rfl)
    (try simp only [Act.put, List.setIfInBounds_toArray, List.set_cons_zero, List.set_cons_succ])
    refine wpAnyH_done (by kernel_rfl) ?_ _
    clear hHeld yO xL1 HL zA zX hby3 hby4
    clear p0 p1 p2
    clear q0 q1 q2
    have AX := Lib.hid (AX.out.below hbR)
    have EX := Lib.hid (EX.out.below hbR)
    have OB := Lib.hid (OB.out.below hbR)
    have oR := Lib.hid (oR.out.below hbR)
    have oS := Lib.hid (oS.out.below hbR)
    have xO := Lib.hid (xO.out.below hbR)
    have XB := Lib.hid (XB.out.below hbR)
    have yL := Lib.hid (yL.out.below hbR)
    have YB := Lib.hid (YB.out.below hbR)
    have gO := Lib.hid (gO.out.below hbR)
    have GB := Lib.hid (GB.out.below hbR)
    have HB := Lib.hid (below_then HB.out hbR)
    clear hbR
    have q0 := XB.out.cell 0
    have q1 := XB.out.cell 1
    go_wp2_with fail
    refine (markStack_any xA u0 xc xf xB r0 xd xg _ 1 _ (by omega) (by omega) (by exact xO.out)).mono ?_
    rintro e k1 ⟨⟨n, rfl, hn⟩, hke⟩
    have hnf : ∀ q, q < wc.heap.size ∨ x1.heap.size ≤ q → q ∉ xf ++ xg := fun q hq h => by
      rcases List.mem_append.1 h with h | h
      · have := xRu.out q h; omega
      · have := xRr.out q h; omega
    have AX := Lib.hid (AX.out.of_block (hke.block _ AX.out.lt (hnf _ (by omega))))
    have EX := Lib.hid (EX.out.of_block (hke.block _ EX.out.lt (hnf _ (by omega))))
    have OB := Lib.hid (OB.out.of_block (hke.block _ OB.out.lt (hnf _ (by omega))))
    have YB := Lib.hid (YB.out.of_block (hke.block _ YB.out.lt (hnf _ (by omega))))
    have GB := Lib.hid (GB.out.of_block (hke.block _ GB.out.lt (hnf _ (by omega))))
    have oR := Lib.hid (oR.out.keeps hke (fun q hq => hnf q (by have := zb2 q hq; omega)))
    have oS := Lib.hid (oS.out.keeps hke (fun q hq => hnf q (by have := zb5 q hq; omega)))
    have yL := Lib.hid (yL.out.keeps hke (fun q hq => hnf q (by have := yR.out q hq; omega)))
    have gO := Lib.hid (gO.out.keeps hke (fun q hq => hnf q (by have := gRu.out q hq; omega)) (fun q hq => hnf q (by have := gRr.out q hq; omega)))
    have HB := Lib.hid (HB.out.trans (hke.below (B := w.heap.size) HB.out.size (fun q hq => by
      rcases List.mem_append.1 hq with h | h
      · have := xRu.out q h; omega
      · have := xRr.out q h; omega)))
    clear hnf hke xO XB
    clear q0 q1
    have q0 := YB.out.cell 0
    have q1 := YB.out.cell 1
    have q2 := YB.out.cell 2
    go_wp2_with fail
    refine (markEdit_wide a1 m1 _ l1 _ n _ (by omega) (by omega) (by exact yL.out)).mono ?_
    rintro e k2 ⟨rfl, _, hke⟩
    have AX := Lib.hid (AX.out.of_block (hke.block _ AX.out.lt (fun h => by have := yR.out _ h; omega)))
    have EX := Lib.hid (EX.out.of_block (hke.block _ EX.out.lt (fun h => by have := yR.out _ h; omega)))
    have OB := Lib.hid (OB.out.of_block (hke.block _ OB.out.lt (fun h => by have := yR.out _ h; omega)))
    have GB := Lib.hid (GB.out.of_block (hke.block _ GB.out.lt (fun h => by have := yR.out _ h; omega)))
    have oR := Lib.hid (oR.out.keeps hke (fun q hq h => by have := zb2 q hq; have := yR.out _ h; omega))
    have oS := Lib.hid (oS.out.keeps hke (fun q hq h => by have := zb5 q hq; have := yR.out _ h; omega))
    have gO := Lib.hid (gO.out.keeps hke (fun q hq h => by have := gRu.out q hq; have := yR.out _ h; omega) (fun q hq h => by have := gRr.out q hq; have := yR.out _ h; omega))
    have HB := Lib.hid (HB.out.trans (hke.below (B := w.heap.size) HB.out.size (fun q hq => by have := yR.out q hq; omega)))
    have hn0 : ¬ ((n + l1.length : Nat) : Int) < 0 := by omega
    have hnd : decide (((n + l1.length : Nat) : Int) < 0) = false := decide_eq_false hn0
    obtain ⟨nn, hnn⟩ : ∃ nn : Int, ((n + l1.length : Nat) : Int) = nn := ⟨_, rfl⟩
    rw [hnn] at hn0 hnd ⊢
    have zk2 := hke.size
    clear hnn hn hke yL YB
    clear q0 q1 q2
    have q0 := GB.out.cell 0
    have q1 := GB.out.cell 1
    have o0 := OB.out.cell 0
    have o1 := OB.out.cell 1
    have E1 := Lib.hid gO.out.u.es
    have E2 := Lib.hid oR.out.es
    have F1 := Lib.hid gO.out.r.es
    have F2 := Lib.hid oS.out.es
    go_wp2_with fail
    refine (eqStack_any gA L gc gB M gd oA L oc oB M od _ (by omega) (by omega) (by exact E1.out) (by exact F1.out) (by exact E2.out) (by exact F2.out)).mono ?_
    rintro e h2 ⟨rfl, hb⟩
    rw [decide_eq_true (rfl : L = L), decide_eq_true (rfl : M = M), Bool.and_self]
    clear E1 E2 F1 F2
    clear q0 q1
    clear o0 o1
    have AX := Lib.hid (AX.out.below hb)
    have EX := Lib.hid (EX.out.below hb)
    have OB := Lib.hid (OB.out.below hb)
    have oR := Lib.hid (oR.out.below hb)
    have oS := Lib.hid (oS.out.below hb)
    have gO := Lib.hid (gO.out.below hb)
    have GB := Lib.hid (GB.out.below hb)
    have HB := Lib.hid (below_then HB.out hb)
    clear hb
    have q0 := GB.out.cell 0
    have q1 := GB.out.cell 1
    obtain ⟨N, hN⟩ : ∃ N, markN (markN 1 L) M = N := ⟨_, rfl⟩
    have HN := Lib.hid hN
    have hN0 : ¬ ((N : Nat) : Int) < 0 := by omega
    have hNN : ((N : Int) != (N : Int)) = false := by simp
    go_wp2_with fail
    refine (markStack_full gA L gc gf gB M gd gg _ 1 _ (by omega) (by omega) (by omega) (by exact gO.out)).mono ?_
    rintro e k3 ⟨rfl, hke, hs1, hs2⟩
    rw [HN.out]
    have hnf : ∀ q, q < vw.heap.size ∨ g1.heap.size ≤ q → q ∉ gf ++ gg := fun q hq h => by
      rcases List.mem_append.1 h with h | h
      · have := gRu.out q h; omega
      · have := gRr.out q h; omega
    have AX := Lib.hid (AX.out.of_block (hke.block _ AX.out.lt (hnf _ (by omega))))
    have EX := Lib.hid (EX.out.of_block (hke.block _ EX.out.lt (hnf _ (by omega))))
    have OB := Lib.hid (OB.out.of_block (hke.block _ OB.out.lt (hnf _ (by omega))))
    have GB := Lib.hid (GB.out.of_block (hke.block _ GB.out.lt (hnf _ (by omega))))
    have oR := Lib.hid (oR.out.keeps hke (fun q hq => hnf q (by have := zb2 q hq; omega)))
    have oS := Lib.hid (oS.out.keeps hke (fun q hq => hnf q (by have := zb5 q hq; omega)))
    have hz9 := hke.size
    have hz8 := gO.out.u.range
    have hz7 := gO.out.r.range
    have gN := Lib.hid (show RdE k3 0 gB (markedE (markN 1 L) M) gg from ⟨fun W hW _ => hs2 W hW, fun q hq => ⟨Nat.zero_le _, by have := (hz7 q hq).2; omega⟩⟩)
    have gM := Lib.hid (show RdE k3 0 gA (markedE 1 L) gf from ⟨fun W hW _ => hs1 W hW, fun q hq => ⟨Nat.zero_le _, by have := (hz8 q hq).2; omega⟩⟩)
    have HB := Lib.hid (HB.out.trans (hke.below (B := w.heap.size) HB.out.size (fun q hq => by
      rcases List.mem_append.1 hq with h | h
      · have := gRu.out q h; omega
      · have := gRr.out q h; omega)))
    clear hnf hke gO hs1 hs2 hz7 hz8 hz9 hN
    clear q0 q1
    have q0 := GB.out.cell 0
    have q1 := GB.out.cell 1
    have E1 := Lib.hid gM.out.es
    have F1 := Lib.hid gN.out.es
    go_wp2_with fail
    refine (heldStack_any gA L gc gB M gd 1 _ (by omega) (by omega) (by omega) (by exact E1.out) (by exact F1.out)).mono ?_
    rintro e h3 ⟨rfl, hb⟩
    rw [HN.out]
    clear E1 F1
    clear q0 q1
    have AX := Lib.hid (AX.out.below hb)
    have EX := Lib.hid (EX.out.below hb)
    have OB := Lib.hid (OB.out.below hb)
    have oR := Lib.hid (oR.out.below hb)
    have oS := Lib.hid (oS.out.below hb)
    have GB := Lib.hid (GB.out.below hb)
    have gM := Lib.hid (gM.out.below hb)
    have gN := Lib.hid (gN.out.below hb)
    have HB := Lib.hid (below_then HB.out hb)
    clear hb
    have HU := Lib.hid (hU0.below HB.out)
    have HR := Lib.hid (hR0.below HB.out)
    have HL := Lib.hid (hL1.below HB.out)
    have p0 := AX.out.cell 0
    have p1 := AX.out.cell 1
    have p2 := EX.out.cell 0
    have p3 := EX.out.cell 1
    have p4 := EX.out.cell 2
    have zb4 := HB.out.size
    go_upto_region 31 with fail
    go_cut [15, 16] (fun p k wx => ∃ (b : Nat) (A : Option Addr) (c : Nat) (fp : List Nat) (B : Option Addr) (d : Nat) (gp : List Nat), p = .pointer (some ⟨b, 0, none⟩) ∧ k = .bool z ∧ Blk wx b #[.slice A L.length c, .slice B M.length d] 46 ∧ h3.heap.size ≤ b ∧ RdE wx h3.heap.size A L fp ∧ RdE wx h3.heap.size B M gp ∧ Below h3.heap.size h3 wx)
    case first =>
      have nH0 : Hid (Below h3.heap.size h3 h3.drew) := Lib.hid (Below.refl h3.heap.size h3).drew
      have nz0 : h3.drew.heap.size = h3.heap.size := World.size_drew h3
      refine wp_region_noPanic ?_
      refine wp_region_held_drew (S := (fun V => V.cell? ⟨w.heap.size, 0, none⟩ = some (.slice A0 u0.length c0) ∧ V.cell? ⟨w.heap.size, 1, none⟩ = some (.slice B0 r0.length d0) ∧ V.cell? ⟨w.heap.size + 1, 0, none⟩ = some (.int .i64 a1) ∧ V.cell? ⟨w.heap.size + 1, 1, none⟩ = some (.int .i64 m1) ∧ V.cell? ⟨w.heap.size + 1, 2, none⟩ = some (.slice A1 l1.length c1))) (by kernel_rfl) (by exact ⟨p0, p1, p2, p3, p4⟩) (fun hHeld => ?_)
      refine wpAnyH_take (i := 0) (oi := ?_) (v := ?_) ?_ ?_ ?_ ?_ ?_ ?_ (by exact hHeld) ?_
      rotate_left 2
      · (simp only [List.getElem?_toArray, List.getElem?_cons_zero]; try rfl)
      · kernel_rfl
      · kernel_rfl
      · kernel_rfl
      · exact fun _ _ _ h => h
      · refine Or.inl ⟨by rfl, ?_⟩
        (intro V hSV; (try dsimp only at hSV); obtain ⟨q0, q1, q2, q3, q4⟩ := hSV; go_simp; try with_reducible rfl)
      (try simp only [Act.put, List.setIfInBounds_toArray, List.set_cons_zero, List.set_cons_succ])
      refine wpAnyH_take (i := 2) (oi := ?_) (v := ?_) ?_ ?_ ?_ ?_ ?_ ?_ (by exact hHeld) ?_
      rotate_left 2
      · (simp only [List.getElem?_toArray, List.getElem?_cons_zero, List.getElem?_cons_succ]; try rfl)
      · kernel_rfl
      · kernel_rfl
      · kernel_rfl
      · exact fun _ _ _ h => h
      · refine Or.inl ⟨by rfl, ?_⟩
        (intro V hSV; (try dsimp only at hSV); obtain ⟨q0, q1, q2, q3, q4⟩ := hSV; go_simp; try with_reducible rfl)
      (try simp only [Act.put, List.setIfInBounds_toArray, List.set_cons_zero, List.set_cons_succ])
      refine wpAnyH_ready (rs := [1, 8]) (by kernel_rfl) (by simp) ?_
      refine AllReadyH.cons (o := ?_) ?_ (fun K hK => ?_) ?_
      rotate_left 1
      · (simp only [List.getElem?_toArray, List.getElem?_cons_zero, List.getElem?_cons_succ]; try rfl)
      · go_simp
        refine (toStack_any A0 u0 c0 B0 r0 d0 _ (by omega) (by omega) (by exact HU.out.below nH0.out) (by exact HR.out.below nH0.out)).mono ?_
        rintro e ny1 ⟨nA, nc, nf, nB, nd, ng, rfl, ho, hb⟩
        have nO := Lib.hid ho
        have zc1 := hb.size
        try simp only [World.size_alloc, World.size_drew] at zc1
        clear ho
        have zY1 := nH0.out.size
        have nH1 := Lib.hid (below_then nH0.out hb)
        clear hb
        go_wp2_with fail
        refine hK.out _ _ (by exact ⟨(AX.out.below nH1.out).cell 0, (AX.out.below nH1.out).cell 1, (EX.out.below nH1.out).cell 0, (EX.out.below nH1.out).cell 1, (EX.out.below nH1.out).cell 2⟩) (fun hHeld => ?_)
        clear hK K
        (try simp only [Act.put, List.setIfInBounds_toArray, List.set_cons_zero, List.set_cons_succ])
        refine wpAnyH_ready (rs := [3, 8]) (by kernel_rfl) (by simp) ?_
        refine AllReadyH.cons (o := ?_) ?_ (fun K hK => ?_) ?_
        rotate_left 1
        · (simp only [List.getElem?_toArray, List.getElem?_cons_zero, List.getElem?_cons_succ]; try rfl)
        · go_simp
          refine (toEdit_any a1 m1 A1 l1 c1 _ (by omega) (by exact HL.out.below nH1.out)).mono ?_
          rintro e ny2 ⟨v, rfl, hown, hb⟩
          obtain ⟨nP, ne, rfl, _, _, _⟩ := hown.form
          have nL := Lib.hid (own_bs9 hown)
          have nO2 := Lib.hid ((nO.out.below (Below.refl ny1.heap.size ny1)).below hb)
          have zc2 := hb.size
          try simp only [World.size_alloc, World.size_drew] at zc2
          clear hown nO
          have zY2 := nH1.out.size
          have nH2 := Lib.hid (below_then nH1.out hb)
          clear hb
          go_wp2_with fail
          refine hK.out _ _ (by exact ⟨(AX.out.below nH2.out).cell 0, (AX.out.below nH2.out).cell 1, (EX.out.below nH2.out).cell 0, (EX.out.below nH2.out).cell 1, (EX.out.below nH2.out).cell 2⟩) (fun hHeld => ?_)
          clear hK K
          (try simp only [Act.put, List.setIfInBounds_toArray, List.set_cons_zero, List.set_cons_succ])
          refine wpAnyH_ready (rs := [4, 8]) (by kernel_rfl) (by simp) ?_
          refine AllReadyH.cons (o := ?_) ?_ (fun K hK => ?_) ?_
          rotate_left 1
          · (simp only [List.getElem?_toArray, List.getElem?_cons_zero, List.getElem?_cons_succ]; try rfl)
          · go_simp
            have nO3 := Lib.hid (nO2.out.below (Below.refl ny2.heap.size ny2))
            have nL3 := Lib.hid (nL.out.below (Below.refl ny2.heap.size ny2))
            refine (implStackMoved_any nA u0 nc nB r0 nd a1 m1 nP l1 ne _ hu9 hr9 hl9 ha1 hn1 (by exact nO3.out.u.es) (by exact nO3.out.r.es) (by exact nL3.out)).mono ?_
            rintro e ny3 ⟨tA, tc, tf, tB, td, tg, rfl, ho, hb⟩
            have hrd := ho.u.rdE
            have hsd := ho.r.rdE
            clear ho
            rw [HV.out] at hrd
            rw [HVM.out] at hsd
            rw [HZ.out, HV.out, HVM.out]
            have zc3 := nH2.out.size
            have zc4 := hrd.lo
            have tR := Lib.hid hrd
            have zc5 := hsd.lo
            have tS := Lib.hid hsd
            try simp only [World.size_alloc, World.size_drew] at zc3
            try simp only [World.size_alloc, World.size_drew] at zc4
            try simp only [World.size_alloc, World.size_drew] at zc5
            clear hrd hsd nO2 nO3 nL nL3
            have zY3 := nH2.out.size
            have nH3 := Lib.hid (below_then nH2.out hb)
            clear hb
            go_wp2_with fail
            refine hK.out _ _ (by exact ⟨(AX.out.below nH3.out).cell 0, (AX.out.below nH3.out).cell 1, (EX.out.below nH3.out).cell 0, (EX.out.below nH3.out).cell 1, (EX.out.below nH3.out).cell 2⟩) (fun hHeld => ?_)
            clear hK K
            (try simp only [Act.put, List.setIfInBounds_toArray, List.set_cons_zero, List.set_cons_succ])
            refine wpAnyH_take (i := 5) (oi := ?_) (v := ?_) ?_ ?_ ?_ ?_ ?_ ?_ (by exact hHeld) ?_
            rotate_left 2
            · (simp only [List.getElem?_toArray, List.getElem?_cons_zero, List.getElem?_cons_succ]; try rfl)
            · kernel_rfl
            · kernel_rfl
            · kernel_rfl
            · exact fun _ _ _ h => h
            · refine Or.inl ⟨by rfl, ?_⟩
              (intro V hSV; (try dsimp only at hSV); obtain ⟨q0, q1, q2, q3, q4⟩ := hSV; go_simp; try with_reducible rfl)
            (try simp only [Act.put, List.setIfInBounds_toArray, List.set_cons_zero, List.set_cons_succ])
            refine wpAnyH_take (i := 6) (oi := ?_) (v := ?_) ?_ ?_ ?_ ?_ ?_ ?_ (by exact hHeld) ?_
            rotate_left 2
            · (simp only [List.getElem?_toArray, List.getElem?_cons_zero, List.getElem?_cons_succ]; try rfl)
            · kernel_rfl
            · kernel_rfl
            · kernel_rfl
            · exact fun _ _ _ h => h
            · refine Or.inl ⟨by rfl, ?_⟩
              (intro V hSV; (try dsimp only at hSV); obtain ⟨q0, q1, q2, q3, q4⟩ := hSV; go_simp; try with_reducible rfl)
            (try simp only [Act.put, List.setIfInBounds_toArray, List.set_cons_zero, List.set_cons_succ])
            refine wpAnyH_take (i := 7) (oi := ?_) (v := ?_) ?_ ?_ ?_ ?_ ?_ ?_ (by exact hHeld) ?_
            rotate_left 2
            · (simp only [List.getElem?_toArray, List.getElem?_cons_zero, List.getElem?_cons_succ]; try rfl)
            · kernel_rfl
            · kernel_rfl
            · kernel_rfl
            · exact fun _ _ _ h => h
            · refine Or.inl ⟨by rfl, ?_⟩
              (intro V hSV; (try dsimp only at hSV); obtain ⟨q0, q1, q2, q3, q4⟩ := hSV; go_simp; try with_reducible rfl)
            (try simp only [Act.put, List.setIfInBounds_toArray, List.set_cons_zero, List.set_cons_succ])
            refine wpAnyH_ready (rs := [8]) (by kernel_rfl) (by simp) ?_
            refine AllReadyH.cons (o := ?_) ?_ (fun K hK => ?_) AllReadyH.nil
            rotate_left 1
            · (simp only [List.getElem?_toArray, List.getElem?_cons_zero, List.getElem?_cons_succ]; try rfl)
            have zA := nH3.out.size
            have nH4 := Lib.hid (nH3.out.alloc nH3.out.size (.cells #[.slice none 0 0, .slice none 0 0] 46))
            go_simp
            refine hK.out _ _ (by exact ⟨(AX.out.below nH4.out).cell 0, (AX.out.below nH4.out).cell 1, (EX.out.below nH4.out).cell 0, (EX.out.below nH4.out).cell 1, (EX.out.below nH4.out).cell 2⟩) (fun hHeld => ?_)
            clear hK K
            (try simp only [Act.put, List.setIfInBounds_toArray, List.set_cons_zero, List.set_cons_succ])
            refine wpAnyH_ready (rs := [9]) (by kernel_rfl) (by simp) ?_
            refine AllReadyH.cons (o := ?_) ?_ (fun K hK => ?_) AllReadyH.nil
            rotate_left 1
            · (simp only [List.getElem?_toArray, List.getElem?_cons_zero, List.getElem?_cons_succ]; try rfl)
            have HF := Lib.hid (nH3.out.alloc nH3.out.size (.cells #[.slice tA L.length tc, .slice tB M.length td] 46))
            go_simp
            refine hK.out _ _ (by exact ⟨(AX.out.below HF.out).cell 0, (AX.out.below HF.out).cell 1, (EX.out.below HF.out).cell 0, (EX.out.below HF.out).cell 1, (EX.out.below HF.out).cell 2⟩) (fun hHeld => ?_)
            clear hK K
            (try simp only [Act.put, List.setIfInBounds_toArray, List.set_cons_zero, List.set_cons_succ])
            refine wpAnyH_take (i := 10) (oi := ?_) (v := ?_) ?_ ?_ ?_ ?_ ?_ ?_ (by exact hHeld) ?_
            rotate_left 2
            · (simp only [List.getElem?_toArray, List.getElem?_cons_zero, List.getElem?_cons_succ]; try rfl)
            · kernel_rfl
            · kernel_rfl
            · kernel_rfl
            · exact fun _ _ _ h => h
            · refine Or.inl ⟨by rfl, ?_⟩
              (intro V hSV; (try dsimp only at hSV); obtain ⟨q0, q1, q2, q3, q4⟩ := hSV; go_simp; try with_reducible rfl)
            (try simp only [Act.put, List.setIfInBounds_toArray, List.set_cons_zero, List.set_cons_succ])
            refine wpAnyH_done (by kernel_rfl) ?_ _
            refine NoPanic.normal ?_
            go_wp2_with fail
            go_meet
            have BF := Lib.hid (Blk.new ny3 #[.slice tA L.length tc, .slice tB M.length td] 46)
            have zF := nH3.out.size
            have RD := Lib.hid ((tR.out.mono (show h3.heap.size ≤ _ by omega)).below ((Below.refl ny3.heap.size ny3).alloc (Nat.le_refl _) (.cells #[.slice tA L.length tc, .slice tB M.length td] 46)))
            have SD := Lib.hid ((tS.out.mono (show h3.heap.size ≤ _ by omega)).below ((Below.refl ny3.heap.size ny3).alloc (Nat.le_refl _) (.cells #[.slice tA L.length tc, .slice tB M.length td] 46)))
            exact ⟨ny3.heap.size, _, _, _, _, _, _, rfl, rfl, BF.out, by omega, RD.out, SD.out, HF.out⟩
          refine AllReadyH.cons (o := ?_) ?_ (fun K hK => ?_) AllReadyH.nil
          rotate_left 1
          · (simp only [List.getElem?_toArray, List.getElem?_cons_zero, List.getElem?_cons_succ]; try rfl)
          have zA := nH2.out.size
          have nH3 := Lib.hid (nH2.out.alloc nH2.out.size (.cells #[.slice none 0 0, .slice none 0 0] 46))
          have BX := Lib.hid (Blk.new (ny2) #[.slice none 0 0, .slice none 0 0] 46)
          go_simp
          refine hK.out _ _ (by exact ⟨(AX.out.below nH3.out).cell 0, (AX.out.below nH3.out).cell 1, (EX.out.below nH3.out).cell 0, (EX.out.below nH3.out).cell 1, (EX.out.below nH3.out).cell 2⟩) (fun hHeld => ?_)
          clear hK K
          (try simp only [Act.put, List.setIfInBounds_toArray, List.set_cons_zero, List.set_cons_succ])
          refine wpAnyH_ready (rs := [4]) (by kernel_rfl) (by simp) ?_
          refine AllReadyH.cons (o := ?_) ?_ (fun K hK => ?_) AllReadyH.nil
          rotate_left 1
          · (simp only [List.getElem?_toArray, List.getElem?_cons_zero, List.getElem?_cons_succ]; try rfl)
          go_simp
          have nO3 := Lib.hid (nO2.out.below ((Below.refl ny2.heap.size ny2).alloc (Nat.le_refl _) (.cells #[.slice none 0 0, .slice none 0 0] 46)))
          have nL3 := Lib.hid (nL.out.below ((Below.refl ny2.heap.size ny2).alloc (Nat.le_refl _) (.cells #[.slice none 0 0, .slice none 0 0] 46)))
          refine (implStackMoved_any nA u0 nc nB r0 nd a1 m1 nP l1 ne _ hu9 hr9 hl9 ha1 hn1 (by exact nO3.out.u.es) (by exact nO3.out.r.es) (by exact nL3.out)).mono ?_
          rintro e ny3 ⟨tA, tc, tf, tB, td, tg, rfl, ho, hb⟩
          have hrd := ho.u.rdE
          have hsd := ho.r.rdE
          clear ho
          rw [HV.out] at hrd
          rw [HVM.out] at hsd
          rw [HZ.out, HV.out, HVM.out]
          have zc3 := nH3.out.size
          have zc4 := hrd.lo
          have tR := Lib.hid hrd
          have zc5 := hsd.lo
          have tS := Lib.hid hsd
          try simp only [World.size_alloc, World.size_drew] at zc3
          try simp only [World.size_alloc, World.size_drew] at zc4
          try simp only [World.size_alloc, World.size_drew] at zc5
          clear hrd hsd nO2 nO3 nL nL3
          have zY4 := nH3.out.size
          have nH4 := Lib.hid (below_then nH3.out hb)
          have BX := Lib.hid (BX.out.below hb)
          clear hb
          go_wp2_with fail
          refine hK.out _ _ (by exact ⟨(AX.out.below nH4.out).cell 0, (AX.out.below nH4.out).cell 1, (EX.out.below nH4.out).cell 0, (EX.out.below nH4.out).cell 1, (EX.out.below nH4.out).cell 2⟩) (fun hHeld => ?_)
          clear hK K
          (try simp only [Act.put, List.setIfInBounds_toArray, List.set_cons_zero, List.set_cons_succ])
          refine wpAnyH_take (i := 5) (oi := ?_) (v := ?_) ?_ ?_ ?_ ?_ ?_ ?_ (by exact hHeld) ?_
          rotate_left 2
          · (simp only [List.getElem?_toArray, List.getElem?_cons_zero, List.getElem?_cons_succ]; try rfl)
          · kernel_rfl
          · kernel_rfl
          · kernel_rfl
          · exact fun _ _ _ h => h
          · refine Or.inl ⟨by rfl, ?_⟩
            (intro V hSV; (try dsimp only at hSV); obtain ⟨q0, q1, q2, q3, q4⟩ := hSV; go_simp; try with_reducible rfl)
          (try simp only [Act.put, List.setIfInBounds_toArray, List.set_cons_zero, List.set_cons_succ])
          refine wpAnyH_take (i := 6) (oi := ?_) (v := ?_) ?_ ?_ ?_ ?_ ?_ ?_ (by exact hHeld) ?_
          rotate_left 2
          · (simp only [List.getElem?_toArray, List.getElem?_cons_zero, List.getElem?_cons_succ]; try rfl)
          · kernel_rfl
          · kernel_rfl
          · kernel_rfl
          · exact fun _ _ _ h => h
          · refine Or.inl ⟨by rfl, ?_⟩
            (intro V hSV; (try dsimp only at hSV); obtain ⟨q0, q1, q2, q3, q4⟩ := hSV; go_simp; try with_reducible rfl)
          (try simp only [Act.put, List.setIfInBounds_toArray, List.set_cons_zero, List.set_cons_succ])
          refine wpAnyH_take (i := 7) (oi := ?_) (v := ?_) ?_ ?_ ?_ ?_ ?_ ?_ (by exact hHeld) ?_
          rotate_left 2
          · (simp only [List.getElem?_toArray, List.getElem?_cons_zero, List.getElem?_cons_succ]; try rfl)
          · kernel_rfl
          · kernel_rfl
          · kernel_rfl
          · exact fun _ _ _ h => h
          · refine Or.inl ⟨by rfl, ?_⟩
            (intro V hSV; (try dsimp only at hSV); obtain ⟨q0, q1, q2, q3, q4⟩ := hSV; go_simp; try with_reducible rfl)
          (try simp only [Act.put, List.setIfInBounds_toArray, List.set_cons_zero, List.set_cons_succ])
          have zB := BX.out.lt
          have nb0 := AX.out.lt
          have nb1 := EX.out.lt
          have g0 := BX.out.cell 0
          have f0 := BX.out.frozen 0
          have g1 := BX.out.cell 1
          have f1 := BX.out.frozen 1
          have zz9 : h3.heap.size ≤ ny2.heap.size := by first | exact Nat.le_refl _ | omega
          have BF : Hid (Blk (((ny3.setCell ⟨ny2.heap.size, 0, none⟩ (.slice tA L.length tc)).setCell ⟨ny2.heap.size, 1, none⟩ (.slice tB M.length td))) ny2.heap.size #[.slice tA L.length tc, .slice tB M.length td] 46) := Lib.hid (by simpa using ((BX.out.set 0 (.slice tA L.length tc)).set 1 (.slice tB M.length td)))
          have HF : Hid (Below h3.heap.size h3 (((ny3.setCell ⟨ny2.heap.size, 0, none⟩ (.slice tA L.length tc)).setCell ⟨ny2.heap.size, 1, none⟩ (.slice tB M.length td)))) := Lib.hid ((nH4.out.setCell (p := ⟨ny2.heap.size, 0, none⟩) (by omega) (.slice tA L.length tc)).setCell (p := ⟨ny2.heap.size, 1, none⟩) (by omega) (.slice tB M.length td))
          refine wpAnyH_ready (rs := [9]) (by kernel_rfl) (by simp) ?_
          refine AllReadyH.cons (o := ?_) ?_ (fun K hK => ?_) AllReadyH.nil
          rotate_left 1
          · (simp only [List.getElem?_toArray, List.getElem?_cons_zero, List.getElem?_cons_succ]; try rfl)
          go_simp
          refine hK.out _ _ (by exact ⟨(AX.out.below HF.out).cell 0, (AX.out.below HF.out).cell 1, (EX.out.below HF.out).cell 0, (EX.out.below HF.out).cell 1, (EX.out.below HF.out).cell 2⟩) (fun hHeld => ?_)
          clear hK K
          (try simp only [Act.put, List.setIfInBounds_toArray, List.set_cons_zero, List.set_cons_succ])
          refine wpAnyH_take (i := 10) (oi := ?_) (v := ?_) ?_ ?_ ?_ ?_ ?_ ?_ (by exact hHeld) ?_
          rotate_left 2
          · (simp only [List.getElem?_toArray, List.getElem?_cons_zero, List.getElem?_cons_succ]; try rfl)
          · kernel_rfl
          · kernel_rfl
          · kernel_rfl
          · exact fun _ _ _ h => h
          · refine Or.inl ⟨by rfl, ?_⟩
            (intro V hSV; (try dsimp only at hSV); obtain ⟨q0, q1, q2, q3, q4⟩ := hSV; go_simp; try with_reducible rfl)
          (try simp only [Act.put, List.setIfInBounds_toArray, List.set_cons_zero, List.set_cons_succ])
          refine wpAnyH_done (by kernel_rfl) ?_ _
          refine NoPanic.normal ?_
          go_wp2_with fail
          go_meet
          have hk9 := ((Keeps.refl [ny2.heap.size] ny3).set (g := ny2.heap.size) (by simp) 0 (.slice tA L.length tc)).set (g := ny2.heap.size) (by simp) 1 (.slice tB M.length td)
          have RD := Lib.hid ((tR.out.mono (show h3.heap.size ≤ _ by (try simp only [World.size_alloc, World.size_drew]); omega)).keeps hk9 (fun q hq => by have := (zc4 q hq).1; simp only [List.mem_singleton]; omega))
          have SD := Lib.hid ((tS.out.mono (show h3.heap.size ≤ _ by (try simp only [World.size_alloc, World.size_drew]); omega)).keeps hk9 (fun q hq => by have := (zc5 q hq).1; simp only [List.mem_singleton]; omega))
          exact ⟨ny2.heap.size, _, _, _, _, _, _, rfl, rfl, BF.out, by omega, RD.out, SD.out, HF.out⟩
        refine AllReadyH.cons (o := ?_) ?_ (fun K hK => ?_) AllReadyH.nil
        rotate_left 1
        · (simp only [List.getElem?_toArray, List.getElem?_cons_zero, List.getElem?_cons_succ]; try rfl)
        have zA := nH1.out.size
        have nH2 := Lib.hid (nH1.out.alloc nH1.out.size (.cells #[.slice none 0 0, .slice none 0 0] 46))
        have BX := Lib.hid (Blk.new (ny1) #[.slice none 0 0, .slice none 0 0] 46)
        go_simp
        refine hK.out _ _ (by exact ⟨(AX.out.below nH2.out).cell 0, (AX.out.below nH2.out).cell 1, (EX.out.below nH2.out).cell 0, (EX.out.below nH2.out).cell 1, (EX.out.below nH2.out).cell 2⟩) (fun hHeld => ?_)
        clear hK K
        (try simp only [Act.put, List.setIfInBounds_toArray, List.set_cons_zero, List.set_cons_succ])
        refine wpAnyH_ready (rs := [3]) (by kernel_rfl) (by simp) ?_
        refine AllReadyH.cons (o := ?_) ?_ (fun K hK => ?_) AllReadyH.nil
        rotate_left 1
        · (simp only [List.getElem?_toArray, List.getElem?_cons_zero, List.getElem?_cons_succ]; try rfl)
        go_simp
        refine (toEdit_any a1 m1 A1 l1 c1 _ (by omega) (by exact HL.out.below nH2.out)).mono ?_
        rintro e ny2 ⟨v, rfl, hown, hb⟩
        obtain ⟨nP, ne, rfl, _, _, _⟩ := hown.form
        have nL := Lib.hid (own_bs9 hown)
        have nO2 := Lib.hid ((nO.out.below ((Below.refl ny1.heap.size ny1).alloc (Nat.le_refl _) (.cells #[.slice none 0 0, .slice none 0 0] 46))).below hb)
        have zc2 := hb.size
        try simp only [World.size_alloc, World.size_drew] at zc2
        clear hown nO
        have zY3 := nH2.out.size
        have nH3 := Lib.hid (below_then nH2.out hb)
        have BX := Lib.hid (BX.out.below hb)
        clear hb
        go_wp2_with fail
        refine hK.out _ _ (by exact ⟨(AX.out.below nH3.out).cell 0, (AX.out.below nH3.out).cell 1, (EX.out.below nH3.out).cell 0, (EX.out.below nH3.out).cell 1, (EX.out.below nH3.out).cell 2⟩) (fun hHeld => ?_)
        clear hK K
        (try simp only [Act.put, List.setIfInBounds_toArray, List.set_cons_zero, List.set_cons_succ])
        refine wpAnyH_ready (rs := [4]) (by kernel_rfl) (by simp) ?_
        refine AllReadyH.cons (o := ?_) ?_ (fun K hK => ?_) AllReadyH.nil
        rotate_left 1
        · (simp only [List.getElem?_toArray, List.getElem?_cons_zero, List.getElem?_cons_succ]; try rfl)
        go_simp
        have nO3 := Lib.hid (nO2.out.below (Below.refl ny2.heap.size ny2))
        have nL3 := Lib.hid (nL.out.below (Below.refl ny2.heap.size ny2))
        refine (implStackMoved_any nA u0 nc nB r0 nd a1 m1 nP l1 ne _ hu9 hr9 hl9 ha1 hn1 (by exact nO3.out.u.es) (by exact nO3.out.r.es) (by exact nL3.out)).mono ?_
        rintro e ny3 ⟨tA, tc, tf, tB, td, tg, rfl, ho, hb⟩
        have hrd := ho.u.rdE
        have hsd := ho.r.rdE
        clear ho
        rw [HV.out] at hrd
        rw [HVM.out] at hsd
        rw [HZ.out, HV.out, HVM.out]
        have zc3 := nH3.out.size
        have zc4 := hrd.lo
        have tR := Lib.hid hrd
        have zc5 := hsd.lo
        have tS := Lib.hid hsd
        try simp only [World.size_alloc, World.size_drew] at zc3
        try simp only [World.size_alloc, World.size_drew] at zc4
        try simp only [World.size_alloc, World.size_drew] at zc5
        clear hrd hsd nO2 nO3 nL nL3
        have zY4 := nH3.out.size
        have nH4 := Lib.hid (below_then nH3.out hb)
        have BX := Lib.hid (BX.out.below hb)
        clear hb
        go_wp2_with fail
        refine hK.out _ _ (by exact ⟨(AX.out.below nH4.out).cell 0, (AX.out.below nH4.out).cell 1, (EX.out.below nH4.out).cell 0, (EX.out.below nH4.out).cell 1, (EX.out.below nH4.out).cell 2⟩) (fun hHeld => ?_)
        clear hK K
        (try simp only [Act.put, List.setIfInBounds_toArray, List.set_cons_zero, List.set_cons_succ])
        refine wpAnyH_take (i := 5) (oi := ?_) (v := ?_) ?_ ?_ ?_ ?_ ?_ ?_ (by exact hHeld) ?_
        rotate_left 2
        · (simp only [List.getElem?_toArray, List.getElem?_cons_zero, List.getElem?_cons_succ]; try rfl)
        · kernel_rfl
        · kernel_rfl
        · kernel_rfl
        · exact fun _ _ _ h => h
        · refine Or.inl ⟨by rfl, ?_⟩
          (intro V hSV; (try dsimp only at hSV); obtain ⟨q0, q1, q2, q3, q4⟩ := hSV; go_simp; try with_reducible rfl)
        (try simp only [Act.put, List.setIfInBounds_toArray, List.set_cons_zero, List.set_cons_succ])
        refine wpAnyH_take (i := 6) (oi := ?_) (v := ?_) ?_ ?_ ?_ ?_ ?_ ?_ (by exact hHeld) ?_
        rotate_left 2
        · (simp only [List.getElem?_toArray, List.getElem?_cons_zero, List.getElem?_cons_succ]; try rfl)
        · kernel_rfl
        · kernel_rfl
        · kernel_rfl
        · exact fun _ _ _ h => h
        · refine Or.inl ⟨by rfl, ?_⟩
          (intro V hSV; (try dsimp only at hSV); obtain ⟨q0, q1, q2, q3, q4⟩ := hSV; go_simp; try with_reducible rfl)
        (try simp only [Act.put, List.setIfInBounds_toArray, List.set_cons_zero, List.set_cons_succ])
        refine wpAnyH_take (i := 7) (oi := ?_) (v := ?_) ?_ ?_ ?_ ?_ ?_ ?_ (by exact hHeld) ?_
        rotate_left 2
        · (simp only [List.getElem?_toArray, List.getElem?_cons_zero, List.getElem?_cons_succ]; try rfl)
        · kernel_rfl
        · kernel_rfl
        · kernel_rfl
        · exact fun _ _ _ h => h
        · refine Or.inl ⟨by rfl, ?_⟩
          (intro V hSV; (try dsimp only at hSV); obtain ⟨q0, q1, q2, q3, q4⟩ := hSV; go_simp; try with_reducible rfl)
        (try simp only [Act.put, List.setIfInBounds_toArray, List.set_cons_zero, List.set_cons_succ])
        have zB := BX.out.lt
        have nb0 := AX.out.lt
        have nb1 := EX.out.lt
        have g0 := BX.out.cell 0
        have f0 := BX.out.frozen 0
        have g1 := BX.out.cell 1
        have f1 := BX.out.frozen 1
        have zz9 : h3.heap.size ≤ ny1.heap.size := by first | exact Nat.le_refl _ | omega
        have BF : Hid (Blk (((ny3.setCell ⟨ny1.heap.size, 0, none⟩ (.slice tA L.length tc)).setCell ⟨ny1.heap.size, 1, none⟩ (.slice tB M.length td))) ny1.heap.size #[.slice tA L.length tc, .slice tB M.length td] 46) := Lib.hid (by simpa using ((BX.out.set 0 (.slice tA L.length tc)).set 1 (.slice tB M.length td)))
        have HF : Hid (Below h3.heap.size h3 (((ny3.setCell ⟨ny1.heap.size, 0, none⟩ (.slice tA L.length tc)).setCell ⟨ny1.heap.size, 1, none⟩ (.slice tB M.length td)))) := Lib.hid ((nH4.out.setCell (p := ⟨ny1.heap.size, 0, none⟩) (by omega) (.slice tA L.length tc)).setCell (p := ⟨ny1.heap.size, 1, none⟩) (by omega) (.slice tB M.length td))
        refine wpAnyH_ready (rs := [9]) (by kernel_rfl) (by simp) ?_
        refine AllReadyH.cons (o := ?_) ?_ (fun K hK => ?_) AllReadyH.nil
        rotate_left 1
        · (simp only [List.getElem?_toArray, List.getElem?_cons_zero, List.getElem?_cons_succ]; try rfl)
        go_simp
        refine hK.out _ _ (by exact ⟨(AX.out.below HF.out).cell 0, (AX.out.below HF.out).cell 1, (EX.out.below HF.out).cell 0, (EX.out.below HF.out).cell 1, (EX.out.below HF.out).cell 2⟩) (fun hHeld => ?_)
        clear hK K
        (try simp only [Act.put, List.setIfInBounds_toArray, List.set_cons_zero, List.set_cons_succ])
        refine wpAnyH_take (i := 10) (oi := ?_) (v := ?_) ?_ ?_ ?_ ?_ ?_ ?_ (by exact hHeld) ?_
        rotate_left 2
        · (simp only [List.getElem?_toArray, List.getElem?_cons_zero, List.getElem?_cons_succ]; try rfl)
        · kernel_rfl
        · kernel_rfl
        · kernel_rfl
        · exact fun _ _ _ h => h
        · refine Or.inl ⟨by rfl, ?_⟩
          (intro V hSV; (try dsimp only at hSV); obtain ⟨q0, q1, q2, q3, q4⟩ := hSV; go_simp; try with_reducible rfl)
        (try simp only [Act.put, List.setIfInBounds_toArray, List.set_cons_zero, List.set_cons_succ])
        refine wpAnyH_done (by kernel_rfl) ?_ _
        refine NoPanic.normal ?_
        go_wp2_with fail
        go_meet
        have hk9 := ((Keeps.refl [ny1.heap.size] ny3).set (g := ny1.heap.size) (by simp) 0 (.slice tA L.length tc)).set (g := ny1.heap.size) (by simp) 1 (.slice tB M.length td)
        have RD := Lib.hid ((tR.out.mono (show h3.heap.size ≤ _ by (try simp only [World.size_alloc, World.size_drew]); omega)).keeps hk9 (fun q hq => by have := (zc4 q hq).1; simp only [List.mem_singleton]; omega))
        have SD := Lib.hid ((tS.out.mono (show h3.heap.size ≤ _ by (try simp only [World.size_alloc, World.size_drew]); omega)).keeps hk9 (fun q hq => by have := (zc5 q hq).1; simp only [List.mem_singleton]; omega))
        exact ⟨ny1.heap.size, _, _, _, _, _, _, rfl, rfl, BF.out, by omega, RD.out, SD.out, HF.out⟩
      refine AllReadyH.cons (o := ?_) ?_ (fun K hK => ?_) AllReadyH.nil
      rotate_left 1
      · (simp only [List.getElem?_toArray, List.getElem?_cons_zero, List.getElem?_cons_succ]; try rfl)
      have zA := nH0.out.size
      have nH1 := Lib.hid (nH0.out.alloc nH0.out.size (.cells #[.slice none 0 0, .slice none 0 0] 46))
      have BX := Lib.hid (Blk.new (h3.drew) #[.slice none 0 0, .slice none 0 0] 46)
      have BX := Lib.hid (show Blk (h3.drew.alloc (.cells #[.slice none 0 0, .slice none 0 0] 46)) h3.heap.size #[.slice none 0 0, .slice none 0 0] 46 from by have h9 := BX.out; rw [World.size_drew] at h9; exact h9)
      go_simp
      refine hK.out _ _ (by exact ⟨(AX.out.below nH1.out).cell 0, (AX.out.below nH1.out).cell 1, (EX.out.below nH1.out).cell 0, (EX.out.below nH1.out).cell 1, (EX.out.below nH1.out).cell 2⟩) (fun hHeld => ?_)
      clear hK K
      (try simp only [Act.put, List.setIfInBounds_toArray, List.set_cons_zero, List.set_cons_succ])
      refine wpAnyH_ready (rs := [1]) (by kernel_rfl) (by simp) ?_
      refine AllReadyH.cons (o := ?_) ?_ (fun K hK => ?_) AllReadyH.nil
      rotate_left 1
      · (simp only [List.getElem?_toArray, List.getElem?_cons_zero, List.getElem?_cons_succ]; try rfl)
      go_simp
      refine (toStack_any A0 u0 c0 B0 r0 d0 _ (by omega) (by omega) (by exact HU.out.below nH1.out) (by exact HR.out.below nH1.out)).mono ?_
      rintro e ny1 ⟨nA, nc, nf, nB, nd, ng, rfl, ho, hb⟩
      have nO := Lib.hid ho
      have zc1 := hb.size
      try simp only [World.size_alloc, World.size_drew] at zc1
      clear ho
      have zY2 := nH1.out.size
      have nH2 := Lib.hid (below_then nH1.out hb)
      have BX := Lib.hid (BX.out.below hb)
      clear hb
      go_wp2_with fail
      refine hK.out _ _ (by exact ⟨(AX.out.below nH2.out).cell 0, (AX.out.below nH2.out).cell 1, (EX.out.below nH2.out).cell 0, (EX.out.below nH2.out).cell 1, (EX.out.below nH2.out).cell 2⟩) (fun hHeld => ?_)
      clear hK K
      (try simp only [Act.put, List.setIfInBounds_toArray, List.set_cons_zero, List.set_cons_succ])
      refine wpAnyH_ready (rs := [3]) (by kernel_rfl) (by simp) ?_
      refine AllReadyH.cons (o := ?_) ?_ (fun K hK => ?_) AllReadyH.nil
      rotate_left 1
      · (simp only [List.getElem?_toArray, List.getElem?_cons_zero, List.getElem?_cons_succ]; try rfl)
      go_simp
      refine (toEdit_any a1 m1 A1 l1 c1 _ (by omega) (by exact HL.out.below nH2.out)).mono ?_
      rintro e ny2 ⟨v, rfl, hown, hb⟩
      obtain ⟨nP, ne, rfl, _, _, _⟩ := hown.form
      have nL := Lib.hid (own_bs9 hown)
      have nO2 := Lib.hid ((nO.out.below (Below.refl ny1.heap.size ny1)).below hb)
      have zc2 := hb.size
      try simp only [World.size_alloc, World.size_drew] at zc2
      clear hown nO
      have zY3 := nH2.out.size
      have nH3 := Lib.hid (below_then nH2.out hb)
      have BX := Lib.hid (BX.out.below hb)
      clear hb
      go_wp2_with fail
      refine hK.out _ _ (by exact ⟨(AX.out.below nH3.out).cell 0, (AX.out.below nH3.out).cell 1, (EX.out.below nH3.out).cell 0, (EX.out.below nH3.out).cell 1, (EX.out.below nH3.out).cell 2⟩) (fun hHeld => ?_)
      clear hK K
      (try simp only [Act.put, List.setIfInBounds_toArray, List.set_cons_zero, List.set_cons_succ])
      refine wpAnyH_ready (rs := [4]) (by kernel_rfl) (by simp) ?_
      refine AllReadyH.cons (o := ?_) ?_ (fun K hK => ?_) AllReadyH.nil
      rotate_left 1
      · (simp only [List.getElem?_toArray, List.getElem?_cons_zero, List.getElem?_cons_succ]; try rfl)
      go_simp
      have nO3 := Lib.hid (nO2.out.below (Below.refl ny2.heap.size ny2))
      have nL3 := Lib.hid (nL.out.below (Below.refl ny2.heap.size ny2))
      refine (implStackMoved_any nA u0 nc nB r0 nd a1 m1 nP l1 ne _ hu9 hr9 hl9 ha1 hn1 (by exact nO3.out.u.es) (by exact nO3.out.r.es) (by exact nL3.out)).mono ?_
      rintro e ny3 ⟨tA, tc, tf, tB, td, tg, rfl, ho, hb⟩
      have hrd := ho.u.rdE
      have hsd := ho.r.rdE
      clear ho
      rw [HV.out] at hrd
      rw [HVM.out] at hsd
      rw [HZ.out, HV.out, HVM.out]
      have zc3 := nH3.out.size
      have zc4 := hrd.lo
      have tR := Lib.hid hrd
      have zc5 := hsd.lo
      have tS := Lib.hid hsd
      try simp only [World.size_alloc, World.size_drew] at zc3
      try simp only [World.size_alloc, World.size_drew] at zc4
      try simp only [World.size_alloc, World.size_drew] at zc5
      clear hrd hsd nO2 nO3 nL nL3
      have zY4 := nH3.out.size
      have nH4 := Lib.hid (below_then nH3.out hb)
      have BX := Lib.hid (BX.out.below hb)
      clear hb
      go_wp2_with fail
      refine hK.out _ _ (by exact ⟨(AX.out.below nH4.out).cell 0, (AX.out.below nH4.out).cell 1, (EX.out.below nH4.out).cell 0, (EX.out.below nH4.out).cell 1, (EX.out.below nH4.out).cell 2⟩) (fun hHeld => ?_)
      clear hK K
      (try simp only [Act.put, List.setIfInBounds_toArray, List.set_cons_zero, List.set_cons_succ])
      refine wpAnyH_take (i := 5) (oi := ?_) (v := ?_) ?_ ?_ ?_ ?_ ?_ ?_ (by exact hHeld) ?_
      rotate_left 2
      · (simp only [List.getElem?_toArray, List.getElem?_cons_zero, List.getElem?_cons_succ]; try rfl)
      · kernel_rfl
      · kernel_rfl
      · kernel_rfl
      · exact fun _ _ _ h => h
      · refine Or.inl ⟨by rfl, ?_⟩
        (intro V hSV; (try dsimp only at hSV); obtain ⟨q0, q1, q2, q3, q4⟩ := hSV; go_simp; try with_reducible rfl)
      (try simp only [Act.put, List.setIfInBounds_toArray, List.set_cons_zero, List.set_cons_succ])
      refine wpAnyH_take (i := 6) (oi := ?_) (v := ?_) ?_ ?_ ?_ ?_ ?_ ?_ (by exact hHeld) ?_
      rotate_left 2
      · (simp only [List.getElem?_toArray, List.getElem?_cons_zero, List.getElem?_cons_succ]; try rfl)
      · kernel_rfl
      · kernel_rfl
      · kernel_rfl
      · exact fun _ _ _ h => h
      · refine Or.inl ⟨by rfl, ?_⟩
        (intro V hSV; (try dsimp only at hSV); obtain ⟨q0, q1, q2, q3, q4⟩ := hSV; go_simp; try with_reducible rfl)
      (try simp only [Act.put, List.setIfInBounds_toArray, List.set_cons_zero, List.set_cons_succ])
      refine wpAnyH_take (i := 7) (oi := ?_) (v := ?_) ?_ ?_ ?_ ?_ ?_ ?_ (by exact hHeld) ?_
      rotate_left 2
      · (simp only [List.getElem?_toArray, List.getElem?_cons_zero, List.getElem?_cons_succ]; try rfl)
      · kernel_rfl
      · kernel_rfl
      · kernel_rfl
      · exact fun _ _ _ h => h
      · refine Or.inl ⟨by rfl, ?_⟩
        (intro V hSV; (try dsimp only at hSV); obtain ⟨q0, q1, q2, q3, q4⟩ := hSV; go_simp; try with_reducible rfl)
      (try simp only [Act.put, List.setIfInBounds_toArray, List.set_cons_zero, List.set_cons_succ])
      have zB := BX.out.lt
      have nb0 := AX.out.lt
      have nb1 := EX.out.lt
      have g0 := BX.out.cell 0
      have f0 := BX.out.frozen 0
      have g1 := BX.out.cell 1
      have f1 := BX.out.frozen 1
      have zz9 : h3.heap.size ≤ h3.heap.size := by first | exact Nat.le_refl _ | omega
      have BF : Hid (Blk (((ny3.setCell ⟨h3.heap.size, 0, none⟩ (.slice tA L.length tc)).setCell ⟨h3.heap.size, 1, none⟩ (.slice tB M.length td))) h3.heap.size #[.slice tA L.length tc, .slice tB M.length td] 46) := Lib.hid (by simpa using ((BX.out.set 0 (.slice tA L.length tc)).set 1 (.slice tB M.length td)))
      have HF : Hid (Below h3.heap.size h3 (((ny3.setCell ⟨h3.heap.size, 0, none⟩ (.slice tA L.length tc)).setCell ⟨h3.heap.size, 1, none⟩ (.slice tB M.length td)))) := Lib.hid ((nH4.out.setCell (p := ⟨h3.heap.size, 0, none⟩) (by omega) (.slice tA L.length tc)).setCell (p := ⟨h3.heap.size, 1, none⟩) (by omega) (.slice tB M.length td))
      refine wpAnyH_ready (rs := [9]) (by kernel_rfl) (by simp) ?_
      refine AllReadyH.cons (o := ?_) ?_ (fun K hK => ?_) AllReadyH.nil
      rotate_left 1
      · (simp only [List.getElem?_toArray, List.getElem?_cons_zero, List.getElem?_cons_succ]; try rfl)
      go_simp
      refine hK.out _ _ (by exact ⟨(AX.out.below HF.out).cell 0, (AX.out.below HF.out).cell 1, (EX.out.below HF.out).cell 0, (EX.out.below HF.out).cell 1, (EX.out.below HF.out).cell 2⟩) (fun hHeld => ?_)
      clear hK K
      (try simp only [Act.put, List.setIfInBounds_toArray, List.set_cons_zero, List.set_cons_succ])
      refine wpAnyH_take (i := 10) (oi := ?_) (v := ?_) ?_ ?_ ?_ ?_ ?_ ?_ (by exact hHeld) ?_
      rotate_left 2
      · (simp only [List.getElem?_toArray, List.getElem?_cons_zero, List.getElem?_cons_succ]; try rfl)
      · kernel_rfl
      · kernel_rfl
      · kernel_rfl
      · exact fun _ _ _ h => h
      · refine Or.inl ⟨by rfl, ?_⟩
        (intro V hSV; (try dsimp only at hSV); obtain ⟨q0, q1, q2, q3, q4⟩ := hSV; go_simp; try with_reducible rfl)
      (try simp only [Act.put, List.setIfInBounds_toArray, List.set_cons_zero, List.set_cons_succ])
      refine wpAnyH_done (by kernel_rfl) ?_ _
      refine NoPanic.normal ?_
      go_wp2_with fail
      go_meet
      have hk9 := ((Keeps.refl [h3.heap.size] ny3).set (g := h3.heap.size) (by simp) 0 (.slice tA L.length tc)).set (g := h3.heap.size) (by simp) 1 (.slice tB M.length td)
      have RD := Lib.hid ((tR.out.mono (show h3.heap.size ≤ _ by (try simp only [World.size_alloc, World.size_drew]); omega)).keeps hk9 (fun q hq => by have := (zc4 q hq).1; simp only [List.mem_singleton]; omega))
      have SD := Lib.hid ((tS.out.mono (show h3.heap.size ≤ _ by (try simp only [World.size_alloc, World.size_drew]); omega)).keeps hk9 (fun q hq => by have := (zc5 q hq).1; simp only [List.mem_singleton]; omega))
      exact ⟨h3.heap.size, _, _, _, _, _, _, rfl, rfl, BF.out, by omega, RD.out, SD.out, HF.out⟩
    case rest =>
      obtain ⟨tb, tA, tc, tf, tB, td, tg, rfl, rfl, hTB, ztb, hrd, hsd, hb⟩ := hcut
      have TB := Lib.hid hTB
      have tR := Lib.hid hrd
      have tS := Lib.hid hsd
      clear p0 p1 p2 p3 p4
      clear hTB hrd hsd HU HR HL
      have AX := Lib.hid (AX.out.below hb)
      have EX := Lib.hid (EX.out.below hb)
      have OB := Lib.hid (OB.out.below hb)
      have oR := Lib.hid (oR.out.below hb)
      have oS := Lib.hid (oS.out.below hb)
      have GB := Lib.hid (GB.out.below hb)
      have gM := Lib.hid (gM.out.below hb)
      have gN := Lib.hid (gN.out.below hb)
      have HB := Lib.hid (below_then HB.out hb)
      clear hb
      have q0 := TB.out.cell 0
      have q1 := TB.out.cell 1
      have o0 := OB.out.cell 0
      have o1 := OB.out.cell 1
      have E1 := Lib.hid tR.out.es
      have E2 := Lib.hid oR.out.es
      have F1 := Lib.hid tS.out.es
      have F2 := Lib.hid oS.out.es
      go_wp2_with fail
      refine (eqStack_any tA L tc tB M td oA L oc oB M od _ (by omega) (by omega) (by exact E1.out) (by exact F1.out) (by exact E2.out) (by exact F2.out)).mono ?_
      rintro e h4 ⟨rfl, hb⟩
      rw [decide_eq_true (rfl : L = L), decide_eq_true (rfl : M = M), Bool.and_self]
      clear E1 E2 F1 F2
      clear q0 q1
      clear o0 o1
      have AX := Lib.hid (AX.out.below hb)
      have EX := Lib.hid (EX.out.below hb)
      have OB := Lib.hid (OB.out.below hb)
      have oR := Lib.hid (oR.out.below hb)
      have oS := Lib.hid (oS.out.below hb)
      have GB := Lib.hid (GB.out.below hb)
      have gM := Lib.hid (gM.out.below hb)
      have gN := Lib.hid (gN.out.below hb)
      have TB := Lib.hid (TB.out.below hb)
      have tR := Lib.hid (tR.out.below hb)
      have tS := Lib.hid (tS.out.below hb)
      have HB := Lib.hid (below_then HB.out hb)
      clear hb
      have q0 := GB.out.cell 0
      have q1 := GB.out.cell 1
      have E1 := Lib.hid gM.out.es
      have F1 := Lib.hid gN.out.es
      go_wp2_with fail
      refine (heldStack_any gA L gc gB M gd 1 _ (by omega) (by omega) (by omega) (by exact E1.out) (by exact F1.out)).mono ?_
      rintro e h5 ⟨rfl, hb⟩
      rw [HN.out]
      clear E1 F1
      clear q0 q1
      have AX := Lib.hid (AX.out.below hb)
      have EX := Lib.hid (EX.out.below hb)
      have GB := Lib.hid (GB.out.below hb)
      have gM := Lib.hid (gM.out.below hb)
      have gN := Lib.hid (gN.out.below hb)
      have HB := Lib.hid (below_then HB.out hb)
      clear hb
      go_wp2
      go_ret
      exact ⟨rfl, HB.out⟩

end Go.Proofs.Ytdmmdbapkogdhaa.fnExactStackMoved

namespace Go.Proofs.Ytdmmdbapkogdhaa.fnExactStackMoved
open Go.ChangeShapes Go.WideShapes Go.ChangeAt Go.RowKit P
set_option linter.unusedVariables false
set_option maxRecDepth 100000

set_option maxRecDepth 100000 in
theorem lifted (os : Os) (started : os.Started) (H : Type) (enc : TypeId × Value → H) :
    ReturnsInHanded {} Try.checked os 17 .any (Rows.fnExactStackMovedSpec.pre6 enc Try.prog Try.f17 Rows.fnExactStackMovedRow.domain false) (Rows.fnExactStackMovedSpec.post enc Try.prog Try.f17 false true false false) := by
  refine returnsInHanded_of_change (C := Try.checked) own started (by kernel_rfl) Try.func17
    (ChangeSpec.witness6 (enc := enc) (C := Try.checked) false ⟨#[], #[.agg #[.slice none 0 0, .slice none 0 0], .agg #[.int .i64 0, .int .i64 0, .slice none 0 0]], []⟩ 8 (by kernel_rfl) (by kernel_rfl) (by kernel_rfl) (by kernel_rfl)) ?_
  intro W base args ds gs before hval0 hW hcnd _
  have hval : ∀ (j : Nat) t v, Try.f17.params[j]? = some t → args[j]? = some v → Value.okWide Try.prog W .any base t v := hval0
  have hW' := hW
  obtain ⟨p, q, hA0, hV, rfl, hfz, hnd⟩ := hW
  have hA : DataW.TrodAll enc Try.prog W 0 (fun _ => true) true Try.f17.params.toList args.toList ds p := hA0
  rw [Try.params17] at hA hval
  obtain ⟨v0, vs0, d0, ds0, p0, q0, hargs, rfl, rfl, h0, r0⟩ := trodAll_cons hA
  obtain ⟨v1, vs1, d1, ds1, p1, q1, rfl, rfl, rfl, h1, r1⟩ := trodAll_cons r0
  obtain ⟨rfl, rfl, rfl⟩ := trodAll_nil r1
  obtain rfl : args = #[v0, v1] := by cases args; simp_all
  obtain ⟨rfl, rfl⟩ := trodVars_none hV
  obtain ⟨cs0, rfl, _⟩ := okWide_struct Try.underlying84 (hval 0 84 v0 rfl rfl)
  have k0 := h0
  have lt0 : ∀ x ∈ p0, x.block < W.heap.size := by obtain ⟨m, hm⟩ := k0; exact DataW.trod_lt m _ _ _ hm
  obtain ⟨g0, hg0⟩ : ∃ d, (Lay.pair (Lay.slice 76 Lay.edit) (Lay.slice 76 Lay.edit)).rd W cs0.toList d := by
    obtain ⟨fuel, hf⟩ := h0
    exact reads_stack (fun _ => rfl) fuel _ _ hf
  obtain ⟨u0, r0'⟩ := g0
  obtain ⟨_, _, e0, ⟨A0, c0, rfl, hc0, hm0, hU0⟩, ⟨B0, d0', rfl, hd0, hn0, hR0⟩⟩ := hg0
  obtain rfl : cs0 = #[.slice A0 u0.length c0, .slice B0 r0'.length d0'] := by cases cs0; simp at e0; subst e0; rfl
  obtain ⟨cs1, rfl, _⟩ := okWide_struct Try.underlying76 (hval 1 76 v1 rfl rfl)
  have k1 := h1
  have lt1 : ∀ x ∈ p1, x.block < W.heap.size := by obtain ⟨m, hm⟩ := k1; exact DataW.trod_lt m _ _ _ hm
  obtain ⟨g1, hg1⟩ : ∃ d, Lay.edit.rd W cs1.toList d := by
    obtain ⟨fuel, hf⟩ := h1
    exact reads_edit (fun _ => rfl) fuel _ _ hf
  obtain ⟨a1, m1, l1⟩ := g1
  obtain ⟨A1, c1, e1, ha1, hn1, hc1, hm1, hB1⟩ := Lay.edit_rd hg1
  obtain rfl : cs1 = #[.int .i64 a1, .int .i64 m1, .slice A1 l1.length c1] := by cases cs1; simp at e1; subst e1; rfl
  clear hA0 hval0
  refine (walk A0 u0 c0 hc0 hm0 B0 r0' d0' hd0 hn0 a1 m1 ha1 hn1 A1 l1 c1 hc1 hm1 W hU0 hR0 hB1).mono fun e W' ⟨he, bel⟩ => ?_
  subst he
  exact ⟨_, rfl, _, _, _, [], _, [], hW', trodAll_mk1 (shut_bool Try.underlying4 _), (trodAll_cons_mk (Below.trod laidOut (by kernel_rfl) (of_decide_eq_true (by kernel_rfl)) k0 bel lt0) (trodAll_cons_mk (Below.trod laidOut (by kernel_rfl) (of_decide_eq_true (by kernel_rfl)) k1 bel lt1) trodAll_mk0)), rfl, bel.frame _, fun h => by cases h⟩

set_option maxRecDepth 100000 in
set_option maxHeartbeats 4000000 in
theorem closed : joinedFacts Try.pinned.checked.prog 17 Try.f17 Rows.fnExactStackMovedSpec Rows.fnExactStackMovedRow = true := by
  have hl : Try.pinned.checked.prog.initOrder.toList = _ := (fun {s : String} {l : List Char} (h : s = String.ofList l) => (by rw [h, String.toList_ofList] : s.toList = l)) rfl
  unfold joinedFacts
  repeat' (with_reducible refine Bool.and_eq_true_iff.2 ⟨?_, ?_⟩)
  all_goals first
    | (unfold Program.mayEnter; rw [hl]; (as_aux_lemma => kernel_rfl))
    | (unfold Program.liftsFinal Program.headLifts; rw [hl]; (as_aux_lemma => kernel_rfl))
    | (unfold Program.make Program.headLifts; rw [hl]; (as_aux_lemma => kernel_rfl))
    | (as_aux_lemma => kernel_rfl)

/-- THE STATEMENT -/
theorem said : Rows.FnExactStackMovedSaid :=
  OpenClaim.holds_of_wide 17 Try.f17 rfl rfl rfl rfl rfl rfl rfl ⟨rfl, rfl, rfl, rfl, rfl⟩ rfl rfl rfl rfl rfl (by kernel_rfl) Try.func17
    closed
    (of_decide_eq_true (by kernel_rfl)) (by unfold Func.isWrapper; first | (rw [if_pos (by decide +kernel)]; kernel_rfl) | (rw [if_neg (by decide +kernel)]; exact ⟨rfl, rfl⟩))
    (fun os started H enc _ => lifted os started H enc)

end Go.Proofs.Ytdmmdbapkogdhaa.fnExactStackMoved
