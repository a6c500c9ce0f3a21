/-
  Chapter 8, l08Side and StackTop in the model: contracts. Own work.
-/
import Derived.Test.YtalcjgmmlmhngaaK04
namespace Go.Proofs.Ytalcjgmmlmhngaa
open Go.RowKit P
set_option linter.unusedVariables false
set_option linter.unusedSimpArgs false
set_option maxRecDepth 100000

set_option maxHeartbeats 2000000 in
theorem l08Side_any (x y : Value) (redo : Bool) (w : World) :
    Calls Try.prog 94 #[.agg #[x, y], .bool redo] w fun e w' => e = .returned (if redo = true then y else x) ∧ Below w.heap.size w w' := by
  have hal := (Below.refl w.heap.size w).alloc (Nat.le_refl _) (.cells #[x, y] 56)
  have bx := Blk.new w #[x, y] 56
  have p0 := bx.cell 0
  have p1 := bx.cell 1
  cases redo
  · go_enter Try.func94, Try.ntmps94
    go_wp2
    go_ret
    exact ⟨rfl, hal⟩
  · go_enter Try.func94, Try.ntmps94
    go_wp2
    go_ret
    exact ⟨rfl, hal⟩
theorem lastE_get {es : List Ed} {n1 : Nat} (h : es.length = n1 + 1) : lastE es = es[n1]'(by omega) := by
  unfold lastE
  rw [List.getLastD_eq_getLast?, List.getLast?_eq_getElem?, List.getElem?_eq_getElem (by omega), Option.getD_some]
  congr 1
  omega

set_option maxHeartbeats 8000000 in
theorem specStackTop_any (A : Option Addr) (u : List Ed) (c : Nat) (B : Option Addr) (r : List Ed) (d : Nat) (redo : Bool) (w : World) (hu9 : u.length ≤ 9223372036854775807) (hr9 : r.length ≤ 9223372036854775807) (hU : Es w A u) (hR : Es w B r) :
    Calls Try.prog 40 #[.agg #[.slice A u.length c, .slice B r.length d], .bool redo] w fun e w' => ∃ v, e = .returned (.tuple #[.agg #[.int .i64 (topV u r redo).1, .int .i64 (topV u r redo).2.1, v], .bool (topOk u r redo)]) ∧ Own w' w.heap.size v (topV u r redo).2.2 ∧ Below w.heap.size w w' := by
  have hal := ((Below.refl w.heap.size w).alloc (Nat.le_refl _) (.cells #[.slice A u.length c, .slice B r.length d] 56)).alloc (by simp) (.cells #[.int .i64 0, .int .i64 0, .slice none 0 0] 42)
  have hbx := (Blk.new w #[.slice A u.length c, .slice B r.length d] 56).alloc (.cells #[.int .i64 0, .int .i64 0, .slice none 0 0] 42)
  have hrx := Blk.new (w.alloc (.cells #[.slice A u.length c, .slice B r.length d] 56)) #[.int .i64 0, .int .i64 0, .slice none 0 0] 42
  simp only [World.size_alloc] at hrx
  have BX := Lib.hid hbx
  have RX := Lib.hid hrx
  have HB := Lib.hid hal
  have hzw : ((w.alloc (.cells #[.slice A u.length c, .slice B r.length d] 56)).alloc (.cells #[.int .i64 0, .int .i64 0, .slice none 0 0] 42)).heap.size ≥ w.heap.size + 2 := by simp
  have HU := Lib.hid (show ∀ W, Below w.heap.size w W → Es W A u from fun W h => hU.below h)
  have HR := Lib.hid (show ∀ W, Below w.heap.size w W → Es W B r from fun W h => hR.below h)
  obtain ⟨k, hk⟩ : ∃ k, topOk u r redo = k := ⟨_, rfl⟩
  obtain ⟨V, hV⟩ : ∃ V, topV u r redo = V := ⟨_, rfl⟩
  rw [hk, hV]
  have HK := Lib.hid hk
  have HV := Lib.hid hV
  obtain ⟨z, hz⟩ : ∃ z, stOk u r = z := ⟨_, rfl⟩
  have HZ := Lib.hid hz
  clear hk hV hz hal hbx hrx hU hR
  go_enter Try.func40, Try.ntmps40
  cases redo
  · have p0 := BX.out.cell 0
    have p1 := BX.out.cell 1
    go_wp2_with fail
    generalize (w.alloc (.cells #[.slice A u.length c, .slice B r.length d] 56)).alloc (.cells #[.int .i64 0, .int .i64 0, .slice none 0 0] 42) = W at *
    refine (l08Side_any (.slice A u.length c) (.slice B r.length d) false _).mono ?_
    rintro e w1 ⟨rfl, hb⟩
    rw [if_neg (by simp)]
    clear p0 p1
    have hz1 := hb.size
    have BX := Lib.hid (BX.out.below hb)
    have RX := Lib.hid (RX.out.below hb)
    have HB := Lib.hid (below_then HB.out hb)
    clear hb
    have p0 := BX.out.cell 0
    have p1 := BX.out.cell 1
    have hU1 := HU.out _ HB.out
    have hR1 := HR.out _ HB.out
    go_wp2_with fail
    refine (specStackOk_any A B u r c d _ hu9 hr9 hU1 hR1).mono ?_
    rintro e w2 ⟨rfl, hb⟩
    rw [HZ.out]
    clear p0 p1 hU1 hR1
    have hz2 := hb.size
    have BX := Lib.hid (BX.out.below hb)
    have RX := Lib.hid (RX.out.below hb)
    have HB := Lib.hid (below_then HB.out hb)
    clear hb
    cases z
    · have hk0 : k = false := by rw [← HK.out]; unfold topOk; rw [HZ.out]; rfl
      have hv0 : V = (0, 0, []) := by rw [← HV.out]; unfold topV; rw [HK.out, hk0]; rfl
      subst hk0 hv0
      have q0 := RX.out.cell 0
      have q1 := RX.out.cell 1
      have q2 := RX.out.cell 2
      have f0 := RX.out.frozen 0
      have f1 := RX.out.frozen 1
      have f2 := RX.out.frozen 2
      have hltR := RX.out.lt
      go_wp2
      refine bodyPost_ret (v := .tuple #[.agg #[.int .i64 0, .int .i64 0, .slice none 0 0], .bool false]) (by simp [results, Try.results40, go_sem, q0, q1, q2]) rfl ?_
      exact ⟨.slice none 0 0, rfl, Own.nil _ _, ((HB.out.setCell (p := ⟨w.heap.size + 1, 0, none⟩) (by simp) _).setCell (p := ⟨w.heap.size + 1, 1, none⟩) (by simp) _).setCell (p := ⟨w.heap.size + 1, 2, none⟩) (by simp) _⟩
    have hfx : stFit u = true := by have h9 := HZ.out; unfold stOk at h9; rw [Bool.and_eq_true] at h9; exact h9.1
    have hl6 := stFit_len hfx
    by_cases h0 : 0 < u.length
    rotate_left
    · have hnz : ((u.length : Int) == 0) = true := by rw [beq_iff_eq]; omega
      have hk0 : k = false := by rw [← HK.out]; unfold topOk; rw [HZ.out]; exact decide_eq_false h0
      have hv0 : V = (0, 0, []) := by rw [← HV.out]; unfold topV; rw [HK.out, hk0]; rfl
      subst hk0 hv0
      have q0 := RX.out.cell 0
      have q1 := RX.out.cell 1
      have q2 := RX.out.cell 2
      have f0 := RX.out.frozen 0
      have f1 := RX.out.frozen 1
      have f2 := RX.out.frozen 2
      have hltR := RX.out.lt
      go_wp2
      refine bodyPost_ret (v := .tuple #[.agg #[.int .i64 0, .int .i64 0, .slice none 0 0], .bool false]) (by simp [results, Try.results40, go_sem, q0, q1, q2]) rfl ?_
      exact ⟨.slice none 0 0, rfl, Own.nil _ _, ((HB.out.setCell (p := ⟨w.heap.size + 1, 0, none⟩) (by simp) _).setCell (p := ⟨w.heap.size + 1, 1, none⟩) (by simp) _).setCell (p := ⟨w.heap.size + 1, 2, none⟩) (by simp) _⟩
    have hnz : ((u.length : Int) == 0) = false := beq_eq_false_iff_ne.2 (by omega)
    obtain ⟨n1, hn1⟩ : ∃ n1, u.length = n1 + 1 := ⟨u.length - 1, by omega⟩
    have hlt : n1 < u.length := by omega
    obtain ⟨b, off, a, m, P, p, d9, rfl, hbl, hek, k0, k1, k2, ha, hm, hpd, hdm, hBp⟩ := (HU.out _ HB.out).at_ n1 hlt
    have hk1 : k = true := by rw [← HK.out]; unfold topOk; rw [HZ.out]; exact decide_eq_true h0
    have hv1 : V = (a, m, p) := by
      rw [← HV.out]
      unfold topV
      rw [HK.out, hk1, if_pos rfl]
      show lastE u = _
      rw [lastE_get hn1, hek]
    have hp4 : p.length ≤ 1000000 := by
      have h9 := stFit_all hfx _ (List.getElem_mem hlt)
      rw [hek] at h9
      have h8 := (edSmall_iff _ _ _).1 (show edSmall a m p = true from h9)
      omega
    have hsub : (u.length : Int) - 1 = (n1 : Int) := by omega
    have hwr : IntKind.i64.wrap (n1 : Int) = (n1 : Int) := IntWalk.i64_in _ (by omega)
    have hi0 : (0 : Int) ≤ (n1 : Int) := by omega
    have hi1 : (n1 : Int) < (u.length : Int) := by omega
    have HBP := Lib.hid hBp
    subst hk1 hv1
    clear hek hn1 hBp hpd hdm ha hm
    go_wp2_with fail
    refine (l08Edit_any a m P p d9 _ hp4 HBP.out).mono ?_
    rintro e w3 ⟨v3, rfl, hO3, hb⟩
    clear k0 k1 k2 HBP
    have BX := Lib.hid (BX.out.below hb)
    have RX := Lib.hid (RX.out.below hb)
    have HB := Lib.hid (below_then HB.out hb)
    clear hb
    obtain ⟨P, d9, rfl, _, _, _⟩ := hO3.form
    have HO := Lib.hid hO3
    clear hO3
    have RX7 := Lib.hid (show Blk ((((w3).setCell ⟨w.heap.size + 1, 0, none⟩ (.int .i64 a)).setCell ⟨w.heap.size + 1, 1, none⟩ (.int .i64 m)).setCell ⟨w.heap.size + 1, 2, none⟩ (.slice P p.length d9)) (w.heap.size + 1) #[.int .i64 a, .int .i64 m, .slice P p.length d9] 42 by simpa using ((RX.out.set 0 (.int .i64 a)).set 1 (.int .i64 m)).set 2 (.slice P p.length d9))
    have HB7 := Lib.hid (show Below w.heap.size w ((((w3).setCell ⟨w.heap.size + 1, 0, none⟩ (.int .i64 a)).setCell ⟨w.heap.size + 1, 1, none⟩ (.int .i64 m)).setCell ⟨w.heap.size + 1, 2, none⟩ (.slice P p.length d9)) from ((HB.out.setCell (p := ⟨w.heap.size + 1, 0, none⟩) (by simp) _).setCell (p := ⟨w.heap.size + 1, 1, none⟩) (by simp) _).setCell (p := ⟨w.heap.size + 1, 2, none⟩) (by simp) _)
    have HO7 := Lib.hid (((HO.out.setBelow (a := ⟨w.heap.size + 1, 0, none⟩) (by simp; omega) (.int .i64 a)).setBelow (a := ⟨w.heap.size + 1, 1, none⟩) (by simp; omega) (.int .i64 m)).setBelow (a := ⟨w.heap.size + 1, 2, none⟩) (by simp; omega) (.slice P p.length d9))
    have f0 := RX.out.frozen 0
    have f1 := RX.out.frozen 1
    have f2 := RX.out.frozen 2
    have c0 := RX.out.cell 0
    have c1 := RX.out.cell 1
    have c2 := RX.out.cell 2
    have q0 := RX7.out.cell 0
    have q1 := RX7.out.cell 1
    have q2 := RX7.out.cell 2
    go_wp2
    refine bodyPost_ret (v := .tuple #[.agg #[.int .i64 a, .int .i64 m, .slice P p.length d9], .bool true]) (by simp [results, Try.results40, go_sem, q0, q1, q2]) rfl ?_
    exact ⟨_, rfl, HO7.out.mono (by omega), HB7.out⟩
  · have p0 := BX.out.cell 0
    have p1 := BX.out.cell 1
    go_wp2_with fail
    generalize (w.alloc (.cells #[.slice A u.length c, .slice B r.length d] 56)).alloc (.cells #[.int .i64 0, .int .i64 0, .slice none 0 0] 42) = W at *
    refine (l08Side_any (.slice A u.length c) (.slice B r.length d) true _).mono ?_
    rintro e w1 ⟨rfl, hb⟩
    rw [if_pos rfl]
    clear p0 p1
    have hz1 := hb.size
    have BX := Lib.hid (BX.out.below hb)
    have RX := Lib.hid (RX.out.below hb)
    have HB := Lib.hid (below_then HB.out hb)
    clear hb
    have p0 := BX.out.cell 0
    have p1 := BX.out.cell 1
    have hU1 := HU.out _ HB.out
    have hR1 := HR.out _ HB.out
    go_wp2_with fail
    refine (specStackOk_any A B u r c d _ hu9 hr9 hU1 hR1).mono ?_
    rintro e w2 ⟨rfl, hb⟩
    rw [HZ.out]
    clear p0 p1 hU1 hR1
    have hz2 := hb.size
    have BX := Lib.hid (BX.out.below hb)
    have RX := Lib.hid (RX.out.below hb)
    have HB := Lib.hid (below_then HB.out hb)
    clear hb
    cases z
    · have hk0 : k = false := by rw [← HK.out]; unfold topOk; rw [HZ.out]; rfl
      have hv0 : V = (0, 0, []) := by rw [← HV.out]; unfold topV; rw [HK.out, hk0]; rfl
      subst hk0 hv0
      have q0 := RX.out.cell 0
      have q1 := RX.out.cell 1
      have q2 := RX.out.cell 2
      have f0 := RX.out.frozen 0
      have f1 := RX.out.frozen 1
      have f2 := RX.out.frozen 2
      have hltR := RX.out.lt
      go_wp2
      refine bodyPost_ret (v := .tuple #[.agg #[.int .i64 0, .int .i64 0, .slice none 0 0], .bool false]) (by simp [results, Try.results40, go_sem, q0, q1, q2]) rfl ?_
      exact ⟨.slice none 0 0, rfl, Own.nil _ _, ((HB.out.setCell (p := ⟨w.heap.size + 1, 0, none⟩) (by simp) _).setCell (p := ⟨w.heap.size + 1, 1, none⟩) (by simp) _).setCell (p := ⟨w.heap.size + 1, 2, none⟩) (by simp) _⟩
    have hfx : stFit r = true := by have h9 := HZ.out; unfold stOk at h9; rw [Bool.and_eq_true] at h9; exact h9.2
    have hl6 := stFit_len hfx
    by_cases h0 : 0 < r.length
    rotate_left
    · have hnz : ((r.length : Int) == 0) = true := by rw [beq_iff_eq]; omega
      have hk0 : k = false := by rw [← HK.out]; unfold topOk; rw [HZ.out]; exact decide_eq_false h0
      have hv0 : V = (0, 0, []) := by rw [← HV.out]; unfold topV; rw [HK.out, hk0]; rfl
      subst hk0 hv0
      have q0 := RX.out.cell 0
      have q1 := RX.out.cell 1
      have q2 := RX.out.cell 2
      have f0 := RX.out.frozen 0
      have f1 := RX.out.frozen 1
      have f2 := RX.out.frozen 2
      have hltR := RX.out.lt
      go_wp2
      refine bodyPost_ret (v := .tuple #[.agg #[.int .i64 0, .int .i64 0, .slice none 0 0], .bool false]) (by simp [results, Try.results40, go_sem, q0, q1, q2]) rfl ?_
      exact ⟨.slice none 0 0, rfl, Own.nil _ _, ((HB.out.setCell (p := ⟨w.heap.size + 1, 0, none⟩) (by simp) _).setCell (p := ⟨w.heap.size + 1, 1, none⟩) (by simp) _).setCell (p := ⟨w.heap.size + 1, 2, none⟩) (by simp) _⟩
    have hnz : ((r.length : Int) == 0) = false := beq_eq_false_iff_ne.2 (by omega)
    obtain ⟨n1, hn1⟩ : ∃ n1, r.length = n1 + 1 := ⟨r.length - 1, by omega⟩
    have hlt : n1 < r.length := by omega
    obtain ⟨b, off, a, m, P, p, d9, rfl, hbl, hek, k0, k1, k2, ha, hm, hpd, hdm, hBp⟩ := (HR.out _ HB.out).at_ n1 hlt
    have hk1 : k = true := by rw [← HK.out]; unfold topOk; rw [HZ.out]; exact decide_eq_true h0
    have hv1 : V = (a, m, p) := by
      rw [← HV.out]
      unfold topV
      rw [HK.out, hk1, if_pos rfl]
      show lastE r = _
      rw [lastE_get hn1, hek]
    have hp4 : p.length ≤ 1000000 := by
      have h9 := stFit_all hfx _ (List.getElem_mem hlt)
      rw [hek] at h9
      have h8 := (edSmall_iff _ _ _).1 (show edSmall a m p = true from h9)
      omega
    have hsub : (r.length : Int) - 1 = (n1 : Int) := by omega
    have hwr : IntKind.i64.wrap (n1 : Int) = (n1 : Int) := IntWalk.i64_in _ (by omega)
    have hi0 : (0 : Int) ≤ (n1 : Int) := by omega
    have hi1 : (n1 : Int) < (r.length : Int) := by omega
    have HBP := Lib.hid hBp
    subst hk1 hv1
    clear hek hn1 hBp hpd hdm ha hm
    go_wp2_with fail
    refine (l08Edit_any a m P p d9 _ hp4 HBP.out).mono ?_
    rintro e w3 ⟨v3, rfl, hO3, hb⟩
    clear k0 k1 k2 HBP
    have BX := Lib.hid (BX.out.below hb)
    have RX := Lib.hid (RX.out.below hb)
    have HB := Lib.hid (below_then HB.out hb)
    clear hb
    obtain ⟨P, d9, rfl, _, _, _⟩ := hO3.form
    have HO := Lib.hid hO3
    clear hO3
    have RX7 := Lib.hid (show Blk ((((w3).setCell ⟨w.heap.size + 1, 0, none⟩ (.int .i64 a)).setCell ⟨w.heap.size + 1, 1, none⟩ (.int .i64 m)).setCell ⟨w.heap.size + 1, 2, none⟩ (.slice P p.length d9)) (w.heap.size + 1) #[.int .i64 a, .int .i64 m, .slice P p.length d9] 42 by simpa using ((RX.out.set 0 (.int .i64 a)).set 1 (.int .i64 m)).set 2 (.slice P p.length d9))
    have HB7 := Lib.hid (show Below w.heap.size w ((((w3).setCell ⟨w.heap.size + 1, 0, none⟩ (.int .i64 a)).setCell ⟨w.heap.size + 1, 1, none⟩ (.int .i64 m)).setCell ⟨w.heap.size + 1, 2, none⟩ (.slice P p.length d9)) from ((HB.out.setCell (p := ⟨w.heap.size + 1, 0, none⟩) (by simp) _).setCell (p := ⟨w.heap.size + 1, 1, none⟩) (by simp) _).setCell (p := ⟨w.heap.size + 1, 2, none⟩) (by simp) _)
    have HO7 := Lib.hid (((HO.out.setBelow (a := ⟨w.heap.size + 1, 0, none⟩) (by simp; omega) (.int .i64 a)).setBelow (a := ⟨w.heap.size + 1, 1, none⟩) (by simp; omega) (.int .i64 m)).setBelow (a := ⟨w.heap.size + 1, 2, none⟩) (by simp; omega) (.slice P p.length d9))
    have f0 := RX.out.frozen 0
    have f1 := RX.out.frozen 1
    have f2 := RX.out.frozen 2
    have c0 := RX.out.cell 0
    have c1 := RX.out.cell 1
    have c2 := RX.out.cell 2
    have q0 := RX7.out.cell 0
    have q1 := RX7.out.cell 1
    have q2 := RX7.out.cell 2
    go_wp2
    refine bodyPost_ret (v := .tuple #[.agg #[.int .i64 a, .int .i64 m, .slice P p.length d9], .bool true]) (by simp [results, Try.results40, go_sem, q0, q1, q2]) rfl ?_
    exact ⟨_, rfl, HO7.out.mono (by omega), HB7.out⟩

theorem topV_len (u r : List Ed) (redo : Bool) : (topV u r redo).2.2.length ≤ 1000 := by
  unfold topV
  split
  · rename_i h
    unfold topOk at h
    rw [Bool.and_eq_true] at h
    have h0 := of_decide_eq_true h.2
    have hs : stFit (sideE u r redo) = true := by
      have h9 := h.1
      unfold stOk at h9
      rw [Bool.and_eq_true] at h9
      cases redo
      · exact h9.1
      · exact h9.2
    obtain ⟨n1, hn1⟩ : ∃ n1, (sideE u r redo).length = n1 + 1 := ⟨(sideE u r redo).length - 1, by omega⟩
    rw [lastE_get hn1]
    have h7 : n1 < (sideE u r redo).length := by omega
    have h8 := (edSmall_iff _ _ _).1 (show edSmall _ _ _ = true from stFit_all hs _ (List.getElem_mem h7))
    omega
  · simp
end Go.Proofs.Ytalcjgmmlmhngaa
