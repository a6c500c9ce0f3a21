/-
  Chapter 3, the model's FingOk: contracts. Own work.
-/
import Derived.Test.YtfbcpiipekfapaaS03b
import Derived.Test.YtfbcpiipekfapaaLvl
import Derived.Outline
namespace Go.Proofs.Ytfbcpiipekfapaa
open Go.RowKit P
set_option linter.unusedVariables false

set_option maxHeartbeats 400000 in
theorem l03Single_any (A1 A2 : Option Addr) (l : Lv) (c1 c2 : Nat) (w : World) :
    Calls Try.prog 55 #[.agg #[.slice A1 l.1.length c1, .slice A2 l.2.length c2]] w fun e w' => e = .returned (.bool (sing l)) ∧ Below w.heap.size w w' := by
  obtain ⟨p, q⟩ := l
  have hq : sing (p, q) = decide (p.length = 1 ∧ q.length = 0) := rfl
  rw [hq]
  simp only
  obtain ⟨m, hm⟩ : ∃ m, p.length = m := ⟨_, rfl⟩
  obtain ⟨n, hn⟩ : ∃ n, q.length = n := ⟨_, rfl⟩
  rw [hm, hn]
  clear hm hn hq
  have hb0 := fun t => (Below.refl w.heap.size w).alloc (Nat.le_refl _) (.cells #[.slice A1 m c1, .slice A2 n c2] t)
  by_cases e1 : m = 1
  · have g1 : ((m : Int) == 1) = true := by simp; omega
    go_enter Try.func55, Try.ntmps55
    go_wp2
    go_ret
    exact ⟨ret_bool (by rw [Bool.eq_iff_iff]; simp; omega), (Below.refl _ _).alloc (Nat.le_refl _) _⟩
  · have g1 : ((m : Int) == 1) = false := by simp; omega
    go_enter Try.func55, Try.ntmps55
    go_wp2
    go_ret
    exact ⟨ret_bool (by rw [Bool.eq_iff_iff]; simp; omega), (Below.refl _ _).alloc (Nat.le_refl _) _⟩

set_option maxHeartbeats 400000 in
theorem l03All_any (A : Option Addr) (l : List Str) (c : Nat) (d : Int) (w : World) (hl : l.length ≤ 9223372036854775807) (hs : l.flatten.length ≤ 2000000) (hA : Ss w A l) :
    Calls Try.prog 56 #[.slice A l.length c, .int .i64 d] w fun e w' => e = .returned (.bool (l.all fun s => shapeB s d)) ∧ Below w.heap.size w w' := by
  go_enter Try.func56, Try.ntmps56
  go_wp2
  go_loopw [5] (fun i wr => ∃ k : Nat, k ≤ l.length ∧ i = .int .i64 k ∧ Hid ((l.take k).all (fun s => shapeB s d) = true) ∧ Below w.heap.size w wr) (fun i _ => l.length - (intOf i).toNat)
  case atStart => exact ⟨0, Nat.zero_le _, rfl, Lib.hid rfl, Below.refl _ _⟩
  case round =>
    obtain ⟨k, hk, rfl, HT, hb⟩ := hrel
    by_cases hlt : k < l.length
    · obtain ⟨b, off, rfl, hbl, hc, hcl⟩ := (hA.below hb).at_ k hlt
      have hat : (l.take (k + 1)).all (fun s => shapeB s d) = ((l.take k).all (fun s => shapeB s d) && shapeB l[k] d) := by
        rw [List.take_succ_eq_append_getElem hlt, List.all_append]; simp
      have haf : shapeB l[k] d = false → l.all (fun s => shapeB s d) = false := fun h => by
        rw [List.all_eq_false]; exact ⟨_, List.getElem_mem hlt, by simp [h]⟩
      have hml := mem_flat_len (List.getElem_mem hlt)
      rw [HT.out, Bool.true_and] at hat
      generalize hE : l[k] = E at *
      generalize hB : shapeB E d = B at *
      have HB := Lib.hid hB
      have HAT := Lib.hid hat
      have HAF := Lib.hid haf
      clear hat haf hE hB
      have hk0 : (k : Int) < (l.length : Int) := by omega
      have hE9 : (⟨E.toArray⟩ : ByteArray).size ≤ 1000000000 := by show E.toArray.size ≤ _; rw [List.size_toArray]; omega
      cases B
      · go_wp2_with fail
        refine (specShapeOk_any ⟨E.toArray⟩ d _ hE9).mono ?_
        rintro e w1 ⟨rfl, hb1⟩
        rw [HB.out]
        have hb2 := below_then hb hb1
        go_wp2
        go_ret
        exact ⟨ret_bool (HAF.out (by trivial)).symm, hb2⟩
      · go_wp2_with fail
        refine (specShapeOk_any ⟨E.toArray⟩ d _ hE9).mono ?_
        rintro e w1 ⟨rfl, hb1⟩
        rw [HB.out]
        have hb2 := below_then hb hb1
        go_wp2
        go_roundw
        case rel => exact ⟨k + 1, by omega, by go_num, HAT, hb2⟩
        case measure => simp [intOf]; omega
    · have e : k = l.length := by omega
      subst e
      rw [List.take_length] at HT
      go_wp2
      go_ret
      exact ⟨ret_bool HT.out.symm, hb⟩

set_option maxRecDepth 100000 in
set_option maxHeartbeats 2000000 in
theorem specFingOk_any (A : Option Addr) (ls : List Lv) (c : Nat) (w : World) (hs : Small ls) (hA : Ls w A ls) :
    Calls Try.prog 21 #[.agg #[.slice A ls.length c]] w fun e w' => e = .returned (.bool (fingB ls)) ∧ Below w.heap.size w w' := by
  have hlen := hs.len
  by_cases h12 : 12 < ls.length
  · have hf : fingB ls = false := by rw [fingB_false]; intro h; have := h.depth; omega
    have HF := Lib.hid hf
    clear hf
    have g12 : (12 : Int) < (ls.length : Int) := by omega
    have hb0 := fun t => (Below.refl w.heap.size w).alloc (Nat.le_refl _) (.cells #[.slice A ls.length c] t)
    go_enter Try.func21, Try.ntmps21
    go_wp2
    go_ret
    exact ⟨ret_bool HF.out.symm, hb0 _⟩
  have g12 : ¬ (12 : Int) < (ls.length : Int) := by omega
  go_enter Try.func21, Try.ntmps21
  go_wp2
  go_loopw [3, 4] (fun n i wr => ∃ k : Nat, k ≤ ls.length ∧ i = .int .i64 k ∧ n = .int .i64 ((leaves (ls.take k) : Nat) : Int) ∧ Hid (∀ i, i < k → okAt ls i) ∧ Below w.heap.size w wr ∧ wr.cell? ⟨w.heap.size, 0, none⟩ = some (.slice A ls.length c) ∧ w.heap.size < wr.heap.size) (fun _ i _ => ls.length - (intOf i).toNat)
  case atStart => exact ⟨0, Nat.zero_le _, rfl, rfl, Lib.hid (fun i hi => by omega), (Below.refl _ _).alloc (Nat.le_refl _) _, by go_simp, by simp⟩
  case round =>
    obtain ⟨k, hk, rfl, rfl, HI, hb, hcr, hsz⟩ := hrel
    by_cases hlt : k < ls.length
    · obtain ⟨b, off, A1, c1, A2, c2, rfl, hbl, hc1, hc2, hd1, hd2, hd3, hd4, hS1, hS2⟩ := (hA.below hb).at_ k hlt
      have he := hs.each ls[k] (List.getElem_mem hlt)
      have hok : okAt ls k ↔ (formB ls[k] (decide (k + 1 = ls.length)) = true ∧ (ls[k].1.all fun s => shapeB s (k : Int)) = true ∧ (ls[k].2.all fun s => shapeB s (k : Int)) = true) := ⟨fun ⟨_, h⟩ => h, fun h => ⟨hlt, h⟩⟩
      have hno := fun h => fingB_not (ls := ls) hlt h
      have h1 := leaves_take ls k hlt
      have h2 := leaves_le ls k hlt
      have hlv := hs.lvs
      have HOK := Lib.hid hok
      have HNO := Lib.hid hno
      have H1 := Lib.hid h1
      clear hok hno h1
      generalize hL : ls[k] = L at *
      obtain ⟨p, q⟩ := L
      simp only at he hc1 hc2 hd1 hd3 hS1 hS2 HOK h2 H1
      clear hL
      clear hd2 hd4
      obtain ⟨z, hz⟩ : ∃ z, leaves (ls.take k) = z := ⟨_, rfl⟩
      rw [hz] at h2 H1 ⊢
      clear hz
      have hk0 : (k : Int) < (ls.length : Int) := by omega
      have hlast : ((k : Int) == (ls.length : Int) - 1) = decide (k + 1 = ls.length) := by rw [Bool.eq_iff_iff]; simp; omega
      have hform := @formB_iff (p, q) (decide (k + 1 = ls.length))
      generalize hla : decide (k + 1 = ls.length) = last at *
      have HLA := Lib.hid hla
      clear hla
      generalize hf2 : (p.all fun s => shapeB s (k : Int)) = f2 at *
      generalize hf3 : (q.all fun s => shapeB s (k : Int)) = f3 at *
      have HF2 := Lib.hid hf2
      have HF3 := Lib.hid hf3
      have HFM := Lib.hid hform
      clear hf2 hf3 hform
      have hp9 : p.length ≤ 9223372036854775807 := by omega
      have hq9 : q.length ≤ 9223372036854775807 := by omega
      have hbl1 := (Below.refl wr.heap.size wr).alloc (Nat.le_refl _) (.cells #[.slice A1 p.length c1, .slice A2 q.length c2] 63)
      have hbl2 := hb.alloc hb.size (.cells #[.slice A1 p.length c1, .slice A2 q.length c2] 63)
      have k0 : (wr.alloc (.cells #[.slice A1 p.length c1, .slice A2 q.length c2] 63)).cell? ⟨wr.heap.size, 0, none⟩ = some (.slice A1 p.length c1) := by go_simp
      have k1 : (wr.alloc (.cells #[.slice A1 p.length c1, .slice A2 q.length c2] 63)).cell? ⟨wr.heap.size, 1, none⟩ = some (.slice A2 q.length c2) := by go_simp
      have k2 : (wr.alloc (.cells #[.slice A1 p.length c1, .slice A2 q.length c2] 63)).cell? ⟨w.heap.size, 0, none⟩ = some (.slice (some ⟨b, off, none⟩) ls.length c) := by go_simp
      have hs1 : w.heap.size < (wr.alloc (.cells #[.slice A1 p.length c1, .slice A2 q.length c2] 63)).heap.size := by simp; omega
      have hs2 : wr.heap.size < (wr.alloc (.cells #[.slice A1 p.length c1, .slice A2 q.length c2] 63)).heap.size := by simp
      have hS1' := hS1.below hbl1
      have hS2' := hS2.below hbl1
      by_cases hdeep : ((1 ≤ p.length ∧ p.length ≤ 4) ∧ (1 ≤ q.length ∧ q.length ≤ 4))
      · have i1 : (1 : Int) ≤ (p.length : Int) := by omega
        have i2 : (p.length : Int) ≤ 4 := by omega
        have i3 : (1 : Int) ≤ (q.length : Int) := by omega
        have i4 : (q.length : Int) ≤ 4 := by omega
        have hfm := HFM.out.2 (.inl hdeep)
        have HFX := Lib.hid hfm
        clear hfm hdeep
        go_wp2_with fail
        refine (l03All_any A1 p c1 k _ hp9 (by omega) (by exact hS1')).mono ?_
        rintro e w1 ⟨rfl, hb1⟩
        rw [HF2.out]
        have j0 := (hb1.cell (p := ⟨wr.heap.size, 0, none⟩) hs2).trans k0
        have j1 := (hb1.cell (p := ⟨wr.heap.size, 1, none⟩) hs2).trans k1
        have j2 := (hb1.cell (p := ⟨w.heap.size, 0, none⟩) hs1).trans k2
        have js1 := Nat.lt_of_lt_of_le hs1 hb1.size
        have js2 := Nat.lt_of_lt_of_le hs2 hb1.size
        have hT1 := hS1'.below hb1
        have hT2 := hS2'.below hb1
        have hb3 := below_then hbl2 hb1
        clear hb1
        cases f2
        · have hfin := HNO.out (fun h => by have := (HOK.out.1 h).2.1; simp at this)
          have HFIN := Lib.hid hfin
          clear hfin
          go_wp2
          go_ret
          exact ⟨ret_bool HFIN.out.symm, hb3⟩
        · go_wp2_with fail
          refine (l03All_any A2 q c2 k _ hq9 (by omega) (by exact hT2)).mono ?_
          rintro e w2 ⟨rfl, hb4⟩
          rw [HF3.out]
          have l0 := (hb4.cell (p := ⟨wr.heap.size, 0, none⟩) js2).trans j0
          have l1 := (hb4.cell (p := ⟨wr.heap.size, 1, none⟩) js2).trans j1
          have l2 := (hb4.cell (p := ⟨w.heap.size, 0, none⟩) js1).trans j2
          have ls1 := Nat.lt_of_lt_of_le js1 hb4.size
          have hU1 := hT1.below hb4
          have hU2 := hT2.below hb4
          have hb5 := below_then hb3 hb4
          clear hb4
          cases f3
          · have hfin := HNO.out (fun h => by have := (HOK.out.1 h).2.2; simp at this)
            have HFIN := Lib.hid hfin
            clear hfin
            go_wp2
            go_ret
            exact ⟨ret_bool HFIN.out.symm, hb5⟩
          · have hok := HOK.out.2 ⟨HFX.out, by trivial, by trivial⟩
            have hnx : ∀ i, i < k + 1 → okAt ls i := fun i hi => by
              by_cases e : i = k
              · subst e; exact hok
              · exact HI.out i (by omega)
            have HN := Lib.hid hnx
            have hpl : lv p.flatten ≤ 2000000 := by omega
            have hql : lv q.flatten ≤ 2000000 := by omega
            clear hok hnx
            go_wp2
            go_loop [3, 7] (fun n i => ∃ j : Nat, j ≤ p.length ∧ i = .int .i64 j ∧ n = .int .i64 ((z + lv (p.take j).flatten : Nat) : Int)) (fun _ i => p.length - (intOf i).toNat)
            case atStart => exact ⟨0, Nat.zero_le _, rfl, by simp [lv_nil]⟩
            case round =>
              obtain ⟨j, hj, rfl, rfl⟩ := hrel
              by_cases hlt2 : j < p.length
              · obtain ⟨b', off', rfl, hbl', hc', hcl'⟩ := hU1.at_ j hlt2
                have g1 := lvs_take p j hlt2
                have g2 := lvs_le p j hlt2
                have hml := mem_flat_len (List.getElem_mem hlt2)
                generalize hE : p[j] = E at *
                obtain ⟨y, hy⟩ : ∃ y, z + lv (p.take j).flatten = y := ⟨_, rfl⟩
                have g3 : z + lv (p.take (j + 1)).flatten = y + lv E := by omega
                have g4 : y + lv E ≤ 6000000 := by omega
                rw [hy]
                have G3 := Lib.hid g3
                clear g1 g2 g3 hy hE
                have hj0 : (j : Int) < (p.length : Int) := by omega
                have hE9 : (⟨E.toArray⟩ : ByteArray).size ≤ 1000000000000 := by show E.toArray.size ≤ _; rw [List.size_toArray]; omega
                go_wp2_with fail
                refine (l03Leaves_any ⟨E.toArray⟩ _ hE9).mono ?_
                rintro e w3 ⟨rfl, rfl⟩
                obtain ⟨x, hx⟩ : ∃ x, lv E = x := ⟨_, rfl⟩
                rw [show lv (⟨E.toArray⟩ : ByteArray).data.toList = lv E from rfl]
                rw [hx] at g4 G3 ⊢
                clear hx
                go_wp2
                go_round
                case rel => exact ⟨j + 1, by omega, by go_num, by rw [G3.out]; go_num⟩
                case measure => simp [intOf]; omega
              · have e : j = p.length := by omega
                subst e
                rw [List.take_length]
                obtain ⟨y, hy⟩ : ∃ y, z + lv p.flatten = y := ⟨_, rfl⟩
                have hy9 : y ≤ 4000000 := by omega
                rw [hy]
                have HY := Lib.hid hy
                clear hy
                go_wp2
                go_loop [3, 8] (fun n i => ∃ j : Nat, j ≤ q.length ∧ i = .int .i64 j ∧ n = .int .i64 ((y + lv (q.take j).flatten : Nat) : Int)) (fun _ i => q.length - (intOf i).toNat)
                case atStart => exact ⟨0, Nat.zero_le _, rfl, by simp [lv_nil]⟩
                case round =>
                  obtain ⟨j, hj, rfl, rfl⟩ := hrel
                  by_cases hlt3 : j < q.length
                  · obtain ⟨b', off', rfl, hbl', hc', hcl'⟩ := hU2.at_ j hlt3
                    have g1 := lvs_take q j hlt3
                    have g2 := lvs_le q j hlt3
                    have hml := mem_flat_len (List.getElem_mem hlt3)
                    generalize hE : q[j] = E at *
                    obtain ⟨x, hx⟩ : ∃ x, y + lv (q.take j).flatten = x := ⟨_, rfl⟩
                    have g3 : y + lv (q.take (j + 1)).flatten = x + lv E := by omega
                    have g4 : x + lv E ≤ 6000000 := by omega
                    rw [hx]
                    have G3 := Lib.hid g3
                    clear g1 g2 g3 hx hE
                    have hj0 : (j : Int) < (q.length : Int) := by omega
                    have hE9 : (⟨E.toArray⟩ : ByteArray).size ≤ 1000000000000 := by show E.toArray.size ≤ _; rw [List.size_toArray]; omega
                    go_wp2_with fail
                    refine (l03Leaves_any ⟨E.toArray⟩ _ hE9).mono ?_
                    rintro e w3 ⟨rfl, rfl⟩
                    obtain ⟨u, hu⟩ : ∃ u, lv E = u := ⟨_, rfl⟩
                    rw [show lv (⟨E.toArray⟩ : ByteArray).data.toList = lv E from rfl]
                    rw [hu] at g4 G3 ⊢
                    clear hu
                    go_wp2
                    go_round
                    case rel => exact ⟨j + 1, by omega, by go_num, by rw [G3.out]; go_num⟩
                    case measure => simp [intOf]; omega
                  · have e : j = q.length := by omega
                    subst e
                    rw [List.take_length]
                    have hfin : leaves (ls.take (k + 1)) = y + lv q.flatten := by rw [H1.out, ← HY.out]; omega
                    obtain ⟨u, hu⟩ : ∃ u, y + lv q.flatten = u := ⟨_, rfl⟩
                    have hu9 : u ≤ 6000000 := by omega
                    rw [hu] at hfin ⊢
                    have HFN := Lib.hid hfin
                    clear hfin hu
                    go_wp2
                    go_roundw
                    case rel => exact ⟨k + 1, by omega, by go_num, by rw [HFN.out], HN, hb5, l2, ls1⟩
                    case measure => simp [intOf]; omega
      · have hna : ∀ X : Prop, ¬ (((1 ≤ p.length ∧ p.length ≤ 4) ∧ (1 ≤ q.length ∧ q.length ≤ 4)) ∨ X) → ¬ X := fun X h hx => h (.inr hx)
        by_cases hsg : sing (p, q) = true
        · have hsl : p.length = 1 ∧ q.length = 0 := by unfold sing at hsg; exact of_decide_eq_true hsg
          have i1 : (1 : Int) ≤ (p.length : Int) := by omega
          have i2 : (p.length : Int) ≤ 4 := by omega
          have i3 : ¬ (1 : Int) ≤ (q.length : Int) := by omega
          have HSG := Lib.hid hsg
          have HSL := Lib.hid hsl
          clear hdeep hna hsl
          go_wp2_with fail
          refine (l03Single_any A1 A2 (p, q) c1 c2 _).mono ?_
          rintro e w0 ⟨rfl, hb0⟩
          rw [HSG.out]
          have k00 := (hb0.cell (p := ⟨wr.heap.size, 0, none⟩) hs2).trans k0
          have k10 := (hb0.cell (p := ⟨wr.heap.size, 1, none⟩) hs2).trans k1
          have k20 := (hb0.cell (p := ⟨w.heap.size, 0, none⟩) hs1).trans k2
          have hs10 := Nat.lt_of_lt_of_le hs1 hb0.size
          have hs20 := Nat.lt_of_lt_of_le hs2 hb0.size
          have hS1'0 := hS1'.below hb0
          have hS2'0 := hS2'.below hb0
          have hbl20 := below_then hbl2 hb0
          clear hb0
          cases last
          · have hfin := HNO.out (fun h => by
              have h1 := HFM.out.1 (HOK.out.1 h).1
              have h2 := HSL.out
              simp at h1
              omega)
            have HFIN := Lib.hid hfin
            clear hfin
            go_wp2
            go_ret
            exact ⟨ret_bool HFIN.out.symm, hbl20⟩
          · have hfm := HFM.out.2 (.inr ⟨HSG.out, by trivial⟩)
            have HFX := Lib.hid hfm
            clear hfm
            go_wp2_with fail
            refine (l03All_any A1 p c1 k _ hp9 (by omega) (by exact hS1'0)).mono ?_
            rintro e w1 ⟨rfl, hb1⟩
            rw [HF2.out]
            have j0 := (hb1.cell (p := ⟨wr.heap.size, 0, none⟩) hs20).trans k00
            have j1 := (hb1.cell (p := ⟨wr.heap.size, 1, none⟩) hs20).trans k10
            have j2 := (hb1.cell (p := ⟨w.heap.size, 0, none⟩) hs10).trans k20
            have js1 := Nat.lt_of_lt_of_le hs10 hb1.size
            have js2 := Nat.lt_of_lt_of_le hs20 hb1.size
            have hT1 := hS1'0.below hb1
            have hT2 := hS2'0.below hb1
            have hb3 := below_then hbl20 hb1
            clear hb1
            cases f2
            · have hfin := HNO.out (fun h => by have := (HOK.out.1 h).2.1; simp at this)
              have HFIN := Lib.hid hfin
              clear hfin
              go_wp2
              go_ret
              exact ⟨ret_bool HFIN.out.symm, hb3⟩
            · go_wp2_with fail
              refine (l03All_any A2 q c2 k _ hq9 (by omega) (by exact hT2)).mono ?_
              rintro e w2 ⟨rfl, hb4⟩
              rw [HF3.out]
              have l0 := (hb4.cell (p := ⟨wr.heap.size, 0, none⟩) js2).trans j0
              have l1 := (hb4.cell (p := ⟨wr.heap.size, 1, none⟩) js2).trans j1
              have l2 := (hb4.cell (p := ⟨w.heap.size, 0, none⟩) js1).trans j2
              have ls1 := Nat.lt_of_lt_of_le js1 hb4.size
              have hU1 := hT1.below hb4
              have hU2 := hT2.below hb4
              have hb5 := below_then hb3 hb4
              clear hb4
              cases f3
              · have hfin := HNO.out (fun h => by have := (HOK.out.1 h).2.2; simp at this)
                have HFIN := Lib.hid hfin
                clear hfin
                go_wp2
                go_ret
                exact ⟨ret_bool HFIN.out.symm, hb5⟩
              · have hok := HOK.out.2 ⟨HFX.out, by trivial, by trivial⟩
                have hnx : ∀ i, i < k + 1 → okAt ls i := fun i hi => by
                  by_cases e : i = k
                  · subst e; exact hok
                  · exact HI.out i (by omega)
                have HN := Lib.hid hnx
                have hpl : lv p.flatten ≤ 2000000 := by omega
                have hql : lv q.flatten ≤ 2000000 := by omega
                clear hok hnx
                go_wp2
                go_loop [3, 7] (fun n i => ∃ j : Nat, j ≤ p.length ∧ i = .int .i64 j ∧ n = .int .i64 ((z + lv (p.take j).flatten : Nat) : Int)) (fun _ i => p.length - (intOf i).toNat)
                case atStart => exact ⟨0, Nat.zero_le _, rfl, by simp [lv_nil]⟩
                case round =>
                  obtain ⟨j, hj, rfl, rfl⟩ := hrel
                  by_cases hlt2 : j < p.length
                  · obtain ⟨b', off', rfl, hbl', hc', hcl'⟩ := hU1.at_ j hlt2
                    have g1 := lvs_take p j hlt2
                    have g2 := lvs_le p j hlt2
                    have hml := mem_flat_len (List.getElem_mem hlt2)
                    generalize hE : p[j] = E at *
                    obtain ⟨y, hy⟩ : ∃ y, z + lv (p.take j).flatten = y := ⟨_, rfl⟩
                    have g3 : z + lv (p.take (j + 1)).flatten = y + lv E := by omega
                    have g4 : y + lv E ≤ 6000000 := by omega
                    rw [hy]
                    have G3 := Lib.hid g3
                    clear g1 g2 g3 hy hE
                    have hj0 : (j : Int) < (p.length : Int) := by omega
                    have hE9 : (⟨E.toArray⟩ : ByteArray).size ≤ 1000000000000 := by show E.toArray.size ≤ _; rw [List.size_toArray]; omega
                    go_wp2_with fail
                    refine (l03Leaves_any ⟨E.toArray⟩ _ hE9).mono ?_
                    rintro e w3 ⟨rfl, rfl⟩
                    obtain ⟨x, hx⟩ : ∃ x, lv E = x := ⟨_, rfl⟩
                    rw [show lv (⟨E.toArray⟩ : ByteArray).data.toList = lv E from rfl]
                    rw [hx] at g4 G3 ⊢
                    clear hx
                    go_wp2
                    go_round
                    case rel => exact ⟨j + 1, by omega, by go_num, by rw [G3.out]; go_num⟩
                    case measure => simp [intOf]; omega
                  · have e : j = p.length := by omega
                    subst e
                    rw [List.take_length]
                    obtain ⟨y, hy⟩ : ∃ y, z + lv p.flatten = y := ⟨_, rfl⟩
                    have hy9 : y ≤ 4000000 := by omega
                    rw [hy]
                    have HY := Lib.hid hy
                    clear hy
                    go_wp2
                    go_loop [3, 8] (fun n i => ∃ j : Nat, j ≤ q.length ∧ i = .int .i64 j ∧ n = .int .i64 ((y + lv (q.take j).flatten : Nat) : Int)) (fun _ i => q.length - (intOf i).toNat)
                    case atStart => exact ⟨0, Nat.zero_le _, rfl, by simp [lv_nil]⟩
                    case round =>
                      obtain ⟨j, hj, rfl, rfl⟩ := hrel
                      by_cases hlt3 : j < q.length
                      · exact absurd hlt3 (by have := HSL.out; omega)
                      · have e : j = q.length := by omega
                        subst e
                        rw [List.take_length]
                        have hfin : leaves (ls.take (k + 1)) = y + lv q.flatten := by rw [H1.out, ← HY.out]; omega
                        obtain ⟨u, hu⟩ : ∃ u, y + lv q.flatten = u := ⟨_, rfl⟩
                        have hu9 : u ≤ 6000000 := by omega
                        rw [hu] at hfin ⊢
                        have HFN := Lib.hid hfin
                        clear hfin hu
                        go_wp2
                        go_roundw
                        case rel => exact ⟨k + 1, by omega, by go_num, by rw [HFN.out], HN, hb5, l2, ls1⟩
                        case measure => simp [intOf]; omega
        · have hsg' : sing (p, q) = false := by simpa using hsg
          have hfin := HNO.out (fun h => by
            have h1 := HFM.out.1 (HOK.out.1 h).1
            rcases h1 with h1 | h1
            · exact hdeep h1
            · exact hsg h1.1)
          have HFIN := Lib.hid hfin
          have HSG := Lib.hid hsg'
          clear hfin hsg hsg' hna
          have hcases : ¬ (1 : Int) ≤ (p.length : Int) ∨ ((1 : Int) ≤ (p.length : Int) ∧ ¬ (p.length : Int) ≤ 4) ∨ ((1 : Int) ≤ (p.length : Int) ∧ (p.length : Int) ≤ 4 ∧ ¬ (1 : Int) ≤ (q.length : Int)) ∨ ((1 : Int) ≤ (p.length : Int) ∧ (p.length : Int) ≤ 4 ∧ (1 : Int) ≤ (q.length : Int) ∧ ¬ (q.length : Int) ≤ 4) := by omega
          clear hdeep
          rcases hcases with i1 | ⟨i1, i2⟩ | ⟨i1, i2, i3⟩ | ⟨i1, i2, i3, i4⟩
          all_goals
            go_wp2_with fail
            refine (l03Single_any A1 A2 (p, q) c1 c2 _).mono ?_
            rintro e w0 ⟨rfl, hb0⟩
            rw [HSG.out]
            have hbl20 := below_then hbl2 hb0
            clear hb0
            go_wp2
            go_ret
            exact ⟨ret_bool HFIN.out.symm, hbl20⟩
    · have e : k = ls.length := by omega
      subst e
      have hfe := fingB_few HI.out
      rw [List.take_length]
      have hlv := hs.lvs
      obtain ⟨z, hz⟩ : ∃ z, leaves ls = z := ⟨_, rfl⟩
      rw [hz] at hfe hlv ⊢
      have HFE := Lib.hid hfe
      clear hfe hz
      go_wp2
      go_ret
      exact ⟨ret_bool (by rw [HFE.out, Bool.eq_iff_iff]; simp; omega), hb⟩
end Go.Proofs.Ytfbcpiipekfapaa
