/-
  Chapter 4, the model's RopeEdit: contract. Own work.
-/
import Derived.Test.YtnpbdkfkdbfdhaaDoorS07
namespace Go.Proofs.YtnpbdkfkdbfdhaaDoor
open Go.RowKit P
set_option linter.unusedVariables false
set_option linter.unusedSimpArgs false
set_option maxRecDepth 100000

set_option maxHeartbeats 4000000 in
theorem specRopeEdit_any (A : Option Addr) (ls : List (List UInt8)) (c : Nat) (a m : Int) (Ap : Option Addr) (p : List UInt8) (cp : Nat) (w : World) (hn : ls.length ≤ 9223372036854775807) (hpc : p.length ≤ cp) (hcp9 : cp ≤ 9223372036854775807) (hC : Cs w A ls) (hP : Bs w Ap p) :
    Calls Tryd.prog 42 #[.agg #[.slice A ls.length c], .int .i64 a, .int .i64 m, .slice Ap p.length cp] w (GivesRB (editV ls a m p) (editOk ls a m p) w) := by
  by_cases hok : editOk ls a m p = true
  · have hv : editV ls a m p = editR ls a (a + m) (tot ls) p := by unfold editV; rw [if_pos hok]
    rw [hv, hok]
    exact specRopeEdit_ok A ls c a m Ap p cp w hn hpc hcp9 hC hP hok
  · have hok0 : editOk ls a m p = false := by simpa using hok
    have hv : editV ls a m p = [] := by unfold editV; rw [if_neg hok]
    rw [hv, hok0]
    have hlen := chunksText_len ls
    obtain ⟨T', hT'⟩ : ∃ T', chunksText ls = T' := ⟨_, rfl⟩
    obtain ⟨q1, hq1⟩ : ∃ q, rCut ls a = q := ⟨_, rfl⟩
    obtain ⟨q2, hq2⟩ : ∃ q, cutOk T' (a + m) = q := ⟨_, rfl⟩
    obtain ⟨q3, hq3⟩ : ∃ q, isText p = q := ⟨_, rfl⟩
    rw [hT'] at hlen
    have hrange : q1 = true → 0 ≤ a ∧ a ≤ (T'.length : Int) := fun h => by
      have h2 := rCut_range (hq1.trans h)
      rw [← chunksText_ok h2.1, hT'] at h2
      exact h2.2
    have hbig : q1 = true → 0 ≤ m → q2 = true → q3 = true → 400 < (T'.length : Int) - m + p.length := fun h1 h2 h3 h4 => by
      have hc1 := hq1.trans h1
      have hck := (rCut_range hc1).1
      have e1 : (T'.length : Int) = (tot ls : Int) := by rw [← hT', chunksText_ok hck]; rfl
      apply Int.lt_of_not_ge
      intro h5
      refine hok ((editOk_iff ls a m p).2 ⟨h2, hq3.trans h4, hc1, ?_, by rw [← e1]; exact h5⟩)
      have h6 := hq2.trans h3
      unfold cutOk at h6
      rw [Bool.and_eq_true] at h6
      unfold rCut
      rw [hck, hT', h6.2]; rfl
    have HT := Lib.hid hT'
    have HQ1 := Lib.hid hq1
    have HQ2 := Lib.hid hq2
    have HQ3 := Lib.hid hq3
    have HRG := Lib.hid hrange
    have HBG := Lib.hid hbig
    have hal := ((Below.refl w.heap.size w).alloc (Nat.le_refl _) (.cells #[.slice A ls.length c] 38)).alloc (by simp) (.cells #[.slice none 0 0] 38)
    have bA := (Boxed.new w 38 (.slice A ls.length c)).alloc (.cells #[.slice none 0 0] 38)
    have bR : Boxed ((w.alloc (.cells #[.slice A ls.length c] 38)).alloc (.cells #[.slice none 0 0] 38)) (w.heap.size + 1) 38 (.slice none 0 0) := by
      have := Boxed.new (w.alloc (.cells #[.slice A ls.length c] 38)) 38 (.slice none 0 0)
      simpa only [World.size_alloc] using this
    clear hok hok0 hv hT' hq1 hq2 hq3 hrange hbig
    go_enter Tryd.func42, Tryd.ntmps42
    go_wp2_with fail
    generalize (w.alloc (.cells #[.slice A ls.length c] 38)).alloc (.cells #[.slice none 0 0] 38) = W1 at *
    refine (specRopeText_any A ls c _ hn (by exact hC.below hal)).mono ?_
    rintro e w2 ⟨v2, rfl, hown2, hb2⟩
    rw [HT.out] at hown2
    have bA2 := boxed_belowAll bA hb2
    have bR2 := boxed_belowAll bR hb2
    obtain ⟨B2, d2, rfl, hld2, hdm2, hB2⟩ := hown2.form
    have hd29 : d2 ≤ 9223372036854775807 := by unfold maxLen at hdm2; omega
    have hb2 := below_then hal hb2
    have kA2 := bA2.cell
    clear bA bR hown2 hdm2 hal
    go_wp2_with fail
    refine (l04Cut_any A ls c a _ hn (by exact hC.below hb2)).mono ?_
    rintro e w3 ⟨rfl, hb3⟩
    rw [HQ1.out]
    have bR3 := boxed_belowAll bR2 hb3
    have hB3 := hB2.below hb3
    have hb3 := below_then hb2 hb3
    have cR3 : w3.cell? ⟨w.heap.size + 1, 0, none⟩ = some (.slice none 0 0) := bR3.cell
    have gR3 : w3.frozen? ⟨w.heap.size + 1, 0, none⟩ = false := bR3.frozen
    clear bA2 bR2 hB2 hb2 kA2
    cases q1
    · go_wp2
      exact bodyPost_ret (v := .tuple #[.agg #[.slice none 0 0], .bool false]) (by simp [results, Tryd.results42, go_sem, cR3]) rfl (givesRB_nil (by first | exact hb3 | exact hb3.setCell (p := ⟨w.heap.size + 1, 0, none⟩) (by simp) _))
    · obtain ⟨ha0, ha4⟩ := HRG.out rfl
      by_cases hneg : m < 0
      · go_wp2
        exact bodyPost_ret (v := .tuple #[.agg #[.slice none 0 0], .bool false]) (by simp [results, Tryd.results42, go_sem, cR3]) rfl (givesRB_nil (by first | exact hb3 | exact hb3.setCell (p := ⟨w.heap.size + 1, 0, none⟩) (by simp) _))
      · by_cases hover : (T'.length : Int) - a < m
        · go_wp2
          exact bodyPost_ret (v := .tuple #[.agg #[.slice none 0 0], .bool false]) (by simp [results, Tryd.results42, go_sem, cR3]) rfl (givesRB_nil (by first | exact hb3 | exact hb3.setCell (p := ⟨w.heap.size + 1, 0, none⟩) (by simp) _))
        · have hm0 : 0 ≤ m := by omega
          have ham : a + m ≤ (T'.length : Int) := by omega
          go_wp2_with fail
          refine (specCutOk_any B2 T' d2 (a + m) _ hld2 hd29 (by exact hB3)).mono ?_
          rintro e w4 ⟨rfl, hb4⟩
          rw [HQ2.out]
          have bR4 := boxed_belowAll bR3 hb4
          have hb4 := below_then hb3 hb4
          have cR4 : w4.cell? ⟨w.heap.size + 1, 0, none⟩ = some (.slice none 0 0) := bR4.cell
          have gR4 : w4.frozen? ⟨w.heap.size + 1, 0, none⟩ = false := bR4.frozen
          clear bR3 hB3 hb3 cR3 gR3
          cases q2
          · go_wp2
            exact bodyPost_ret (v := .tuple #[.agg #[.slice none 0 0], .bool false]) (by simp [results, Tryd.results42, go_sem, cR4]) rfl (givesRB_nil (by first | exact hb4 | exact hb4.setCell (p := ⟨w.heap.size + 1, 0, none⟩) (by simp) _))
          · go_wp2_with fail
            refine (specTextOk_any Ap p cp _ hpc hcp9 (by exact hP.below hb4)).mono ?_
            rintro e w5 ⟨rfl, hb5⟩
            rw [HQ3.out]
            have bR5 := boxed_belowAll bR4 hb5
            have hb5 := below_then hb4 hb5
            have cR5 : w5.cell? ⟨w.heap.size + 1, 0, none⟩ = some (.slice none 0 0) := bR5.cell
            have gR5 : w5.frozen? ⟨w.heap.size + 1, 0, none⟩ = false := bR5.frozen
            clear bR4 hb4 cR4 gR4
            cases q3
            · go_wp2
              exact bodyPost_ret (v := .tuple #[.agg #[.slice none 0 0], .bool false]) (by simp [results, Tryd.results42, go_sem, cR5]) rfl (givesRB_nil (by first | exact hb5 | exact hb5.setCell (p := ⟨w.heap.size + 1, 0, none⟩) (by simp) _))
            · have hbg := HBG.out (by simp) hm0 (by simp) (by simp)
              have hp4 := isText_len HQ3.out
              go_wp2
              exact bodyPost_ret (v := .tuple #[.agg #[.slice none 0 0], .bool false]) (by simp [results, Tryd.results42, go_sem, cR5]) rfl (givesRB_nil (by first | exact hb5 | exact hb5.setCell (p := ⟨w.heap.size + 1, 0, none⟩) (by simp) _))

theorem editV_bd (ls : List (List UInt8)) (a m : Int) (p : List UInt8) : (editV ls a m p).length + tot (editV ls a m p) ≤ 1000000 := by
  unfold editV
  split
  · rename_i h
    obtain ⟨h1, h2, h3, h4, h5⟩ := (editOk_iff ls a m p).1 h
    have hck := (rCut_range h3).1
    have htot := chunksOk_tot hck
    have hl4 := chunksOk_len hck
    have hne : ∀ k (h : k < ls.length), (ls[k]).length ≤ 400 := fun k h => Nat.le_trans (tot_mem k h) htot
    have hk := ks_length ls.length ls.length
    obtain ⟨n1, n2, n3, n4⟩ := edit_lens ls a (a + m) (tot ls) 400 hne (ks ls.length ls.length)
    have hc := chunksOf_ok (hdV ls a (a + m) (ks ls.length ls.length) ++ (p ++ tlV ls a (a + m) (tot ls) (ks ls.length ls.length)))
    have hc1 := chunksOk_tot hc
    have hc2 := chunksOk_len hc
    have hof : ∀ pre : List (Ix ls), (ofP ls pre).length = pre.length ∧ tot (ofP ls pre) ≤ pre.length * 400 := by
      intro pre
      refine ⟨by simp [ofP], ?_⟩
      induction pre with
      | nil => simp [ofP, tot]
      | cons x t ih =>
        have e : tot (ofP ls (x :: t)) = (ls[x.1]'x.2).length + tot (ofP ls t) := by simp [ofP, tot]
        have h9 := hne x.1 x.2
        rw [e, List.length_cons, Nat.succ_mul]
        omega
    have g1 := hof (frP ls a (ks ls.length ls.length))
    have g2 := hof (bkP ls a (a + m) (ks ls.length ls.length))
    unfold editR
    have htapp : ∀ x y : List (List UInt8), tot (x ++ y) = tot x + tot y := fun x y => by simp [tot]
    rw [List.length_append, List.length_append, htapp, htapp]
    omega
  · simp [tot]
end Go.Proofs.YtnpbdkfkdbfdhaaDoor
