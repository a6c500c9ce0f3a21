/-
  Chapter 7, LeaseDrop in the model: contract. Own work.
-/
import Derived.Test.YtdmmdbapkogdhaaI14
namespace Go.Proofs.Ytdmmdbapkogdhaa
open Go.RowKit P
set_option linter.unusedVariables false
set_option linter.unusedSimpArgs false
set_option maxRecDepth 100000

theorem slcLeO_head (g o n c i : Nat) (hi : i ≤ n) (hc : n ≤ c) (hc9 : c ≤ maxLen) : ∀ W, (Instr.slice 24 (.slice (some ⟨g, o, none⟩) n c) none (some (.int .i64 (i : Int))) none).run Try.prog W = .ok (.slice (some ⟨g, o, none⟩) i c) W := by
  intro W
  unfold maxLen at hc9
  have hz : ∀ W, (Go.sizeOf 26).run Try.prog W = .ok 4 W := fun W => by kernel_rfl
  have ht' : Try.prog.underlying 24 = some (.slice (Try.prog.elem 24)) := by simp [Program.elem, Try.underlying24]
  have he : Try.prog.elem 24 = 26 := by simp [Program.elem, Try.underlying24]
  rw [run_slice_h W 24 _ _ _ ht' .i64 _ (by omega) (by omega), he, hz]
  simp [Result.andThen, sliced, Addr.add]
theorem slcLeO_from (g o n c j : Nat) (hj : j ≤ n) (hc : n ≤ c) (hc9 : c ≤ maxLen) : ∀ W, (Instr.slice 24 (.slice (some ⟨g, o, none⟩) n c) (some (.int .i64 (j : Int))) none none).run Try.prog W = .ok (.slice (some (if c = j then ⟨g, o, none⟩ else ⟨g, o + j * 4, none⟩)) (n - j) (c - j)) W := by
  intro W
  unfold maxLen at hc9
  have hz : ∀ W, (Go.sizeOf 26).run Try.prog W = .ok 4 W := fun W => by kernel_rfl
  have ht' : Try.prog.underlying 24 = some (.slice (Try.prog.elem 24)) := by simp [Program.elem, Try.underlying24]
  have he : Try.prog.elem 24 = 26 := by simp [Program.elem, Try.underlying24]
  rw [run_slice_l W 24 _ _ _ ht' .i64 _ (by omega) (by omega), he, hz]
  by_cases h0 : c = j
  · simp [Result.andThen, sliced, h0]
  · by_cases h1 : j = 0
    · subst h1; simp [Result.andThen, sliced, Addr.add, h0]
    · have h2 : ¬ j * 4 = 0 := by omega
      simp [Result.andThen, sliced, Addr.add, h0, h1, h2]
theorem Ll.take {w : World} {A : Option Addr} {es : List Le} (h : Ll w A es) (k : Nat) : Ll w A (es.take k) := by
  intro j hj
  rw [List.length_take] at hj
  obtain ⟨b, off, us, hA, hlt, hus, hc, hr⟩ := h j (by omega)
  exact ⟨b, off, us, hA, hlt, hus, hc, by rw [List.getElem_take]; exact hr⟩
theorem Ll.drop {w : World} {g o c n : Nat} {es : List Le} (h : Ll w (some ⟨g, o, none⟩) es) (j : Nat) (hn : n = es.length) (hc : n ≤ c) (hj : j ≤ n) : Ll w (some (if c = j then ⟨g, o, none⟩ else ⟨g, o + j * 4, none⟩)) (es.drop j) := by
  intro k hk
  rw [List.length_drop] at hk
  obtain ⟨b, off, us, hA, hlt, hus, hcell, hr⟩ := h (j + k) (by omega)
  cases hA
  rw [if_neg (by omega)]
  refine ⟨g, o + j * 4, us, rfl, hlt, hus, fun i hi => ?_, by rw [List.getElem_drop]; exact hr⟩
  rw [show o + j * 4 + (k * 4 + i) = o + ((j + k) * 4 + i) by omega]
  exact hcell i hi

set_option maxHeartbeats 8000000 in
theorem specLeaseDrop_any (A : Option Addr) (es : List Le) (c : Nat) (x y s t : Int) (w : World) (hl : es.length ≤ 1048576) (hcap : es.length ≤ c ∧ c ≤ maxLen) (hA : Ll w A es) :
    Calls Try.prog 62 #[.slice A es.length c, .agg #[.int .i64 x, .int .i64 y, .int .i64 s, .int .i64 t]] w (Drops es (x, y, s, t) w) := by
  have hn9 : es.length ≤ 9223372036854775807 := by omega
  obtain ⟨z, hz⟩ : ∃ z, leOk es = z := ⟨_, rfl⟩
  obtain ⟨q, hq⟩ : ∃ q, leRight (x, y, s, t) = q := ⟨_, rfl⟩
  have HZ := Lib.hid hz
  have HQ := Lib.hid hq
  have hal := (Below.refl w.heap.size w).alloc (Nat.le_refl _) (.cells #[.int .i64 x, .int .i64 y, .int .i64 s, .int .i64 t] 26)
  have hbx := Blk.new w #[.int .i64 x, .int .i64 y, .int .i64 s, .int .i64 t] 26
  have hA1 := hA.below hal
  clear hz hq
  cases z
  · obtain ⟨d1, d2⟩ := drop_bad (es := es) (l := (x, y, s, t)) (by rw [HZ.out]; rfl)
    unfold Drops
    rw [d1, d2]
    clear d1 d2
    go_enter Try.func62, Try.ntmps62
    go_wp2_with fail
    refine (specLeasesOk_any A es c _ hn9 hA1).mono ?_
    rintro e w1 ⟨rfl, hb1⟩
    rw [HZ.out]
    have hb9 := below_then hal hb1
    go_wp2
    refine bodyPost_ret (v := .tuple #[.slice none 0 0, .int .i64 1]) (by simp [results, Try.results62, go_sem]) rfl ?_
    exact ⟨_, rfl, OwR.nil _ _, hb9⟩
  cases q
  · obtain ⟨d1, d2⟩ := drop_bad (es := es) (l := (x, y, s, t)) (by rw [HZ.out, HQ.out]; rfl)
    unfold Drops
    rw [d1, d2]
    clear d1 d2
    go_enter Try.func62, Try.ntmps62
    go_wp2_with fail
    refine (specLeasesOk_any A es c _ hn9 hA1).mono ?_
    rintro e w1 ⟨rfl, hb1⟩
    rw [HZ.out]
    have hb9 := below_then hal hb1
    have hbx1 := hbx.below hb1
    have p0 := hbx1.cell 0
    have p1 := hbx1.cell 1
    have p2 := hbx1.cell 2
    have p3 := hbx1.cell 3
    go_wp2_with fail
    refine (l07Right_any x y s t _).mono ?_
    rintro e w2 ⟨rfl, hb2⟩
    rw [HQ.out]
    have hb3 := below_then hb9 hb2
    go_wp2
    refine bodyPost_ret (v := .tuple #[.slice none 0 0, .int .i64 1]) (by simp [results, Try.results62, go_sem]) rfl ?_
    exact ⟨_, rfl, OwR.nil _ _, hb3⟩
  have hboth : (leOk es && leRight (x, y, s, t)) = true := by rw [HZ.out, HQ.out]; rfl
  have hlen := leOk_len HZ.out
  by_cases hkx : keyIx es (x, y, s, t) < es.length
  · obtain ⟨d1, d2⟩ := drop_fine hboth hkx
    unfold Drops
    rw [d1, d2]
    have hAt := fun W hW => l07At_any A es c x y s t W hl hW
    rw [if_pos hkx] at hAt
    generalize keyIx es (x, y, s, t) = k at *
    have HAT := Lib.hid hAt
    clear d1 d2 hboth hAt
    go_enter Try.func62, Try.ntmps62
    go_wp2_with fail
    refine (specLeasesOk_any A es c _ hn9 hA1).mono ?_
    rintro e w1 ⟨rfl, hb1⟩
    rw [HZ.out]
    have hb9 := below_then hal hb1
    have hbx1 := hbx.below hb1
    have p0 := hbx1.cell 0
    have p1 := hbx1.cell 1
    have p2 := hbx1.cell 2
    have p3 := hbx1.cell 3
    go_wp2_with fail
    refine (l07Right_any x y s t _).mono ?_
    rintro e w2 ⟨rfl, hb2⟩
    rw [HQ.out]
    have hb3 := below_then hb9 hb2
    have hbx2 := hbx1.below hb2
    have HA2 := Lib.hid (hA.below hb3)
    clear p0 p1 p2 p3
    have p0 := hbx2.cell 0
    have p1 := hbx2.cell 1
    have p2 := hbx2.cell 2
    have p3 := hbx2.cell 3
    go_wp2_with fail
    refine (HAT.out _ (by exact HA2.out)).mono ?_
    rintro e w3 ⟨rfl, hb4⟩
    have hb5 := below_then hb3 hb4
    have hz5 := hb5.size
    have hA3 := hA.below hb5
    obtain ⟨b, off, _, _, _, _, rfl, _⟩ := hA3.at_ k hkx
    have hk0 : ¬ (k : Int) < 0 := by omega
    have hwr : IntKind.i64.wrap ((k : Int) + 1) = (k : Int) + 1 := IntWalk.i64_in _ (by omega)
    have HAL := Lib.hid ((Below.refl w3.heap.size w3).alloc (Nat.le_refl _) (.cells #[] 26))
    have HE0 := Lib.hid (OwR.empty w3)
    have HT1 := Lib.hid ((hA3.below HAL.out).take k)
    have HD := Lib.hid (hA3.drop (c := c) (k + 1) rfl hcap.1 (by omega))
    have hS1 := slcLeO_head b off es.length c k (by omega) hcap.1 hcap.2
    have hS2 := slcLeO_from b off es.length c (k + 1) (by omega) hcap.1 hcap.2
    rw [Int.natCast_add, Int.natCast_one] at hS2
    generalize (if c = k + 1 then (⟨b, off, none⟩ : Addr) else ⟨b, off + (k + 1) * 4, none⟩) = A2 at hS2 HD
    have HB5' := Lib.hid hb5
    clear hA3 hA hA1 HA2 HAT p0 p1 p2 p3 hal hb1 hb9 hb2 hb3 hb4 hb5
    go_wp2_with fail
    refine wp_region_held_drew (S := (fun V => True)) (by kernel_rfl) (by exact trivial) (fun hHeld => ?_)
    refine wpAnyH_take (i := 1) (oi := ?_) (v := ?_) ?_ ?_ ?_ ?_ ?_ ?_ (by exact hHeld) ?_
    rotate_left 2
    · (simp only [List.getElem?_toArray, List.getElem?_cons_zero, List.getElem?_cons_succ]; try rfl)
    · kernel_rfl
    · kernel_rfl
    · kernel_rfl
    · exact fun _ _ _ h => h
    · refine Or.inl ⟨by rfl, ?_⟩
      (intro V hSV; (try dsimp only at hSV); obtain ⟨⟩ := hSV; go_simp; try with_reducible rfl)
    (try simp only [Act.put, List.setIfInBounds_toArray, List.set_cons_zero, List.set_cons_succ])
    refine wpAnyH_take (i := 2) (oi := ?_) (v := ?_) ?_ ?_ ?_ ?_ ?_ ?_ (by exact hHeld) ?_
    rotate_left 2
    · (simp only [List.getElem?_toArray, List.getElem?_cons_zero, List.getElem?_cons_succ]; try rfl)
    · kernel_rfl
    · kernel_rfl
    · kernel_rfl
    · exact fun _ _ _ h => h
    · refine Or.inl ⟨by rfl, ?_⟩
      (intro V hSV; (try dsimp only at hSV); obtain ⟨⟩ := hSV; go_simp; try with_reducible rfl)
    (try simp only [Act.put, List.setIfInBounds_toArray, List.set_cons_zero, List.set_cons_succ])
    refine wpAnyH_take (i := 3) (oi := ?_) (v := ?_) ?_ ?_ ?_ ?_ ?_ ?_ (by exact hHeld) ?_
    rotate_left 2
    · (simp only [List.getElem?_toArray, List.getElem?_cons_zero, List.getElem?_cons_succ]; try rfl)
    · kernel_rfl
    · kernel_rfl
    · kernel_rfl
    · exact fun _ _ _ h => h
    · refine Or.inl ⟨by rfl, ?_⟩
      (intro V hSV; (try dsimp only at hSV); obtain ⟨⟩ := hSV; go_simp; try with_reducible rfl)
    (try simp only [Act.put, List.setIfInBounds_toArray, List.set_cons_zero, List.set_cons_succ])
    refine wpAnyH_take (i := 5) (oi := ?_) (v := ?_) ?_ ?_ ?_ ?_ ?_ ?_ (by exact hHeld) ?_
    rotate_left 2
    · (simp only [List.getElem?_toArray, List.getElem?_cons_zero, List.getElem?_cons_succ]; try rfl)
    · kernel_rfl
    · kernel_rfl
    · kernel_rfl
    · exact fun _ _ _ h => h
    · refine Or.inl ⟨by rfl, ?_⟩
      (intro V hSV; (try dsimp only at hSV); obtain ⟨⟩ := hSV; go_simp; try with_reducible rfl)
    (try simp only [Act.put, List.setIfInBounds_toArray, List.set_cons_zero, List.set_cons_succ])
    refine wpAnyH_take (i := 6) (oi := ?_) (v := ?_) ?_ ?_ ?_ ?_ ?_ ?_ (by exact hHeld) ?_
    rotate_left 2
    · (simp only [List.getElem?_toArray, List.getElem?_cons_zero, List.getElem?_cons_succ]; try rfl)
    · kernel_rfl
    · kernel_rfl
    · kernel_rfl
    · exact fun _ _ _ h => h
    · refine Or.inl ⟨by rfl, ?_⟩
      (intro V hSV; (try dsimp only at hSV); obtain ⟨⟩ := hSV; go_simp; try with_reducible rfl)
    (try simp only [Act.put, List.setIfInBounds_toArray, List.set_cons_zero, List.set_cons_succ])
    refine wpAnyH_take (i := 7) (oi := ?_) (v := ?_) ?_ ?_ ?_ ?_ ?_ ?_ (by exact hHeld) ?_
    rotate_left 2
    · (simp only [List.getElem?_toArray, List.getElem?_cons_zero, List.getElem?_cons_succ]; try rfl)
    · kernel_rfl
    · kernel_rfl
    · kernel_rfl
    · exact fun _ _ _ h => h
    · refine Or.inl ⟨by rfl, ?_⟩
      (intro V hSV; (try dsimp only at hSV); obtain ⟨⟩ := hSV; go_simp; try with_reducible rfl)
    (try simp only [Act.put, List.setIfInBounds_toArray, List.set_cons_zero, List.set_cons_succ])
    refine wpAnyH_take (i := 8) (oi := ?_) (v := ?_) ?_ ?_ ?_ ?_ ?_ ?_ (by exact hHeld) ?_
    rotate_left 2
    · (simp only [List.getElem?_toArray, List.getElem?_cons_zero, List.getElem?_cons_succ]; try rfl)
    · kernel_rfl
    · kernel_rfl
    · kernel_rfl
    · exact fun _ _ _ h => h
    · refine Or.inl ⟨by rfl, ?_⟩
      (intro V hSV; (try dsimp only at hSV); obtain ⟨⟩ := hSV; go_simp; try with_reducible rfl)
    (try simp only [Act.put, List.setIfInBounds_toArray, List.set_cons_zero, List.set_cons_succ])
    refine wpAnyH_ready (rs := [0]) (by kernel_rfl) (by simp) ?_
    refine AllReadyH.cons (o := ?_) ?_ (fun K hK => ?_) AllReadyH.nil
    rotate_left 1
    · (simp only [List.getElem?_toArray, List.getElem?_cons_zero]; try rfl)
    go_simp
    refine hK.out _ _ (by exact trivial) (fun hHeld => ?_)
    clear hK K
    (try simp only [Act.put, List.setIfInBounds_toArray, List.set_cons_zero, List.set_cons_succ])
    refine wpAnyH_ready (rs := [4]) (by kernel_rfl) (by simp) ?_
    refine AllReadyH.cons (o := ?_) ?_ (fun K hK => ?_) AllReadyH.nil
    rotate_left 1
    · (simp only [List.getElem?_toArray, List.getElem?_cons_zero, List.getElem?_cons_succ]; try rfl)
    refine step_app_le rfl (.tmp 20) (.tmp 23) rfl w3.heap.size (.slice (some ⟨w3.heap.size, 0, none⟩) 0 0) [] (es.take k) (some ⟨b, off, none⟩) k c rfl rfl (by rw [List.length_take]; omega) (by exact ⟨HE0.out.row, HE0.out.in_⟩) (by exact HT1.out) (by simp; omega) (by simp) ?_
    intro v4 w4 hown4 hg4 _
    have hg4 : (w3.alloc (.cells #[] 26)).grownBy w4 (Value.slice (some ⟨w3.heap.size, 0, none⟩) 0 0).ownBlock := ⟨hg4.os, hg4.tape, hg4.output, hg4.size, hg4.block⟩
    have hb4 := HAL.out.grown hg4 (by simp) (fun j hj => (World.ownsRow.lt HE0.out.row j hj).1)
    have H4 := Lib.hid hown4
    have HB4 := Lib.hid hb4
    have hz4 := hb4.size
    have HT2 := Lib.hid (HD.out.below hb4)
    clear hown4 hg4 hb4
    (try go_simp)
    refine hK.out _ _ (by exact trivial) (fun hHeld => ?_)
    clear hK K
    (try simp only [Act.put, List.setIfInBounds_toArray, List.set_cons_zero, List.set_cons_succ])
    refine wpAnyH_ready (rs := [9]) (by kernel_rfl) (by simp) ?_
    refine AllReadyH.cons (o := ?_) ?_ (fun K hK => ?_) AllReadyH.nil
    rotate_left 1
    · (simp only [List.getElem?_toArray, List.getElem?_cons_zero, List.getElem?_cons_succ]; try rfl)
    refine step_app_le rfl (.tmp 24) (.tmp 28) rfl w3.heap.size v4 _ (es.drop (k + 1)) (some A2) (es.length - (k + 1)) (c - (k + 1)) rfl rfl (by rw [List.length_drop]) (by exact H4.out) (by exact HT2.out) (by simp; omega) hz4 ?_
    intro v5 w5 hown5 hg5 _
    have hg5 : w4.grownBy w5 v4.ownBlock := ⟨hg5.os, hg5.tape, hg5.output, hg5.size, hg5.block⟩
    have hb5 := HB4.out.grown hg5 hz4 (fun j hj => (World.ownsRow.lt H4.out.row j hj).1)
    have H5 := Lib.hid hown5
    have HB5 := Lib.hid hb5
    clear hown5 hg5 hb5
    (try go_simp)
    refine hK.out _ _ (by exact trivial) (fun hHeld => ?_)
    clear hK K
    (try simp only [Act.put, List.setIfInBounds_toArray, List.set_cons_zero, List.set_cons_succ])
    refine wpAnyH_take (i := 10) (oi := ?_) (v := ?_) ?_ ?_ ?_ ?_ ?_ ?_ (by exact hHeld) ?_
    rotate_left 2
    · (simp only [List.getElem?_toArray, List.getElem?_cons_zero, List.getElem?_cons_succ]; try rfl)
    · kernel_rfl
    · kernel_rfl
    · kernel_rfl
    · exact fun _ _ _ h => h
    · refine Or.inl ⟨by rfl, ?_⟩
      (intro V hSV; (try dsimp only at hSV); obtain ⟨⟩ := hSV; go_simp; try with_reducible rfl)
    (try simp only [Act.put, List.setIfInBounds_toArray, List.set_cons_zero, List.set_cons_succ])
    refine wpAnyH_take (i := 11) (oi := ?_) (v := ?_) ?_ ?_ ?_ ?_ ?_ ?_ (by exact hHeld) ?_
    rotate_left 2
    · (simp only [List.getElem?_toArray, List.getElem?_cons_zero, List.getElem?_cons_succ]; try rfl)
    · kernel_rfl
    · kernel_rfl
    · kernel_rfl
    · exact fun _ _ _ h => h
    · refine Or.inl ⟨by rfl, ?_⟩
      (intro V hSV; (try dsimp only at hSV); obtain ⟨⟩ := hSV; go_simp; try with_reducible rfl)
    (try simp only [Act.put, List.setIfInBounds_toArray, List.set_cons_zero, List.set_cons_succ])
    refine wpAnyH_done (by kernel_rfl) ?_ _
    have hb9 := below_then HB5'.out HB5.out
    have HFN := Lib.hid (H5.out.mono (base' := w.heap.size) (by omega))
    go_wp2
    refine bodyPost_ret (v := .tuple #[v5, .int .i64 0]) (by simp [results, Try.results62, go_sem]) rfl ?_
    exact ⟨_, rfl, HFN.out, hb9⟩
  · obtain ⟨d1, d2⟩ := drop_none hboth hkx
    unfold Drops
    rw [d1, d2]
    have hAt := fun W hW => l07At_any A es c x y s t W hl hW
    rw [if_neg hkx] at hAt
    have HAT := Lib.hid hAt
    clear d1 d2 hboth hAt
    go_enter Try.func62, Try.ntmps62
    go_wp2_with fail
    refine (specLeasesOk_any A es c _ hn9 hA1).mono ?_
    rintro e w1 ⟨rfl, hb1⟩
    rw [HZ.out]
    have hb9 := below_then hal hb1
    have hbx1 := hbx.below hb1
    have p0 := hbx1.cell 0
    have p1 := hbx1.cell 1
    have p2 := hbx1.cell 2
    have p3 := hbx1.cell 3
    go_wp2_with fail
    refine (l07Right_any x y s t _).mono ?_
    rintro e w2 ⟨rfl, hb2⟩
    rw [HQ.out]
    have hb3 := below_then hb9 hb2
    have hbx2 := hbx1.below hb2
    have HA2 := Lib.hid (hA.below hb3)
    clear p0 p1 p2 p3
    have p0 := hbx2.cell 0
    have p1 := hbx2.cell 1
    have p2 := hbx2.cell 2
    have p3 := hbx2.cell 3
    go_wp2_with fail
    refine (HAT.out _ (by exact HA2.out)).mono ?_
    rintro e w3 ⟨rfl, hb4⟩
    have hb5 := below_then hb3 hb4
    go_wp2
    refine bodyPost_ret (v := .tuple #[.slice none 0 0, .int .i64 5]) (by simp [results, Try.results62, go_sem]) rfl ?_
    exact ⟨_, rfl, OwR.nil _ _, hb5⟩
end Go.Proofs.Ytdmmdbapkogdhaa
