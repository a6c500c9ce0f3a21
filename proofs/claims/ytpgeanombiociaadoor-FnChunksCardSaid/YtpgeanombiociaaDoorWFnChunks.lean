/-
  FnChunks, its walk. Own work.
-/
import Derived.Test.YtpgeanombiociaaDoorLaw
import Derived.Test.YtpgeanombiociaaDoorCur8
import Derived.Test.YtpgeanombiociaaDoorI02g
import Derived.Test.YtpgeanombiociaaDoorI02h
import Derived.Test.YtpgeanombiociaaDoorS01e
import Derived.Deep.RegionHeld3
import Derived.Deep.DeepCutAuto
namespace Go.Proofs.YtpgeanombiociaaDoor.fnChunks
open Go.ChangeShapes Go.WideShapes Go.ChangeAt Go.RowKit P
set_option linter.unusedVariables false

set_option maxHeartbeats 400000 in
theorem bytesOf_any (A : Option Addr) (l : List UInt8) (c : Nat) (w : World) (hl : l.length ≤ 1000000) (hA : Bs w A l) : Calls Tryd.prog 23 #[.slice A l.length c] w (Makes w l) := by
  have hown0 : Own (w.alloc (.cells #[] 5)) w.heap.size (.slice (some ⟨w.heap.size, 0, none⟩) 0 0) [] := World.ownsRow_made w #[] 0 (Nat.le_refl _) (by unfold maxLen; omega) rfl
  have hal := (Below.refl w.heap.size w).alloc (Nat.le_refl _) (.cells #[] 5)
  have hA0 := hA.below hal
  go_enter Tryd.func23, Tryd.ntmps23
  go_wp2_with (at_builtin; go_must (refine wpList_app_bytes rfl _ _ rfl w.heap.size _ [] l A l.length c rfl rfl rfl hown0 hA0 ?c1 ?c2 ?_))
  case c1 => simp; omega
  case c2 => simp
  intro v4 w4 hown4 hg4 _
  have hb4 := hal.grown hg4 (by simp) (fun x hx => (World.ownsRow.lt hown0 x hx).1)
  go_wp2
  go_ret
  exact ⟨_, rfl, hown4, hb4⟩

def mV (l : List UInt8) : Array Value := #[.int .i64 (mB l), .int .i64 (mR l), .int .i64 (mL l)]

set_option maxHeartbeats 8000000 in
theorem walk (A : Option Addr) (l : List UInt8) (c : Nat) (hc : l.length ≤ c) (hm : c ≤ maxLen) (w : World) (hB : Bs w A l) (hT : Tab w) :
    Calls Tryd.prog 4 #[.slice A l.length c] w fun e w' => e = .returned (.bool true) ∧ Below w.heap.size w w' := by
  by_cases hbig : 1048576 < l.length
  · have hb : decide (1048576 < l.length) = true := decide_eq_true hbig
    have HBG := Lib.hid hb
    clear hb hbig
    go_enter Tryd.func4, Tryd.ntmps4
    go_wp2_with (go_at_call 12; refine (big_any _ _ _ _).mono ?_; rintro e w' ⟨rfl, rfl⟩; rw [HBG.out])
    go_ret
    exact ⟨rfl, Below.refl _ _⟩
  · have hl : l.length ≤ 1048576 := by omega
    have hb : decide (1048576 < l.length) = false := decide_eq_false hbig
    have HBG := Lib.hid hb
    clear hb hbig hc hm
    go_enter Tryd.func4, Tryd.ntmps4
    go_wp2_with fail
    refine (big_any _ _ _ _).mono ?_
    rintro e w0 ⟨rfl, rfl⟩
    rw [HBG.out]
    go_wp2_with fail
    refine (drawChunksOf_any A l c _ hl (by exact hB)).mono ?_
    rintro e w1 ⟨v1, T', rfl, hown1, hTl, hb1⟩
    have hT1 := hT.below hb1
    obtain ⟨A1, c1, rfl, hlc1, hcm1, hB1⟩ := hown1.form
    have hc19 : c1 ≤ 9223372036854775807 := by unfold maxLen at hcm1; omega
    clear HBG hB hT hown1 hcm1
    go_wp2_with fail
    refine (bytesOf_any A1 T' c1 _ (by omega) (by exact hB1)).mono ?_
    rintro e w2 ⟨v2, rfl, hown2, hb2⟩
    have hT2 := hT1.below hb2
    have hB2 := hB1.below hb2
    obtain ⟨A2, c2, rfl, hlc2, hcm2, hBx2⟩ := hown2.form
    have hc29 : c2 ≤ 9223372036854775807 := by unfold maxLen at hcm2; omega
    have hb2 := below_then hb1 hb2
    clear hT1 hB1 hown2 hb1 hcm2
    go_wp2_with fail
    refine (implChunksOf_any A2 T' c2 _ hlc2 hc29 (by exact hT2) (by exact hBx2)).mono ?_
    rintro e w3 ⟨cs3, fp3, rfl, how3, hn3, hf3, hb3⟩
    have hT3 := hT2.below hb3
    have hB3 := hB2.below hb3
    have hb3 := below_then hb2 hb3
    obtain ⟨A3, c3, rfl, hlc3, hcm3, hD3⟩ := Lay.chunks.read how3
    unfold wSlice
    clear hT2 hB2 hBx2 hb2 how3 hn3 hf3 hcm3
    generalize hq : isText T' = q
    have HQ := Lib.hid hq
    go_wp2_with fail
    refine (specTextOk_any A1 T' c1 _ hlc1 hc19 (by exact hB3)).mono ?_
    rintro e w4 ⟨rfl, hb4⟩
    rw [HQ.out]
    have hT4 := hT3.below hb4
    have hB4 := hB3.below hb4
    have hD4 : Cs w4 A3 (chunksOf T') := Cs.below hD3 hb4
    have hb4 := below_then hb3 hb4
    clear hT3 hB3 hD3 hb3
    cases q
    · have h0 : chunksOf T' = [] := by unfold chunksOf; rw [hq]; rfl
      have h1 : (((chunksOf T').length : Int) == 0) = true := by rw [h0]; rfl
      clear hq h0
      go_wp2
      go_ret
      exact ⟨rfl, hb4⟩
    · have hflat := chunksOf_flat hq
      have hall := chunksOf_all T'
      have hfull := chunksOf_full (l := T')
      have hok := chunksOf_ok T'
      have hlenR := chunksOk_len hok
      have htlen := isText_len hq
      obtain ⟨R, hR⟩ : ∃ R, chunksOf T' = R := ⟨_, rfl⟩
      have hfull' : ∀ i (h : i + 1 < R.length), 16 < (R[i]).length + sz (R[i + 1]) := by subst hR; exact fun i h => hfull i h
      rw [hR] at hflat hall hok hlenR hD4 ⊢
      have HALL := Lib.hid hall
      have HFULL := Lib.hid hfull'
      have HOK := Lib.hid hok
      have HFLAT := Lib.hid hflat
      have HT := Lib.hid hq
      have hs4 := hb4.size
      clear hq hR hflat hall hfull hfull' hok
      have htext : ∀ k, isText (R.take k).flatten = true := fun k => by
        refine isText_of ?_ (flatten_text _ (fun c hc => HALL.out c (List.mem_of_mem_take hc)))
        have h1 : R.flatten = (R.take k).flatten ++ (R.drop k).flatten := by rw [← List.flatten_append, List.take_append_drop]
        have h2 := congrArg List.length h1
        rw [HFLAT.out, List.length_append] at h2
        omega
      have HTXT := Lib.hid htext
      clear htext
      have hm0 : mB [] = 0 ∧ mR [] = 0 ∧ mL [] = 0 := by refine ⟨?_, ?_, ?_⟩ <;> decide
      have HM0 := Lib.hid hm0
      clear hm0
      have hal := (Below.refl w4.heap.size w4).alloc (Nat.le_refl _) (.cells #[.int .i64 0, .int .i64 0, .int .i64 0] 33)
      go_wp2
      go_loopw [6] (fun i wr => ∃ k : Nat, k ≤ R.length ∧ i = .int .i64 k ∧ Blk wr w4.heap.size (mV (R.take k).flatten) 33 ∧ Below w4.heap.size w4 wr) (fun i _ => R.length - (intOf i).toNat)
      case atStart => exact ⟨0, Nat.zero_le _, rfl, by
        have := Blk.new w4 #[.int .i64 0, .int .i64 0, .int .i64 0] 33
        unfold mV
        rw [List.take_zero, List.flatten_nil, HM0.out.1, HM0.out.2.1, HM0.out.2.2]
        exact this, hal⟩
      case round =>
        obtain ⟨k, hk, rfl, hblk, hbel⟩ := hrel
        have hTr := hT4.below hbel
        have hBr := hB4.below hbel
        have hDr := hD4.below hbel
        by_cases hlt : k < R.length
        · obtain ⟨b, off, B, d, rfl, hbl, hcl, hld, hdm, hBX⟩ := hDr.at_ k hlt
          have hd9 : d ≤ 9223372036854775807 := by unfold maxLen at hdm; omega
          have hXok := HALL.out R[k] (List.getElem_mem hlt)
          have hXt := ((chunkOk_iff _).1 hXok).2.2
          have hfl := flat_snoc R k hlt
          have hsum := m_app (HTXT.out k) hXt (by rw [← hfl]; exact HTXT.out (k + 1))
          have hbd1 := m_bd (R.take k).flatten
          have hbd2 := m_bd R[k]
          rw [← hfl] at hsum
          generalize hF : (R.take k).flatten = F at *
          generalize hF' : (R.take (k + 1)).flatten = F' at *
          have hnx := HFULL.out k
          generalize hX : R[k] = X at *
          have c0 : wr.cell? ⟨w4.heap.size, 0, none⟩ = some (.int .i64 (mB F)) := hblk.cell 0
          have c1' : wr.cell? ⟨w4.heap.size, 1, none⟩ = some (.int .i64 (mR F)) := hblk.cell 1
          have c2' : wr.cell? ⟨w4.heap.size, 2, none⟩ = some (.int .i64 (mL F)) := hblk.cell 2
          have g0 := hblk.frozen 0
          have g1 := hblk.frozen 1
          have g2 := hblk.frozen 2
          have hgl := hblk.lt
          have HSUM := Lib.hid hsum
          have HF := Lib.hid hF
          have HF' := Lib.hid hF'
          have HX := Lib.hid hX
          have HNX := Lib.hid hnx
          have HXOK := Lib.hid hXok
          have hadd := fun w' => implMeasAdd_any (mB F) (mR F) (mL F) (mB X) (mR X) (mL X) w'
          have hfit := mAdd_fits (a := mB F) (b := mR F) (c := mL F) (x := mB X) (y := mR X) (z := mL X) ⟨hbd1.1, hbd1.2.1, hbd1.2.2.1, hbd1.2.2.2.1, hbd1.2.2.2.2.1, hbd1.2.2.2.2.2⟩ ⟨hbd2.1, hbd2.2.1, hbd2.2.2.1, hbd2.2.2.2.1, hbd2.2.2.2.2.1, hbd2.2.2.2.2.2⟩
          simp only [hfit] at hadd
          unfold meas at hadd
          have HADD := Lib.hid hadd
          clear hsum hF hF' hX hnx hXok hadd hfit hfl
          have hki : (k : Int) < (R.length : Int) := by omega
          have hk0 : (0 : Int) ≤ (k : Int) := by omega
          go_wp2
          go_cut [34] (fun _ wx => Blk wx w4.heap.size (mV F') 33 ∧ Below w4.heap.size w4 wx)
          case first =>
            go_region_with (first
              | (go_at_call 26; refine (measOf_any B X d _ hld hd9 (by exact hTr) (by exact hBX)).mono ?_; rintro e w5 ⟨rfl, hb5⟩; have hb5 : Below wr.heap.size wr w5 := ⟨hb5.os, hb5.tape, hb5.output, hb5.size, hb5.block⟩; unfold meas; have hx5 := hblk.below hb5; have d0 : w5.cell? ⟨w4.heap.size, 0, none⟩ = some (.int .i64 (mB F)) := hx5.cell 0; have d1 : w5.cell? ⟨w4.heap.size, 1, none⟩ = some (.int .i64 (mR F)) := hx5.cell 1; have d2 : w5.cell? ⟨w4.heap.size, 2, none⟩ = some (.int .i64 (mL F)) := hx5.cell 2)
              | (go_at_call 25; refine (HADD.out _).mono ?_; rintro e w6 ⟨rfl, hb6⟩; have hx6 := hx5.below hb6; have d0 : w6.cell? ⟨w4.heap.size, 0, none⟩ = some (.int .i64 (mB F)) := hx6.cell 0; have d1 : w6.cell? ⟨w4.heap.size, 1, none⟩ = some (.int .i64 (mR F)) := hx6.cell 1; have d2 : w6.cell? ⟨w4.heap.size, 2, none⟩ = some (.int .i64 (mL F)) := hx6.cell 2; have g0 := hx6.frozen 0; have g1 := hx6.frozen 1; have g2 := hx6.frozen 2; have hbf := below_then (below_then hbel hb5) hb6))
            all_goals
              have hx7 := ((hx6.set 0 (.int .i64 (mB F + mB X))).set 1 (.int .i64 (mR F + mR X))).set 2 (.int .i64 (mL F + mL X))
              have hb8 := ((hbf.setCell (p := ⟨w4.heap.size, 0, none⟩) (Nat.le_refl _) (.int .i64 (mB F + mB X))).setCell (p := ⟨w4.heap.size, 1, none⟩) (Nat.le_refl _) (.int .i64 (mR F + mR X))).setCell (p := ⟨w4.heap.size, 2, none⟩) (Nat.le_refl _) (.int .i64 (mL F + mL X))
              go_wp2_with fail
              go_meet
              exact ⟨by unfold mV; rw [HSUM.out.1, HSUM.out.2.1, HSUM.out.2.2]; exact hx7, hb8⟩
          case rest =>
            obtain ⟨hblk2, hbel2⟩ := hcut
            have hD5 := hD4.below hbel2
            obtain ⟨b', off', B', d', e', hbl', hcl', hld', hdm', hBX'⟩ := hD5.at_ k hlt
            cases e'
            rw [HX.out] at hcl' hld' hBX'
            have hd9' : d' ≤ 9223372036854775807 := by unfold maxLen at hdm'; omega
            have hsz5 := hbel2.size
            clear hblk hbel hTr hBr hDr hcl hld hBX hd9 hdm c0 c1' c2' g0 g1 g2 hbd1 hbd2 HADD hdm' hbl
            by_cases hnext : k + 1 < R.length
            · obtain ⟨b2, off2, B2, d2, e2, hbl2, hcl2, hld2, hdm2, hBY⟩ := hD5.at_ (k + 1) hnext
              cases e2
              have hd92 : d2 ≤ 9223372036854775807 := by unfold maxLen at hdm2; omega
              have hnx := HNX.out hnext
              rw [HX.out] at hnx
              have hYok := HALL.out R[k + 1] (List.getElem_mem hnext)
              have hYl := chunkOk_len hYok
              have hXl := chunkOk_len HXOK.out
              have hz : runeSize R[k + 1] 0 = sz R[k + 1] := by
                have := runeSize_at R[k + 1] 0 (by omega)
                simpa using this
              generalize hY : R[k + 1] = Y at *
              have hz4 := sz_le4 Y
              obtain ⟨z, hze⟩ : ∃ z, sz Y = z := ⟨_, rfl⟩
              rw [hze] at hz hnx hz4
              have HZ := Lib.hid hz
              have j0 : (0 : Int) ≤ (k : Int) + 1 := by omega
              have j1 : (k : Int) + 1 < (R.length : Int) := by omega
              have j3 : decide ((X.length : Int) + (z : Int) ≤ 16) = false := by simp; omega
              have j4 : (0 : Int) ≤ (X.length : Int) + (z : Int) := by omega
              have j5 : IntKind.i64.wrap ((X.length : Int) + (z : Int)) = (X.length : Int) + (z : Int) := IntWalk.i64_in _ ⟨by omega, by omega⟩
              have j6 : IntKind.i64.wrap ((k : Int) + 1) = (k : Int) + 1 := IntWalk.i64_in _ ⟨by omega, by omega⟩
              have j7 : ((k : Int) + 1).toNat = k + 1 := by omega
              clear hnx hz hze hY hYok hdm2
              go_wp2
              go_region_held3 (fun W => W.cell? ⟨b, off + k, none⟩ = some (.slice B' X.length d') ∧ W.cell? ⟨b, off + (k + 1), none⟩ = some (.slice B2 Y.length d2)) (exact ⟨(by first | exact hcl' | exact hc6 | exact hc5), (by first | exact hcl2 | exact hc62 | exact hc52)⟩) (first
                | (go_at_call 27; refine (specChunkOk_any B' X d' _ hld' hd9' (by exact hBX')).mono ?_; rintro e w5 ⟨rfl, hb5⟩; rw [HXOK.out]; have hb5 : Below wc.heap.size wc w5 := ⟨hb5.os, hb5.tape, hb5.output, hb5.size, hb5.block⟩; have hc5 := (hb5.cell (p := ⟨b, off + k, none⟩) hbl').trans hcl'; have hc52 := (hb5.cell (p := ⟨b, off + (k + 1), none⟩) hbl').trans hcl2; have hBY5 := hBY.below hb5; have hb5' := below_then hbel2 hb5)
                | (go_at_call 20; refine (specRuneSize_any B2 Y d2 0 _ hld2 hd92 (by exact hBY5)).mono ?_; rintro e w6 ⟨rfl, hb6⟩; rw [HZ.out]; have hc6 := (hb6.cell (p := ⟨b, off + k, none⟩) (Nat.lt_of_lt_of_le hbl' hb5.size)).trans hc5; have hc62 := (hb6.cell (p := ⟨b, off + (k + 1), none⟩) (Nat.lt_of_lt_of_le hbl' hb5.size)).trans hc52; have hb6' := below_then hb5' hb6))
              go_wp2
              exact ⟨⟨k + 1, by omega, by simp, by rw [HF'.out]; exact (hblk2.below hb5).below hb6, hb6'⟩, by show R.length - ((k : Int) + 1).toNat < R.length - (k : Int).toNat; omega⟩
            · have j1 : ¬ (k : Int) + 1 < (R.length : Int) := by omega
              have j2 : decide ((k : Int) + 1 < (R.length : Int)) = false := decide_eq_false j1
              have j6 : IntKind.i64.wrap ((k : Int) + 1) = (k : Int) + 1 := IntWalk.i64_in _ ⟨by omega, by omega⟩
              go_wp2
              refine wp_region_held_drew (S := fun W => W.cell? ⟨b, off + k, none⟩ = some (.slice B' X.length d')) (by kernel_rfl) (by exact hcl') (fun hHeld => ?_)
              refine wpAnyH_take (i := 0) (oi := ?_) (v := ?_) ?_ ?_ ?_ ?_ ?_ ?_ (by exact hHeld) ?_
              rotate_left 2
              · (simp only [List.getElem?_toArray, List.getElem?_cons_zero]; try rfl)
              · kernel_rfl
              · kernel_rfl
              · kernel_rfl
              · exact fun _ _ _ h => h
              · refine Or.inl ⟨by rfl, ?_⟩
                (intro w hSw; (try dsimp only at hSw); go_simp; try with_reducible rfl)
              (try simp only [Act.put, List.setIfInBounds_toArray, List.set_cons_zero, List.set_cons_succ])
              refine wpAnyH_take (i := 1) (oi := ?_) (v := ?_) ?_ ?_ ?_ ?_ ?_ ?_ (by exact hHeld) ?_
              rotate_left 2
              · (simp only [List.getElem?_toArray, List.getElem?_cons_zero, List.getElem?_cons_succ]; try rfl)
              · kernel_rfl
              · kernel_rfl
              · kernel_rfl
              · exact fun _ _ _ h => h
              · refine Or.inl ⟨by rfl, ?_⟩
                (intro w hSw; (try dsimp only at hSw); go_simp; try with_reducible rfl)
              (try simp only [Act.put, List.setIfInBounds_toArray, List.set_cons_zero, List.set_cons_succ])
              refine wpAnyH_take (i := 2) (oi := ?_) (v := ?_) ?_ ?_ ?_ ?_ ?_ ?_ (by exact hHeld) ?_
              rotate_left 2
              · (simp only [List.getElem?_toArray, List.getElem?_cons_zero, List.getElem?_cons_succ]; try rfl)
              · kernel_rfl
              · kernel_rfl
              · kernel_rfl
              · exact fun _ _ _ h => h
              · refine Or.inl ⟨by rfl, ?_⟩
                (intro w hSw; (try dsimp only at hSw); go_simp; try with_reducible rfl)
              (try simp only [Act.put, List.setIfInBounds_toArray, List.set_cons_zero, List.set_cons_succ])
              refine wpAnyH_take (i := 3) (oi := ?_) (v := ?_) ?_ ?_ ?_ ?_ ?_ ?_ (by exact hHeld) ?_
              rotate_left 2
              · (simp only [List.getElem?_toArray, List.getElem?_cons_zero, List.getElem?_cons_succ]; try rfl)
              · kernel_rfl
              · kernel_rfl
              · kernel_rfl
              · exact fun _ _ _ h => h
              · refine Or.inl ⟨by rfl, ?_⟩
                (intro w hSw; (try dsimp only at hSw); go_simp; try with_reducible rfl)
              (try simp only [Act.put, List.setIfInBounds_toArray, List.set_cons_zero, List.set_cons_succ])
              refine wpAnyH_ready (rs := [4]) (by kernel_rfl) (by simp) ?_
              refine AllReadyH.cons rfl (fun K hK => ?_) AllReadyH.nil
              go_simp
              refine (specChunkOk_any B' X d' _ hld' hd9' (by exact hBX')).mono ?_
              rintro e w5 ⟨rfl, hb5⟩
              rw [HXOK.out]
              have hb5 : Below wc.heap.size wc w5 := ⟨hb5.os, hb5.tape, hb5.output, hb5.size, hb5.block⟩
              have hb5' := below_then hbel2 hb5
              go_wp2_with fail
              refine hK.out _ _ (by exact (hb5.cell (p := ⟨b, off + k, none⟩) hbl').trans hcl') (fun hHeld => ?_)
              clear hK K
              (try simp only [Act.put, List.setIfInBounds_toArray, List.set_cons_zero, List.set_cons_succ])
              refine wpAnyH_take (i := 5) (oi := ?_) (v := ?_) ?_ ?_ ?_ ?_ ?_ ?_ (by exact hHeld) ?_
              rotate_left 2
              · (simp only [List.getElem?_toArray, List.getElem?_cons_zero, List.getElem?_cons_succ]; try rfl)
              · kernel_rfl
              · kernel_rfl
              · kernel_rfl
              · exact fun _ _ _ h => h
              · refine Or.inl ⟨by rfl, ?_⟩
                (intro w hSw; (try dsimp only at hSw); go_simp; try with_reducible rfl)
              (try simp only [Act.put, List.setIfInBounds_toArray, List.set_cons_zero, List.set_cons_succ])
              refine wpAnyH_take (i := 6) (oi := ?_) (v := ?_) ?_ ?_ ?_ ?_ ?_ ?_ (by exact hHeld) ?_
              rotate_left 2
              · (simp only [List.getElem?_toArray, List.getElem?_cons_zero, List.getElem?_cons_succ]; try rfl)
              · kernel_rfl
              · kernel_rfl
              · kernel_rfl
              · exact fun _ _ _ h => h
              · refine Or.inl ⟨by rfl, ?_⟩
                (intro w hSw; (try dsimp only at hSw); go_simp; try with_reducible rfl)
              (try simp only [Act.put, List.setIfInBounds_toArray, List.set_cons_zero, List.set_cons_succ])
              refine wpAnyH_take (i := 7) (oi := ?_) (v := ?_) ?_ ?_ ?_ ?_ ?_ ?_ (by exact hHeld) ?_
              rotate_left 2
              · (simp only [List.getElem?_toArray, List.getElem?_cons_zero, List.getElem?_cons_succ]; try rfl)
              · kernel_rfl
              · kernel_rfl
              · kernel_rfl
              · exact fun _ _ _ h => h
              · refine Or.inl ⟨by rfl, ?_⟩
                (intro w hSw; (try dsimp only at hSw); go_simp; try with_reducible rfl)
              (try simp only [Act.put, List.setIfInBounds_toArray, List.set_cons_zero, List.set_cons_succ])
              refine wpAnyH_take (i := 8) (oi := ?_) (v := ?_) ?_ ?_ ?_ ?_ ?_ ?_ (by exact hHeld) ?_
              rotate_left 2
              · (simp only [List.getElem?_toArray, List.getElem?_cons_zero, List.getElem?_cons_succ]; try rfl)
              · kernel_rfl
              · kernel_rfl
              · kernel_rfl
              · exact fun _ _ _ h => h
              · refine Or.inl ⟨by rfl, ?_⟩
                (intro w hSw; (try dsimp only at hSw); go_simp; try with_reducible rfl)
              (try simp only [Act.put, List.setIfInBounds_toArray, List.set_cons_zero, List.set_cons_succ])
              refine wpAnyH_take (i := 9) (oi := ?_) (v := ?_) ?_ ?_ ?_ ?_ ?_ ?_ (by exact hHeld) ?_
              rotate_left 2
              · (simp only [List.getElem?_toArray, List.getElem?_cons_zero, List.getElem?_cons_succ]; try rfl)
              · kernel_rfl
              · kernel_rfl
              · kernel_rfl
              · exact fun _ _ _ h => h
              · refine Or.inl ⟨by rfl, ?_⟩
                (intro w hSw; (try dsimp only at hSw); go_simp; try with_reducible rfl)
              (try simp only [Act.put, List.setIfInBounds_toArray, List.set_cons_zero, List.set_cons_succ])
              refine wpAnyH_take (i := 10) (oi := ?_) (v := ?_) ?_ ?_ ?_ ?_ ?_ ?_ (by exact hHeld) ?_
              rotate_left 2
              · (simp only [List.getElem?_toArray, List.getElem?_cons_zero, List.getElem?_cons_succ]; try rfl)
              · kernel_rfl
              · kernel_rfl
              · kernel_rfl
              · exact fun _ _ _ h => h
              · refine Or.inl ⟨by rfl, ?_⟩
                (intro w hSw; (try dsimp only at hSw); go_simp; try with_reducible rfl)
              (try simp only [Act.put, List.setIfInBounds_toArray, List.set_cons_zero, List.set_cons_succ])
              refine wpAnyH_take (i := 11) (oi := ?_) (v := ?_) ?_ ?_ ?_ ?_ ?_ ?_ (by exact hHeld) ?_
              rotate_left 2
              · (simp only [List.getElem?_toArray, List.getElem?_cons_zero, List.getElem?_cons_succ]; try rfl)
              · kernel_rfl
              · kernel_rfl
              · kernel_rfl
              · exact fun _ _ _ h => h
              · refine Or.inl ⟨by rfl, ?_⟩
                (intro w hSw; (try dsimp only at hSw); go_simp; try with_reducible rfl)
              (try simp only [Act.put, List.setIfInBounds_toArray, List.set_cons_zero, List.set_cons_succ])
              refine wpAnyH_take (i := 12) (oi := ?_) (v := ?_) ?_ ?_ ?_ ?_ ?_ ?_ (by exact hHeld) ?_
              rotate_left 2
              · (simp only [List.getElem?_toArray, List.getElem?_cons_zero, List.getElem?_cons_succ]; try rfl)
              · kernel_rfl
              · kernel_rfl
              · kernel_rfl
              · exact fun _ _ _ h => h
              · refine Or.inl ⟨by rfl, ?_⟩
                (intro w hSw; (try dsimp only at hSw); go_simp; try with_reducible rfl)
              (try simp only [Act.put, List.setIfInBounds_toArray, List.set_cons_zero, List.set_cons_succ])
              refine wpAnyH_take (i := 13) (oi := ?_) (v := undef) ?_ ?_ ?_ ?_ ?_ ?_ (by exact hHeld) ?_
              rotate_left 1
              · (simp only [List.getElem?_toArray, List.getElem?_cons_zero, List.getElem?_cons_succ]; try rfl)
              · kernel_rfl
              · kernel_rfl
              · kernel_rfl
              · exact fun _ _ _ h => h
              · refine Or.inr ?_
                exact ⟨by rfl, rfl⟩
              (try simp only [Act.put, List.setIfInBounds_toArray, List.set_cons_zero, List.set_cons_succ])
              refine wpAnyH_take (i := 14) (oi := ?_) (v := undef) ?_ ?_ ?_ ?_ ?_ ?_ (by exact hHeld) ?_
              rotate_left 1
              · (simp only [List.getElem?_toArray, List.getElem?_cons_zero, List.getElem?_cons_succ]; try rfl)
              · kernel_rfl
              · kernel_rfl
              · kernel_rfl
              · exact fun _ _ _ h => h
              · refine Or.inr ?_
                exact ⟨by rfl, rfl⟩
              (try simp only [Act.put, List.setIfInBounds_toArray, List.set_cons_zero, List.set_cons_succ])
              refine wpAnyH_take (i := 15) (oi := ?_) (v := undef) ?_ ?_ ?_ ?_ ?_ ?_ (by exact hHeld) ?_
              rotate_left 1
              · (simp only [List.getElem?_toArray, List.getElem?_cons_zero, List.getElem?_cons_succ]; try rfl)
              · kernel_rfl
              · kernel_rfl
              · kernel_rfl
              · exact fun _ _ _ h => h
              · refine Or.inr ?_
                exact ⟨by rfl, rfl⟩
              (try simp only [Act.put, List.setIfInBounds_toArray, List.set_cons_zero, List.set_cons_succ])
              refine wpAnyH_take (i := 16) (oi := ?_) (v := undef) ?_ ?_ ?_ ?_ ?_ ?_ (by exact hHeld) ?_
              rotate_left 1
              · (simp only [List.getElem?_toArray, List.getElem?_cons_zero, List.getElem?_cons_succ]; try rfl)
              · kernel_rfl
              · kernel_rfl
              · kernel_rfl
              · exact fun _ _ _ h => h
              · refine Or.inr ?_
                exact ⟨by rfl, rfl⟩
              (try simp only [Act.put, List.setIfInBounds_toArray, List.set_cons_zero, List.set_cons_succ])
              refine wpAnyH_take (i := 17) (oi := ?_) (v := undef) ?_ ?_ ?_ ?_ ?_ ?_ (by exact hHeld) ?_
              rotate_left 1
              · (simp only [List.getElem?_toArray, List.getElem?_cons_zero, List.getElem?_cons_succ]; try rfl)
              · kernel_rfl
              · kernel_rfl
              · kernel_rfl
              · exact fun _ _ _ h => h
              · refine Or.inr ?_
                exact ⟨by rfl, rfl⟩
              (try simp only [Act.put, List.setIfInBounds_toArray, List.set_cons_zero, List.set_cons_succ])
              refine wpAnyH_take (i := 18) (oi := ?_) (v := undef) ?_ ?_ ?_ ?_ ?_ ?_ (by exact hHeld) ?_
              rotate_left 1
              · (simp only [List.getElem?_toArray, List.getElem?_cons_zero, List.getElem?_cons_succ]; try rfl)
              · kernel_rfl
              · kernel_rfl
              · kernel_rfl
              · exact fun _ _ _ h => h
              · refine Or.inr ?_
                exact ⟨by rfl, rfl⟩
              (try simp only [Act.put, List.setIfInBounds_toArray, List.set_cons_zero, List.set_cons_succ])
              refine wpAnyH_take (i := 19) (oi := ?_) (v := undef) ?_ ?_ ?_ ?_ ?_ ?_ (by exact hHeld) ?_
              rotate_left 1
              · (simp only [List.getElem?_toArray, List.getElem?_cons_zero, List.getElem?_cons_succ]; try rfl)
              · kernel_rfl
              · kernel_rfl
              · kernel_rfl
              · exact fun _ _ _ h => h
              · refine Or.inr ?_
                exact ⟨by rfl, rfl⟩
              (try simp only [Act.put, List.setIfInBounds_toArray, List.set_cons_zero, List.set_cons_succ])
              refine wpAnyH_take (i := 20) (oi := ?_) (v := undef) ?_ ?_ ?_ ?_ ?_ ?_ (by exact hHeld) ?_
              rotate_left 1
              · (simp only [List.getElem?_toArray, List.getElem?_cons_zero, List.getElem?_cons_succ]; try rfl)
              · kernel_rfl
              · kernel_rfl
              · kernel_rfl
              · exact fun _ _ _ h => h
              · refine Or.inr ?_
                exact ⟨by rfl, rfl⟩
              (try simp only [Act.put, List.setIfInBounds_toArray, List.set_cons_zero, List.set_cons_succ])
              refine wpAnyH_take (i := 21) (oi := ?_) (v := undef) ?_ ?_ ?_ ?_ ?_ ?_ (by exact hHeld) ?_
              rotate_left 1
              · (simp only [List.getElem?_toArray, List.getElem?_cons_zero, List.getElem?_cons_succ]; try rfl)
              · kernel_rfl
              · kernel_rfl
              · kernel_rfl
              · exact fun _ _ _ h => h
              · refine Or.inr ?_
                exact ⟨by rfl, rfl⟩
              (try simp only [Act.put, List.setIfInBounds_toArray, List.set_cons_zero, List.set_cons_succ])
              refine wpAnyH_take (i := 22) (oi := ?_) (v := undef) ?_ ?_ ?_ ?_ ?_ ?_ (by exact hHeld) ?_
              rotate_left 1
              · (simp only [List.getElem?_toArray, List.getElem?_cons_zero, List.getElem?_cons_succ]; try rfl)
              · kernel_rfl
              · kernel_rfl
              · kernel_rfl
              · exact fun _ _ _ h => h
              · refine Or.inr ?_
                exact ⟨by rfl, rfl⟩
              (try simp only [Act.put, List.setIfInBounds_toArray, List.set_cons_zero, List.set_cons_succ])
              refine wpAnyH_take (i := 23) (oi := ?_) (v := undef) ?_ ?_ ?_ ?_ ?_ ?_ (by exact hHeld) ?_
              rotate_left 1
              · (simp only [List.getElem?_toArray, List.getElem?_cons_zero, List.getElem?_cons_succ]; try rfl)
              · kernel_rfl
              · kernel_rfl
              · kernel_rfl
              · exact fun _ _ _ h => h
              · refine Or.inr ?_
                exact ⟨by rfl, rfl⟩
              (try simp only [Act.put, List.setIfInBounds_toArray, List.set_cons_zero, List.set_cons_succ])
              refine wpAnyH_take (i := 24) (oi := ?_) (v := undef) ?_ ?_ ?_ ?_ ?_ ?_ (by exact hHeld) ?_
              rotate_left 1
              · (simp only [List.getElem?_toArray, List.getElem?_cons_zero, List.getElem?_cons_succ]; try rfl)
              · kernel_rfl
              · kernel_rfl
              · kernel_rfl
              · exact fun _ _ _ h => h
              · refine Or.inr ?_
                exact ⟨by rfl, rfl⟩
              (try simp only [Act.put, List.setIfInBounds_toArray, List.set_cons_zero, List.set_cons_succ])
              refine wpAnyH_take (i := 25) (oi := ?_) (v := undef) ?_ ?_ ?_ ?_ ?_ ?_ (by exact hHeld) ?_
              rotate_left 1
              · (simp only [List.getElem?_toArray, List.getElem?_cons_zero, List.getElem?_cons_succ]; try rfl)
              · kernel_rfl
              · kernel_rfl
              · kernel_rfl
              · exact fun _ _ _ h => h
              · refine Or.inr ?_
                exact ⟨by rfl, rfl⟩
              (try simp only [Act.put, List.setIfInBounds_toArray, List.set_cons_zero, List.set_cons_succ])
              refine wpAnyH_take (i := 26) (oi := ?_) (v := undef) ?_ ?_ ?_ ?_ ?_ ?_ (by exact hHeld) ?_
              rotate_left 1
              · (simp only [List.getElem?_toArray, List.getElem?_cons_zero, List.getElem?_cons_succ]; try rfl)
              · kernel_rfl
              · kernel_rfl
              · kernel_rfl
              · exact fun _ _ _ h => h
              · refine Or.inr ?_
                exact ⟨by rfl, rfl⟩
              (try simp only [Act.put, List.setIfInBounds_toArray, List.set_cons_zero, List.set_cons_succ])
              refine wpAnyH_take (i := 27) (oi := ?_) (v := undef) ?_ ?_ ?_ ?_ ?_ ?_ (by exact hHeld) ?_
              rotate_left 1
              · (simp only [List.getElem?_toArray, List.getElem?_cons_zero, List.getElem?_cons_succ]; try rfl)
              · kernel_rfl
              · kernel_rfl
              · kernel_rfl
              · exact fun _ _ _ h => h
              · refine Or.inr ?_
                exact ⟨by rfl, rfl⟩
              (try simp only [Act.put, List.setIfInBounds_toArray, List.set_cons_zero, List.set_cons_succ])
              refine wpAnyH_take (i := 28) (oi := ?_) (v := ?_) ?_ ?_ ?_ ?_ ?_ ?_ (by exact hHeld) ?_
              rotate_left 2
              · (simp only [List.getElem?_toArray, List.getElem?_cons_zero, List.getElem?_cons_succ]; try rfl)
              · kernel_rfl
              · kernel_rfl
              · kernel_rfl
              · exact fun _ _ _ h => h
              · refine Or.inl ⟨by rfl, ?_⟩
                (intro w hSw; (try dsimp only at hSw); go_simp; try with_reducible rfl)
              (try simp only [Act.put, List.setIfInBounds_toArray, List.set_cons_zero, List.set_cons_succ])
              refine wpAnyH_take (i := 29) (oi := ?_) (v := ?_) ?_ ?_ ?_ ?_ ?_ ?_ (by exact hHeld) ?_
              rotate_left 2
              · (simp only [List.getElem?_toArray, List.getElem?_cons_zero, List.getElem?_cons_succ]; try rfl)
              · kernel_rfl
              · kernel_rfl
              · kernel_rfl
              · exact fun _ _ _ h => h
              · refine Or.inl ⟨by rfl, ?_⟩
                (intro w hSw; (try dsimp only at hSw); go_simp; try with_reducible rfl)
              (try simp only [Act.put, List.setIfInBounds_toArray, List.set_cons_zero, List.set_cons_succ])
              refine wpAnyH_done (by kernel_rfl) ?_ _
              go_wp2
              exact ⟨⟨k + 1, by omega, by simp, by rw [HF'.out]; exact hblk2.below hb5, hb5'⟩, by show R.length - ((k : Int) + 1).toNat < R.length - (k : Int).toNat; omega⟩
        · have hkR : k = R.length := by omega
          subst hkR
          rw [List.take_length, HFLAT.out] at hblk
          have hTr := hT4.below hbel
          have hBr := hB4.below hbel
          have hDr := hD4.below hbel
          have hsz := hbel.size
          have hmb : mB T' = T'.length := by unfold mB; simp [HT.out]
          have hct : chunksText R = T' := by unfold chunksText; simp [HOK.out, HFLAT.out]
          have HMB := Lib.hid hmb
          have HCT := Lib.hid hct
          have hS : ∀ W, Below wr.heap.size wr W → (convert 22 9 (.slice A1 T'.length c1)).run Tryd.prog W = .ok (.string ⟨T'.toArray⟩) W ∧ W.cell? ⟨w4.heap.size, 0, none⟩ = some (.int .i64 (mB T')) ∧ W.cell? ⟨w4.heap.size, 1, none⟩ = some (.int .i64 (mR T')) ∧ W.cell? ⟨w4.heap.size, 2, none⟩ = some (.int .i64 (mL T')) :=
            fun W hb => ⟨run_conv_bs c1 T'.length rfl (hBr.below hb), (hb.cell (p := ⟨w4.heap.size, 0, none⟩) hblk.lt).trans (hblk.cell 0), (hb.cell (p := ⟨w4.heap.size, 1, none⟩) hblk.lt).trans (hblk.cell 1), (hb.cell (p := ⟨w4.heap.size, 2, none⟩) hblk.lt).trans (hblk.cell 2)⟩
          have HS := Lib.hid hS
          clear hmb hct hS
          go_upto_region 14 with fail
          refine wp_region_held_drew (S := fun W => (convert 22 9 (.slice A1 T'.length c1)).run Tryd.prog W = .ok (.string ⟨T'.toArray⟩) W ∧ W.cell? ⟨w4.heap.size, 0, none⟩ = some (.int .i64 (mB T')) ∧ W.cell? ⟨w4.heap.size, 1, none⟩ = some (.int .i64 (mR T')) ∧ W.cell? ⟨w4.heap.size, 2, none⟩ = some (.int .i64 (mL T'))) (by kernel_rfl) (by exact HS.out _ (Below.refl wr.heap.size wr).drew) (fun hHeld => ?_)
          refine wpAnyH_take (i := 0) (oi := ?_) (v := ?_) ?_ ?_ ?_ ?_ ?_ ?_ (by exact hHeld) ?_
          rotate_left 2
          · (simp only [List.getElem?_toArray, List.getElem?_cons_zero]; try rfl)
          · kernel_rfl
          · kernel_rfl
          · kernel_rfl
          · exact fun _ _ _ h => h
          · refine Or.inl ⟨by rfl, ?_⟩
            (intro w hSw; (try dsimp only at hSw); go_simp; try with_reducible rfl)
          (try simp only [Act.put, List.setIfInBounds_toArray, List.set_cons_zero, List.set_cons_succ])
          refine wpAnyH_take (i := 3) (oi := ?_) (v := ?_) ?_ ?_ ?_ ?_ ?_ ?_ (by exact hHeld) ?_
          rotate_left 2
          · (simp only [List.getElem?_toArray, List.getElem?_cons_zero, List.getElem?_cons_succ]; try rfl)
          · kernel_rfl
          · kernel_rfl
          · kernel_rfl
          · exact fun _ _ _ h => h
          · refine Or.inl ⟨by rfl, ?_⟩
            (intro w hSw; (try dsimp only at hSw); go_simp; try with_reducible rfl)
          (try simp only [Act.put, List.setIfInBounds_toArray, List.set_cons_zero, List.set_cons_succ])
          refine wpAnyH_take (i := 4) (oi := ?_) (v := ?_) ?_ ?_ ?_ ?_ ?_ ?_ (by exact hHeld) ?_
          rotate_left 2
          · (simp only [List.getElem?_toArray, List.getElem?_cons_zero, List.getElem?_cons_succ]; try rfl)
          · kernel_rfl
          · kernel_rfl
          · kernel_rfl
          · exact fun _ _ _ h => h
          · refine Or.inl ⟨by rfl, ?_⟩
            (intro w hSw; (try dsimp only at hSw); go_simp; try with_reducible rfl)
          (try simp only [Act.put, List.setIfInBounds_toArray, List.set_cons_zero, List.set_cons_succ])
          refine wpAnyH_ready (rs := [1]) (by kernel_rfl) (by simp) ?_
          refine AllReadyH.cons rfl (fun K hK => ?_) AllReadyH.nil
          go_simp
          refine (implChunksText_any A3 R _ _ (by omega) (by exact hTr.below (Below.refl wr.heap.size wr).drew) (by exact hDr.below (Below.refl wr.heap.size wr).drew)).mono ?_
          rintro e w5 ⟨v5, rfl, hown5, hb5⟩
          rw [HCT.out] at hown5
          obtain ⟨A5, c5, rfl, _, _, hB5⟩ := hown5.form
          have hb5 : Below wr.heap.size wr w5 := below_then (Below.refl wr.heap.size wr).drew hb5
          have hcv2 := run_conv_bs c5 T'.length rfl hB5
          go_wp2_with fail
          refine hK.out _ _ (by exact HS.out _ hb5) (fun hHeld => ?_)
          clear hK K
          (try simp only [Act.put, List.setIfInBounds_toArray, List.set_cons_zero, List.set_cons_succ])
          refine wpAnyH_ready (rs := [2]) (by kernel_rfl) (by simp) ?_
          refine AllReadyH.cons rfl (fun K hK => ?_) AllReadyH.nil
          go_simp
          refine hK.out _ _ (by exact HS.out _ hb5) (fun hHeld => ?_)
          clear hK K
          (try simp only [Act.put, List.setIfInBounds_toArray, List.set_cons_zero, List.set_cons_succ])
          refine wpAnyH_take (i := 5) (oi := ?_) (v := ?_) ?_ ?_ ?_ ?_ ?_ ?_ (by exact hHeld) ?_
          rotate_left 2
          · (simp only [List.getElem?_toArray, List.getElem?_cons_zero, List.getElem?_cons_succ]; try rfl)
          · kernel_rfl
          · kernel_rfl
          · kernel_rfl
          · exact fun _ _ _ h => h
          · refine Or.inl ⟨by rfl, ?_⟩
            (intro w hSw; (try dsimp only at hSw); go_simp; try with_reducible rfl)
          (try simp only [Act.put, List.setIfInBounds_toArray, List.set_cons_zero, List.set_cons_succ])
          refine wpAnyH_take (i := 6) (oi := ?_) (v := ?_) ?_ ?_ ?_ ?_ ?_ ?_ (by exact hHeld) ?_
          rotate_left 2
          · (simp only [List.getElem?_toArray, List.getElem?_cons_zero, List.getElem?_cons_succ]; try rfl)
          · kernel_rfl
          · kernel_rfl
          · kernel_rfl
          · exact fun _ _ _ h => h
          · refine Or.inl ⟨by rfl, ?_⟩
            (intro w hSw; (try dsimp only at hSw); go_simp; try with_reducible rfl)
          (try simp only [Act.put, List.setIfInBounds_toArray, List.set_cons_zero, List.set_cons_succ])
          refine wpAnyH_take (i := 7) (oi := ?_) (v := ?_) ?_ ?_ ?_ ?_ ?_ ?_ (by exact hHeld) ?_
          rotate_left 2
          · (simp only [List.getElem?_toArray, List.getElem?_cons_zero, List.getElem?_cons_succ]; try rfl)
          · kernel_rfl
          · kernel_rfl
          · kernel_rfl
          · exact fun _ _ _ h => h
          · refine Or.inl ⟨by rfl, ?_⟩
            (intro w hSw; (try dsimp only at hSw); go_simp; try with_reducible rfl)
          (try simp only [Act.put, List.setIfInBounds_toArray, List.set_cons_zero, List.set_cons_succ])
          refine wpAnyH_take (i := 8) (oi := ?_) (v := ?_) ?_ ?_ ?_ ?_ ?_ ?_ (by exact hHeld) ?_
          rotate_left 2
          · (simp only [List.getElem?_toArray, List.getElem?_cons_zero, List.getElem?_cons_succ]; try rfl)
          · kernel_rfl
          · kernel_rfl
          · kernel_rfl
          · exact fun _ _ _ h => h
          · refine Or.inl ⟨by rfl, ?_⟩
            (intro w hSw; (try dsimp only at hSw); go_simp; try with_reducible rfl)
          (try simp only [Act.put, List.setIfInBounds_toArray, List.set_cons_zero, List.set_cons_succ])
          refine wpAnyH_ready (rs := [9]) (by kernel_rfl) (by simp) ?_
          refine AllReadyH.cons rfl (fun K hK => ?_) AllReadyH.nil
          go_simp
          refine (measOf_any A1 T' c1 _ hlc1 hc19 (by exact hTr.below hb5) (by exact hBr.below hb5)).mono ?_
          rintro e w6 ⟨rfl, hb6⟩
          have hb6 := below_then hb5 hb6
          unfold meas
          go_wp2_with fail
          refine hK.out _ _ (by exact HS.out _ hb6) (fun hHeld => ?_)
          clear hK K
          (try simp only [Act.put, List.setIfInBounds_toArray, List.set_cons_zero, List.set_cons_succ])
          refine wpAnyH_take (i := 10) (oi := ?_) (v := ?_) ?_ ?_ ?_ ?_ ?_ ?_ (by exact hHeld) ?_
          rotate_left 2
          · (simp only [List.getElem?_toArray, List.getElem?_cons_zero, List.getElem?_cons_succ]; try rfl)
          · kernel_rfl
          · kernel_rfl
          · kernel_rfl
          · exact fun _ _ _ h => h
          · refine Or.inl ⟨by rfl, ?_⟩
            (intro w hSw; (try dsimp only at hSw); go_simp; try with_reducible rfl)
          (try simp only [Act.put, List.setIfInBounds_toArray, List.set_cons_zero, List.set_cons_succ])
          refine wpAnyH_take (i := 11) (oi := ?_) (v := ?_) ?_ ?_ ?_ ?_ ?_ ?_ (by exact hHeld) ?_
          rotate_left 2
          · (simp only [List.getElem?_toArray, List.getElem?_cons_zero, List.getElem?_cons_succ]; try rfl)
          · kernel_rfl
          · kernel_rfl
          · kernel_rfl
          · exact fun _ _ _ h => h
          · refine Or.inl ⟨by rfl, ?_⟩
            (intro w hSw; (try dsimp only at hSw); go_simp; try with_reducible rfl)
          (try simp only [Act.put, List.setIfInBounds_toArray, List.set_cons_zero, List.set_cons_succ])
          refine wpAnyH_take (i := 12) (oi := ?_) (v := ?_) ?_ ?_ ?_ ?_ ?_ ?_ (by exact hHeld) ?_
          rotate_left 2
          · (simp only [List.getElem?_toArray, List.getElem?_cons_zero, List.getElem?_cons_succ]; try rfl)
          · kernel_rfl
          · kernel_rfl
          · kernel_rfl
          · exact fun _ _ _ h => h
          · refine Or.inl ⟨by rfl, ?_⟩
            (intro w hSw; (try dsimp only at hSw); go_simp; try with_reducible rfl)
          (try simp only [Act.put, List.setIfInBounds_toArray, List.set_cons_zero, List.set_cons_succ])
          refine wpAnyH_take (i := 13) (oi := ?_) (v := ?_) ?_ ?_ ?_ ?_ ?_ ?_ (by exact hHeld) ?_
          rotate_left 2
          · (simp only [List.getElem?_toArray, List.getElem?_cons_zero, List.getElem?_cons_succ]; try rfl)
          · kernel_rfl
          · kernel_rfl
          · kernel_rfl
          · exact fun _ _ _ h => h
          · refine Or.inl ⟨by rfl, ?_⟩
            (intro w hSw; (try dsimp only at hSw); go_simp; try with_reducible rfl)
          (try simp only [Act.put, List.setIfInBounds_toArray, List.set_cons_zero, List.set_cons_succ])
          refine wpAnyH_take (i := 14) (oi := ?_) (v := ?_) ?_ ?_ ?_ ?_ ?_ ?_ (by exact hHeld) ?_
          rotate_left 2
          · (simp only [List.getElem?_toArray, List.getElem?_cons_zero, List.getElem?_cons_succ]; try rfl)
          · kernel_rfl
          · kernel_rfl
          · kernel_rfl
          · exact fun _ _ _ h => h
          · refine Or.inl ⟨by rfl, ?_⟩
            (intro w hSw; (try dsimp only at hSw); go_simp; try with_reducible rfl)
          (try simp only [Act.put, List.setIfInBounds_toArray, List.set_cons_zero, List.set_cons_succ])
          refine wpAnyH_take (i := 15) (oi := ?_) (v := ?_) ?_ ?_ ?_ ?_ ?_ ?_ (by exact hHeld) ?_
          rotate_left 2
          · (simp only [List.getElem?_toArray, List.getElem?_cons_zero, List.getElem?_cons_succ]; try rfl)
          · kernel_rfl
          · kernel_rfl
          · kernel_rfl
          · exact fun _ _ _ h => h
          · refine Or.inl ⟨by rfl, ?_⟩
            (intro w hSw; (try dsimp only at hSw); go_simp; try with_reducible rfl)
          (try simp only [Act.put, List.setIfInBounds_toArray, List.set_cons_zero, List.set_cons_succ])
          refine wpAnyH_take (i := 16) (oi := ?_) (v := ?_) ?_ ?_ ?_ ?_ ?_ ?_ (by exact hHeld) ?_
          rotate_left 2
          · (simp only [List.getElem?_toArray, List.getElem?_cons_zero, List.getElem?_cons_succ]; try rfl)
          · kernel_rfl
          · kernel_rfl
          · kernel_rfl
          · exact fun _ _ _ h => h
          · refine Or.inl ⟨by rfl, ?_⟩
            (intro w hSw; (try dsimp only at hSw); go_simp; try with_reducible rfl)
          (try simp only [Act.put, List.setIfInBounds_toArray, List.set_cons_zero, List.set_cons_succ])
          refine wpAnyH_take (i := 17) (oi := ?_) (v := ?_) ?_ ?_ ?_ ?_ ?_ ?_ (by exact hHeld) ?_
          rotate_left 2
          · (simp only [List.getElem?_toArray, List.getElem?_cons_zero, List.getElem?_cons_succ]; try rfl)
          · kernel_rfl
          · kernel_rfl
          · kernel_rfl
          · exact fun _ _ _ h => h
          · refine Or.inl ⟨by rfl, ?_⟩
            (intro w hSw; (try dsimp only at hSw); go_simp; try with_reducible rfl)
          (try simp only [Act.put, List.setIfInBounds_toArray, List.set_cons_zero, List.set_cons_succ])
          refine wpAnyH_take (i := 18) (oi := ?_) (v := ?_) ?_ ?_ ?_ ?_ ?_ ?_ (by exact hHeld) ?_
          rotate_left 2
          · (simp only [List.getElem?_toArray, List.getElem?_cons_zero, List.getElem?_cons_succ]; try rfl)
          · kernel_rfl
          · kernel_rfl
          · kernel_rfl
          · exact fun _ _ _ h => h
          · refine Or.inl ⟨by rfl, ?_⟩
            (intro w hSw; (try dsimp only at hSw); go_simp; try with_reducible rfl)
          (try simp only [Act.put, List.setIfInBounds_toArray, List.set_cons_zero, List.set_cons_succ])
          refine wpAnyH_take (i := 19) (oi := ?_) (v := ?_) ?_ ?_ ?_ ?_ ?_ ?_ (by exact hHeld) ?_
          rotate_left 2
          · (simp only [List.getElem?_toArray, List.getElem?_cons_zero, List.getElem?_cons_succ]; try rfl)
          · kernel_rfl
          · kernel_rfl
          · kernel_rfl
          · exact fun _ _ _ h => h
          · refine Or.inl ⟨by rfl, ?_⟩
            (intro w hSw; (try dsimp only at hSw); go_simp; try with_reducible rfl)
          (try simp only [Act.put, List.setIfInBounds_toArray, List.set_cons_zero, List.set_cons_succ])
          refine wpAnyH_done (by kernel_rfl) ?_ _
          go_wp2
          go_ret
          exact ⟨by simp [HMB.out], below_then hb4 (below_then hbel hb6)⟩


end Go.Proofs.YtpgeanombiociaaDoor.fnChunks
