/-
  Chapter 9, FramesOf of the program and of the model: contracts. Own work.
-/
import Derived.Test.YtdmmdbapkogdhabC12
import Derived.Test.YtdmmdbapkogdhabC05
import Derived.Test.YtdmmdbapkogdhabN06
import Derived.Test.YtdmmdbapkogdhabEB
import Derived.Deep.RegionHeld3
import Derived.Deep.DeepCutAuto
namespace Go.Proofs.Ytdmmdbapkogdhab
open Go.RowKit P
set_option linter.unusedVariables false
set_option linter.unusedSimpArgs false
set_option maxRecDepth 100000

theorem ints_one {w : World} (n : Int) : w.heap.size < (w.alloc (.cells #[.int .i64 n] 3)).heap.size ∧ ∀ j (h : j < [n].length), (w.alloc (.cells #[.int .i64 n] 3)).cell? ⟨w.heap.size, j, none⟩ = some (.int .i64 [n][j]) := by
  refine ⟨by simp, fun j hj => ?_⟩
  have h := (Blk.new w #[.int .i64 n] 3).cell j
  rw [h]
  match j, hj with
  | 0, _ => rfl
theorem lit2f {x y : Int} (hx : 0 ≤ x ∧ x < 256) (hy : 0 ≤ y ∧ y < 256) (W : World) : Own (W.alloc (.cells #[.int .u8 x, .int .u8 y] 5)) W.heap.size (.slice (some ⟨W.heap.size, 0, none⟩) 2 2) [u8 x, u8 y] := by
  have h := Own.new W [u8 x, u8 y] (by simp [maxLen])
  simpa [bV, u8_toNat x hx.1 hx.2, u8_toNat y hy.1 hy.2] using h

set_option maxHeartbeats 800000 in
theorem l09Two_f (n : Int) (w : World) (h0 : 0 ≤ n) (h1 : n ≤ 65535) :
    Calls Try.prog 19 #[.int .i64 n] w fun e w' => ∃ v, e = .returned v ∧ Own w' w.heap.size v (w2 n) ∧ Below w.heap.size w w' := by
  have HL := Lib.hid (lit2f (x := n / 256) (y := n % 256) (by omega) (by omega) w)
  have hd : n.tdiv 256 = n / 256 := Int.tdiv_eq_ediv_of_nonneg h0
  have hm : n.tmod 256 = n % 256 := Int.tmod_eq_emod_of_nonneg h0
  go_enter Try.func19, Try.ntmps19
  go_wp2
  go_ret
  exact ⟨_, rfl, HL.out, by (repeat (first | exact Below.refl _ _ | assumption | refine Below.setCell ?_ (by first | (simp; done) | (simp; omega) | omega) _ | refine Below.drew ?_ | refine below_drewN ?_ _ | refine Below.alloc ?_ (by first | (simp; done) | (simp; omega) | omega) _))⟩

theorem frAll_snoc (ps : List (List UInt8)) (k : Nat) (h : k < ps.length) : frAll (ps.take (k + 1)) = frAll (ps.take k) ++ frOne ps[k] := by
  unfold frAll
  rw [List.take_succ_eq_append_getElem h, List.flatMap_append]; simp
theorem frAll_len : ∀ ps : List (List UInt8), (∀ t ∈ ps, t.length ≤ 1000) → (frAll ps).length ≤ 1002 * ps.length
  | [], _ => by simp [frAll]
  | t :: ps, h => by
    have h1 := frAll_len ps (fun x hx => h x (List.mem_cons_of_mem _ hx))
    have h2 := h t List.mem_cons_self
    have e : frAll (t :: ps) = frOne t ++ frAll ps := rfl
    rw [e, List.length_append, frOne_len, List.length_cons]; omega
theorem frAll_take (ps : List (List UInt8)) (k : Nat) : (frAll (ps.take k)).length ≤ (frAll ps).length := by
  have h : frAll ps = frAll (ps.take k) ++ frAll (ps.drop k) := by unfold frAll; rw [← List.flatMap_append, List.take_append_drop]
  rw [h, List.length_append]; omega
theorem frOf_big {ps : List (List UInt8)} (h : 100 < ps.length) : frOf ps = [] := by
  unfold frOf frOk; rw [decide_eq_false (by omega)]; rfl
theorem frOf_bad {ps : List (List UInt8)} {k : Nat} (hk : k < ps.length) (h : 1000 < (ps[k]).length) : frOf ps = [] := by
  unfold frOf frOk
  have : ps.all (fun t => decide (t.length ≤ 1000)) = false := by
    rw [List.all_eq_false]; exact ⟨ps[k], List.getElem_mem hk, by simp; omega⟩
  rw [this]; simp
theorem frOf_yes {ps : List (List UInt8)} (h : ps.length ≤ 100) (h2 : ∀ t ∈ ps, t.length ≤ 1000) : frOf ps = frAll ps := by
  unfold frOf frOk
  rw [decide_eq_true h, List.all_eq_true.2 (fun t ht => decide_eq_true (h2 t ht))]; rfl

set_option maxHeartbeats 8000000 in
theorem implFramesOf_any (A : Option Addr) (ps : List (List UInt8)) (c : Nat) (w : World) (hn : ps.length ≤ 1048576) (hC : Cs w A ps) :
    Calls Try.prog 8 #[.slice A ps.length c] w fun e w' => ∃ v, e = .returned v ∧ Own w' w.heap.size v (frOf ps) ∧ Below w.heap.size w w' := by
  by_cases hbig : 100 < ps.length
  · rw [frOf_big hbig]
    have hb' : (100 : Int) < (ps.length : Int) := by omega
    go_enter Try.func8, Try.ntmps8
    go_wp2
    go_ret
    exact ⟨_, rfl, Own.nil _ _, Below.refl _ _⟩
  have hb' : ¬ (100 : Int) < (ps.length : Int) := by omega
  have HCS := Lib.hid hC
  clear hC
  go_enter Try.func8, Try.ntmps8
  go_wp2
  go_loopw [3, 5, 14] (fun sz _ i wr => ∃ k : Nat, k ≤ ps.length ∧ i = .int .i64 k ∧ sz = .int .i64 (((frAll (ps.take k)).length : Nat) : Int) ∧ Hid (∀ t ∈ ps.take k, t.length ≤ 1000) ∧ Below w.heap.size w wr) (fun _ _ i _ => ps.length - (intOf i).toNat)
  case atStart => exact ⟨0, Nat.zero_le _, rfl, rfl, Lib.hid (by simp), Below.refl _ _⟩
  case round =>
    obtain ⟨k, hk, rfl, rfl, HS, hb⟩ := hrel
    by_cases hlt : k < ps.length
    · obtain ⟨b, off, B, d, rfl, hbl, hc, hld, hdm, hB⟩ := (HCS.out.below hb).at_ k hlt
      have hsn := frAll_snoc ps k hlt
      have hln := frAll_len (ps.take k) HS.out
      rw [List.length_take] at hln
      have hbad := fun h => frOf_bad (ps := ps) hlt h
      have hst : (ps[k]).length ≤ 1000 → ∀ t ∈ ps.take (k + 1), t.length ≤ 1000 := fun h t ht => by
        rw [List.take_succ_eq_append_getElem hlt] at ht
        rcases List.mem_append.1 ht with ht | ht
        · exact HS.out t ht
        · obtain rfl : t = ps[k] := by simpa using ht
          exact h
      generalize hL : ps[k] = L at *
      have HST := Lib.hid hst
      have HBAD := Lib.hid hbad
      have e2 : (frAll (ps.take (k + 1))).length = (frAll (ps.take k)).length + (2 + L.length) := by rw [hsn, List.length_append, frOne_len]
      have HE := Lib.hid e2
      have hki : (k : Int) < (ps.length : Int) := by omega
      have hal := (Below.refl wr.heap.size wr).alloc (Nat.le_refl _) (.cells #[.slice B L.length d] 40)
      have HB := Lib.hid (below_then hb hal)
      clear hst hbad hsn hL e2 hal hB
      by_cases hLb : 1000 < L.length
      · have hl' : (1000 : Int) < (L.length : Int) := by omega
        have HN := Lib.hid (HBAD.out hLb)
        go_wp2
        go_ret
        exact ⟨.slice none 0 0, rfl, by rw [HN.out]; exact Own.nil _ _, HB.out⟩
      · have hl' : ¬ (1000 : Int) < (L.length : Int) := by omega
        generalize hM : (frAll (ps.take k)).length = M at *
        have hw1 : IntKind.i64.wrap (2 + (L.length : Int)) = 2 + (L.length : Int) := IntWalk.i64_in _ ⟨by omega, by omega⟩
        have hw2 : IntKind.i64.wrap ((M : Int) + (2 + (L.length : Int))) = (M : Int) + (2 + (L.length : Int)) := IntWalk.i64_in _ ⟨by omega, by omega⟩
        go_wp2
        go_roundw
        case rel => exact ⟨k + 1, by omega, by go_num, by rw [HE.out]; go_num, Lib.hid (HST.out (by omega)), HB.out⟩
        case measure => simp [intOf]; omega
    · have e : k = ps.length := by omega
      subst e
      rw [List.take_length] at HS
      rw [List.take_length]
      have hln := frAll_len ps HS.out
      have HO := Lib.hid (frOf_yes (by omega) HS.out)
      obtain ⟨N, hN⟩ : ∃ N, (frAll ps).length = N := ⟨_, rfl⟩
      have HN := Lib.hid hN
      rw [hN] at hln
      rw [hN]
      have HB := Lib.hid hb
      clear hN hb
      go_wp2_with fail
      refine (newPacket_any N _ (by omega)).mono ?_
      rintro e w1 ⟨rfl, hp, hb1⟩
      obtain ⟨g, hg⟩ : ∃ g, wr.heap.size = g := ⟨_, rfl⟩
      have hgw : w.heap.size ≤ g := by rw [← hg]; exact HB.out.size
      rw [hg] at hp
      rw [hg]
      have HP := Lib.hid hp
      have HB1 := Lib.hid (below_then HB.out hb1)
      clear hp hb1
      go_wp2
      go_loopw [8, 33] (fun _ i w2' => ∃ k : Nat, k ≤ ps.length ∧ i = .int .i64 k ∧ Pk w2' (g + 1) g N (frAll (ps.take k)) ∧ Below w.heap.size w w2') (fun _ i _ => ps.length - (intOf i).toNat)
      case atStart => exact ⟨0, Nat.zero_le _, rfl, HP.out, HB1.out⟩
      case round =>
        obtain ⟨k, hk, rfl, hp, hb⟩ := hrel
        by_cases hlt : k < ps.length
        · obtain ⟨b, off, B, d, rfl, hbl, hc, hld, hdm, hB⟩ := (HCS.out.below hb).at_ k hlt
          have hL1 := HS.out _ (List.getElem_mem hlt)
          have hsn := frAll_snoc ps k hlt
          have hft := frAll_take ps (k + 1)
          rw [hsn, List.length_append, frOne_len, HN.out] at hft
          have hbw : ∀ b' o', some (⟨b, off, none⟩ : Addr) = some ⟨b', o', none⟩ → b' < w.heap.size := fun b' o' e => by
            obtain ⟨b2, o2, _, _, e2, hl2, _⟩ := HCS.out.at_ k hlt
            cases e; cases e2; exact hl2
          have hbs : ∀ W, Below w.heap.size w W → Bs W B ps[k] := fun W hW => by
            obtain ⟨b2, o2, B2, d2, e2, hl2, hc2, _, _, hB2⟩ := HCS.out.at_ k hlt
            cases e2
            have hc3 := (hb.cell (p := ⟨b, off + k, none⟩) hl2).trans hc2
            rw [hc] at hc3
            cases hc3
            exact hB2.below hW
          generalize hL : ps[k] = L at *
          have HBS := Lib.hid hbs
          have HSN := Lib.hid hsn
          have HP := Lib.hid hp
          have HB := Lib.hid hb
          have hki : (k : Int) < (ps.length : Int) := by omega
          have hpl := HP.out.box.lt
          have hpr := HP.out.row.lt
          have hal := (Below.refl wr.heap.size wr).alloc (Nat.le_refl _) (.cells #[.slice B L.length d] 40)
          have hal2 := hal.alloc (by simp) (.cells #[.int .i64 (L.length : Int)] 3)
          have BX := Lib.hid ((Blk.new wr #[.slice B L.length d] 40).alloc (.cells #[.int .i64 (L.length : Int)] 3))
          have hin : wr.heap.size + 1 < ((wr.alloc (.cells #[.slice B L.length d] 40)).alloc (.cells #[.int .i64 (L.length : Int)] 3)).heap.size ∧ ∀ j (h : j < [(L.length : Int)].length), ((wr.alloc (.cells #[.slice B L.length d] 40)).alloc (.cells #[.int .i64 (L.length : Int)] 3)).cell? ⟨wr.heap.size + 1, j, none⟩ = some (.int .i64 [(L.length : Int)][j]) := by
            have h := ints_one (w := wr.alloc (.cells #[.slice B L.length d] 40)) (L.length : Int)
            rw [World.size_alloc] at h
            exact h
          have HAL2 := Lib.hid hal2
          have HIN := Lib.hid hin
          clear hal hal2 hin hp hb hsn hL hB hbs
          go_wp2_with fail
          refine (putWords_any (g + 1) g N (frAll (ps.take k)) (wr.heap.size + 1) [(L.length : Int)] 1 _ (HP.out.below HAL2.out) (by exact HIN.out) (by omega) (by omega) (by intro n hn; simp at hn; subst hn; unfold isW; simp; omega) (by simp; omega) (by omega)).mono ?_
          rintro e w4 ⟨rfl, hp4, hk4⟩
          have HK4 := Lib.hid hk4
          have HP4 := Lib.hid hp4
          have hb4 : Below w.heap.size w w4 := (HB.out.trans (HAL2.out.mono HB.out.size)).trans (hk4.below (B := w.heap.size) (by have := HB.out.size; have := HAL2.out.size; omega) (fun x hx => by simp at hx; omega))
          have HB4 := Lib.hid hb4
          have BX4 := Lib.hid (BX.out.of_block (hk4.block _ BX.out.lt (by simp; omega)))
          have x0 := BX4.out.cell 0
          clear hk4 hp4 hb4
          go_wp2_with fail
          refine (putBytes_any (g + 1) g N _ B L d _ HP4.out (by exact HBS.out _ HB4.out) (by simp [w2_len]; omega) (by omega)).mono ?_
          rintro e w5 ⟨rfl, hp5, hk5⟩
          have HP5 : Hid (Pk w5 (g + 1) g N (frAll (ps.take (k + 1)))) := Lib.hid (by
            rw [HSN.out]
            have h := hp5
            simp only [List.flatMap_cons, List.flatMap_nil, List.append_nil, List.append_assoc] at h
            exact h)
          have HB5 := Lib.hid (HB4.out.trans (hk5.below (B := w.heap.size) HB4.out.size (fun x hx => by simp at hx; omega)))
          clear hp5 hk5
          go_wp2
          go_roundw
          case rel => exact ⟨k + 1, by omega, by go_num, HP5.out, HB5.out⟩
          case measure => simp [intOf]; omega
        · have e : k = ps.length := by omega
          subst e
          rw [List.take_length] at hp
          have HP := Lib.hid hp
          have c0 := HP.out.box.cell 0
          clear hp
          go_wp2
          go_ret
          exact ⟨_, rfl, by rw [HO.out]; exact HP.out.own HN.out (by unfold maxLen; omega) w.heap.size hgw, hb⟩

theorem frAll_take_len (ps : List (List UInt8)) (k : Nat) (h : ∀ t ∈ ps.take k, t.length ≤ 1000) : (frAll (ps.take k)).length ≤ 1002 * k := by
  have := frAll_len _ h
  rw [List.length_take] at this
  omega
set_option maxHeartbeats 8000000 in
theorem specFramesOf_any (A : Option Addr) (ps : List (List UInt8)) (c : Nat) (w : World) (hn : ps.length ≤ 1048576) (hC : Cs w A ps) :
    Calls Try.prog 6 #[.slice A ps.length c] w fun e w' => ∃ v, e = .returned v ∧ Own w' w.heap.size v (frOf ps) ∧ Below w.heap.size w w' := by
  by_cases hbig : 100 < ps.length
  · rw [frOf_big hbig]
    have hb' : (100 : Int) < (ps.length : Int) := by omega
    go_enter Try.func6, Try.ntmps6
    go_wp2
    go_ret
    exact ⟨_, rfl, Own.nil _ _, Below.refl _ _⟩
  have hb' : ¬ (100 : Int) < (ps.length : Int) := by omega
  have HCS := Lib.hid hC
  have HN0 := Lib.hid (Own.new w [] (by simp [maxLen]))
  have hal0 := (Below.refl w.heap.size w).alloc (Nat.le_refl _) (.cells #[] 5)
  have HA0 := Lib.hid hal0
  clear hC hal0
  go_enter Try.func6, Try.ntmps6
  go_wp2
  go_loopw [3, 4] (fun out i wr => ∃ (k : Nat) (AO : Option Addr) (cO : Nat), k ≤ ps.length ∧ i = .int .i64 k ∧ out = .slice AO (frAll (ps.take k)).length cO ∧ Own wr w.heap.size (.slice AO (frAll (ps.take k)).length cO) (frAll (ps.take k)) ∧ Hid (∀ t ∈ ps.take k, t.length ≤ 1000) ∧ Below w.heap.size w wr) (fun _ i _ => ps.length - (intOf i).toNat)
  case atStart => exact ⟨0, _, _, Nat.zero_le _, rfl, rfl, by exact HN0.out, Lib.hid (by simp), HA0.out⟩
  case round =>
    obtain ⟨k, AO, cO, hk, rfl, rfl, hO, HS, hb⟩ := hrel
    by_cases hlt : k < ps.length
    · obtain ⟨b, off, B, d, rfl, hbl, hc, hld, hdm, hB⟩ := (HCS.out.below hb).at_ k hlt
      have hbw : b < w.heap.size ∧ w.cell? ⟨b, off + k, none⟩ = some (.slice B (ps[k]).length d) ∧ Bs w B ps[k] := by
        obtain ⟨b2, o2, B2, d2, e2, hl2, hc2, _, _, hB2⟩ := HCS.out.at_ k hlt
        cases e2
        have hc3 := (hb.cell (p := ⟨b, off + k, none⟩) hl2).trans hc2
        rw [hc] at hc3
        cases hc3
        exact ⟨hl2, hc2, hB2⟩
      have hsn := frAll_snoc ps k hlt
      have hln := frAll_take_len ps k HS.out
      have hbad := fun h => frOf_bad (ps := ps) hlt h
      have hst : (ps[k]).length ≤ 1000 → ∀ t ∈ ps.take (k + 1), t.length ≤ 1000 := fun h t ht => by
        rw [List.take_succ_eq_append_getElem hlt] at ht
        rcases List.mem_append.1 ht with ht | ht
        · exact HS.out t ht
        · obtain rfl : t = ps[k] := by simpa using ht
          exact h
      generalize hL : ps[k] = L at *
      have HST := Lib.hid hst
      have HBAD := Lib.hid hbad
      have HSN := Lib.hid hsn
      have HBW := Lib.hid hb
      have hki : (k : Int) < (ps.length : Int) := by omega
      obtain ⟨hbw1, hcw, hLw⟩ := hbw
      have HCW := Lib.hid hcw
      have HLW := Lib.hid hLw
      have hbw := hbw1
      obtain ⟨T, hT⟩ : ∃ T, frAll (ps.take k) = T := ⟨_, rfl⟩
      rw [hT] at hO hln
      rw [hT]
      have HTT := Lib.hid hT
      have HO := Lib.hid hO
      clear hst hbad hsn hL hT hO hcw hLw hB hb
      by_cases hLb : 1000 < L.length
      · have hl' : (1000 : Int) < (L.length : Int) := by omega
        have HN := Lib.hid (HBAD.out hLb)
        go_wp2
        go_ret
        exact ⟨.slice none 0 0, rfl, by rw [HN.out]; exact Own.nil _ _, HBW.out⟩
      have hl' : ¬ (1000 : Int) < (L.length : Int) := by omega
      have HC := Lib.hid hc
      go_upto_region 9 with fail
      refine wp_region_held_drew (S := (fun V => V.cell? ⟨b, off + k, none⟩ = some (.slice B L.length d))) (by kernel_rfl) (by exact hc) (fun hHeld => ?_)
      refine wpAnyH_take (i := 0) (oi := ?_) (v := ?_) ?_ ?_ ?_ ?_ ?_ ?_ (by exact hHeld) ?_
      rotate_left 2
      · (simp only [List.getElem?_toArray, List.getElem?_cons_zero]; try rfl)
      · kernel_rfl
      · kernel_rfl
      · kernel_rfl
      · exact fun _ _ _ h => h
      · refine Or.inl ⟨by rfl, ?_⟩
        (intro V hSV; (try dsimp only at hSV); have q0 := hSV; go_simp; try with_reducible rfl)
      (try simp only [Act.put, List.setIfInBounds_toArray, List.set_cons_zero, List.set_cons_succ])
      refine wpAnyH_take (i := 1) (oi := ?_) (v := ?_) ?_ ?_ ?_ ?_ ?_ ?_ (by exact hHeld) ?_
      rotate_left 2
      · (simp only [List.getElem?_toArray, List.getElem?_cons_zero, List.getElem?_cons_succ]; try rfl)
      · kernel_rfl
      · kernel_rfl
      · kernel_rfl
      · exact fun _ _ _ h => h
      · refine Or.inl ⟨by rfl, ?_⟩
        (intro V hSV; (try dsimp only at hSV); have q0 := hSV; go_simp; try with_reducible rfl)
      (try simp only [Act.put, List.setIfInBounds_toArray, List.set_cons_zero, List.set_cons_succ])
      refine wpAnyH_take (i := 2) (oi := ?_) (v := ?_) ?_ ?_ ?_ ?_ ?_ ?_ (by exact hHeld) ?_
      rotate_left 2
      · (simp only [List.getElem?_toArray, List.getElem?_cons_zero, List.getElem?_cons_succ]; try rfl)
      · kernel_rfl
      · kernel_rfl
      · kernel_rfl
      · exact fun _ _ _ h => h
      · refine Or.inl ⟨by rfl, ?_⟩
        (intro V hSV; (try dsimp only at hSV); have q0 := hSV; go_simp; try with_reducible rfl)
      (try simp only [Act.put, List.setIfInBounds_toArray, List.set_cons_zero, List.set_cons_succ])
      refine wpAnyH_take (i := 3) (oi := ?_) (v := ?_) ?_ ?_ ?_ ?_ ?_ ?_ (by exact hHeld) ?_
      rotate_left 2
      · (simp only [List.getElem?_toArray, List.getElem?_cons_zero, List.getElem?_cons_succ]; try rfl)
      · kernel_rfl
      · kernel_rfl
      · kernel_rfl
      · exact fun _ _ _ h => h
      · refine Or.inl ⟨by rfl, ?_⟩
        (intro V hSV; (try dsimp only at hSV); have q0 := hSV; go_simp; try with_reducible rfl)
      (try simp only [Act.put, List.setIfInBounds_toArray, List.set_cons_zero, List.set_cons_succ])
      refine wpAnyH_take (i := 4) (oi := ?_) (v := ?_) ?_ ?_ ?_ ?_ ?_ ?_ (by exact hHeld) ?_
      rotate_left 2
      · (simp only [List.getElem?_toArray, List.getElem?_cons_zero, List.getElem?_cons_succ]; try rfl)
      · kernel_rfl
      · kernel_rfl
      · kernel_rfl
      · exact fun _ _ _ h => h
      · refine Or.inl ⟨by rfl, ?_⟩
        (intro V hSV; (try dsimp only at hSV); have q0 := hSV; go_simp; try with_reducible rfl)
      (try simp only [Act.put, List.setIfInBounds_toArray, List.set_cons_zero, List.set_cons_succ])
      refine wpAnyH_take (i := 5) (oi := ?_) (v := ?_) ?_ ?_ ?_ ?_ ?_ ?_ (by exact hHeld) ?_
      rotate_left 2
      · (simp only [List.getElem?_toArray, List.getElem?_cons_zero, List.getElem?_cons_succ]; try rfl)
      · kernel_rfl
      · kernel_rfl
      · kernel_rfl
      · exact fun _ _ _ h => h
      · refine Or.inl ⟨by rfl, ?_⟩
        (intro V hSV; (try dsimp only at hSV); have q0 := hSV; go_simp; try with_reducible rfl)
      (try simp only [Act.put, List.setIfInBounds_toArray, List.set_cons_zero, List.set_cons_succ])
      refine wpAnyH_take (i := 6) (oi := ?_) (v := ?_) ?_ ?_ ?_ ?_ ?_ ?_ (by exact hHeld) ?_
      rotate_left 2
      · (simp only [List.getElem?_toArray, List.getElem?_cons_zero, List.getElem?_cons_succ]; try rfl)
      · kernel_rfl
      · kernel_rfl
      · kernel_rfl
      · exact fun _ _ _ h => h
      · refine Or.inl ⟨by rfl, ?_⟩
        (intro V hSV; (try dsimp only at hSV); have q0 := hSV; go_simp; try with_reducible rfl)
      (try simp only [Act.put, List.setIfInBounds_toArray, List.set_cons_zero, List.set_cons_succ])
      refine wpAnyH_take (i := 9) (oi := ?_) (v := ?_) ?_ ?_ ?_ ?_ ?_ ?_ (by exact hHeld) ?_
      rotate_left 2
      · (simp only [List.getElem?_toArray, List.getElem?_cons_zero, List.getElem?_cons_succ]; try rfl)
      · kernel_rfl
      · kernel_rfl
      · kernel_rfl
      · exact fun _ _ _ h => h
      · refine Or.inl ⟨by rfl, ?_⟩
        (intro V hSV; (try dsimp only at hSV); have q0 := hSV; go_simp; try with_reducible rfl)
      (try simp only [Act.put, List.setIfInBounds_toArray, List.set_cons_zero, List.set_cons_succ])
      refine wpAnyH_take (i := 10) (oi := ?_) (v := ?_) ?_ ?_ ?_ ?_ ?_ ?_ (by exact hHeld) ?_
      rotate_left 2
      · (simp only [List.getElem?_toArray, List.getElem?_cons_zero, List.getElem?_cons_succ]; try rfl)
      · kernel_rfl
      · kernel_rfl
      · kernel_rfl
      · exact fun _ _ _ h => h
      · refine Or.inl ⟨by rfl, ?_⟩
        (intro V hSV; (try dsimp only at hSV); have q0 := hSV; go_simp; try with_reducible rfl)
      (try simp only [Act.put, List.setIfInBounds_toArray, List.set_cons_zero, List.set_cons_succ])
      refine wpAnyH_take (i := 11) (oi := ?_) (v := ?_) ?_ ?_ ?_ ?_ ?_ ?_ (by exact hHeld) ?_
      rotate_left 2
      · (simp only [List.getElem?_toArray, List.getElem?_cons_zero, List.getElem?_cons_succ]; try rfl)
      · kernel_rfl
      · kernel_rfl
      · kernel_rfl
      · exact fun _ _ _ h => h
      · refine Or.inl ⟨by rfl, ?_⟩
        (intro V hSV; (try dsimp only at hSV); have q0 := hSV; go_simp; try with_reducible rfl)
      (try simp only [Act.put, List.setIfInBounds_toArray, List.set_cons_zero, List.set_cons_succ])
      refine wpAnyH_take (i := 12) (oi := ?_) (v := ?_) ?_ ?_ ?_ ?_ ?_ ?_ (by exact hHeld) ?_
      rotate_left 2
      · (simp only [List.getElem?_toArray, List.getElem?_cons_zero, List.getElem?_cons_succ]; try rfl)
      · kernel_rfl
      · kernel_rfl
      · kernel_rfl
      · exact fun _ _ _ h => h
      · refine Or.inl ⟨by rfl, ?_⟩
        (intro V hSV; (try dsimp only at hSV); have q0 := hSV; go_simp; try with_reducible rfl)
      (try simp only [Act.put, List.setIfInBounds_toArray, List.set_cons_zero, List.set_cons_succ])
      refine wpAnyH_take (i := 13) (oi := ?_) (v := ?_) ?_ ?_ ?_ ?_ ?_ ?_ (by exact hHeld) ?_
      rotate_left 2
      · (simp only [List.getElem?_toArray, List.getElem?_cons_zero, List.getElem?_cons_succ]; try rfl)
      · kernel_rfl
      · kernel_rfl
      · kernel_rfl
      · exact fun _ _ _ h => h
      · refine Or.inl ⟨by rfl, ?_⟩
        (intro V hSV; (try dsimp only at hSV); have q0 := hSV; go_simp; try with_reducible rfl)
      (try simp only [Act.put, List.setIfInBounds_toArray, List.set_cons_zero, List.set_cons_succ])
      refine wpAnyH_ready (rs := [7]) (by kernel_rfl) (by simp) ?_
      refine AllReadyH.cons (o := ?_) ?_ (fun K hK => ?_) AllReadyH.nil
      rotate_left 1
      · (simp only [List.getElem?_toArray, List.getElem?_cons_zero, List.getElem?_cons_succ]; try rfl)
      go_simp
      refine (l09Two_f L.length _ (by omega) (by omega)).mono ?_
      rintro e y1 ⟨v, rfl, hown, hb1⟩
      have hb1 : Below wr.heap.size wr y1 := ⟨hb1.os, hb1.tape, hb1.output, hb1.size, hb1.block⟩
      obtain ⟨AX, cX, rfl, lX, kX, _, _, _⟩ := own_plain9 hown
      have X := Lib.hid hown
      have HB := Lib.hid hb1
      have V1 := Lib.hid (HO.out.below hb1)
      clear hown hb1
      go_wp2_with fail
      refine hK.out _ _ (by exact ((HB.out.cell (p := ⟨b, off + k, none⟩) hbl).trans HC.out)) (fun hHeld => ?_)
      clear hK K
      (try simp only [Act.put, List.setIfInBounds_toArray, List.set_cons_zero, List.set_cons_succ])
      refine wpAnyH_ready (rs := [8]) (by kernel_rfl) (by simp) ?_
      refine AllReadyH.cons (o := ?_) ?_ (fun K hK => ?_) AllReadyH.nil
      rotate_left 1
      · (simp only [List.getElem?_toArray, List.getElem?_cons_zero, List.getElem?_cons_succ]; try rfl)
      refine step_app_bytes9 rfl (.tmp 22) (.tmp 29) rfl _ (Value.slice AO T.length cO) T (w2 L.length) AX (w2 (L.length : Int)).length cX rfl rfl rfl (by exact V1.out) (by exact own_bs9 X.out) (by simp [w2_len] <;> omega) (by have h1 := HBW.out.size; have h2 := HB.out.size; omega) ?_
      intro v9 y2 hown hg hv9
      have hg : World.grownBy y1 y2 ((Value.slice AO T.length cO)).ownBlock := ⟨hg.os, hg.tape, hg.output, hg.size, hg.block⟩
      have hke := Keeps.of_grown hg
      have hlo := V1.out.range
      have HBN := Lib.hid ((HBW.out.trans (HB.out.mono HBW.out.size)).trans (hke.below (B := w.heap.size) (by have h1 := HBW.out.size; have h2 := HB.out.size; omega) (fun k hk => (hlo k hk).1)))
      have HC2 : Hid (y2.cell? ⟨b, off + k, none⟩ = some (.slice B L.length d)) := Lib.hid ((HBN.out.cell (p := ⟨b, off + k, none⟩) hbw).trans HCW.out)
      have HL2 := Lib.hid (HLW.out.below HBN.out)
      have V1 := Lib.hid hown
      have HB := Lib.hid (show Below wr.heap.size wr wr from Below.refl _ _)
      have HBW := HBN
      clear hke hg hlo hown HBN
      (try go_simp)
      refine hK.out _ _ (by exact HC2.out) (fun hHeld => ?_)
      clear hK K
      (try simp only [Act.put, List.setIfInBounds_toArray, List.set_cons_zero, List.set_cons_succ])
      refine wpAnyH_ready (rs := [14]) (by kernel_rfl) (by simp) ?_
      refine AllReadyH.cons (o := ?_) ?_ (fun K hK => ?_) AllReadyH.nil
      rotate_left 1
      · (simp only [List.getElem?_toArray, List.getElem?_cons_zero, List.getElem?_cons_succ]; try rfl)
      refine step_app_bytes9 rfl (.tmp 30) (.tmp 35) rfl _ v9 (T ++ w2 L.length) L B L.length d rfl rfl rfl (by exact V1.out) (by exact HL2.out) (by simp [w2_len] <;> omega) (by have h1 := HBW.out.size; omega) ?_
      intro v9b y3 hown hg hv9
      have hg : World.grownBy y2 y3 (v9).ownBlock := ⟨hg.os, hg.tape, hg.output, hg.size, hg.block⟩
      have hke := Keeps.of_grown hg
      have hlo := V1.out.range
      have HBN := Lib.hid (HBW.out.trans (hke.below (B := w.heap.size) (by have h1 := HBW.out.size; omega) (fun k hk => (hlo k hk).1)))
      have HC3 : Hid (y3.cell? ⟨b, off + k, none⟩ = some (.slice B L.length d)) := Lib.hid ((HBN.out.cell (p := ⟨b, off + k, none⟩) hbw).trans HCW.out)
      have V1 := Lib.hid hown
      clear hke hg hlo hown
      (try go_simp)
      refine hK.out _ _ (by exact HC3.out) (fun hHeld => ?_)
      clear hK K
      (try simp only [Act.put, List.setIfInBounds_toArray, List.set_cons_zero, List.set_cons_succ])
      refine wpAnyH_take (i := 15) (oi := ?_) (v := ?_) ?_ ?_ ?_ ?_ ?_ ?_ (by exact hHeld) ?_
      rotate_left 2
      · (simp only [List.getElem?_toArray, List.getElem?_cons_zero, List.getElem?_cons_succ]; try rfl)
      · kernel_rfl
      · kernel_rfl
      · kernel_rfl
      · exact fun _ _ _ h => h
      · refine Or.inl ⟨by rfl, ?_⟩
        (intro V hSV; (try dsimp only at hSV); have q0 := hSV; go_simp; try with_reducible rfl)
      (try simp only [Act.put, List.setIfInBounds_toArray, List.set_cons_zero, List.set_cons_succ])
      refine wpAnyH_done (by kernel_rfl) ?_ _
      have hown := V1.out
      obtain ⟨AF, cF, rfl, _, _, _, _, _⟩ := own_plain9 hown
      have HF : Hid (Own y3 w.heap.size (.slice AF (frAll (ps.take (k + 1))).length cF) (frAll (ps.take (k + 1))) ∧ (T ++ w2 L.length ++ L).length = (frAll (ps.take (k + 1))).length) := Lib.hid (by
        have e : frAll (ps.take (k + 1)) = T ++ w2 L.length ++ L := by rw [HSN.out, HTT.out, List.append_assoc]; rfl
        rw [e]
        exact ⟨hown, rfl⟩)
      rw [HF.out.2]
      have HS3 := Lib.hid (HST.out (by omega))
      have HB3 := HBN
      clear hown hHeld
      go_wp2
      go_roundw
      case rel => exact ⟨k + 1, AF, cF, by omega, by go_num, rfl, HF.out.1, HS3, HB3.out⟩
      case measure => simp [intOf]; omega
    · have e : k = ps.length := by omega
      subst e
      rw [List.take_length] at HS hO
      rw [List.take_length]
      have HO := Lib.hid (frOf_yes (by omega) HS.out)
      have HOW := Lib.hid hO
      clear hO
      go_wp2
      go_ret
      exact ⟨_, rfl, by rw [HO.out]; exact HOW.out, hb⟩
end Go.Proofs.Ytdmmdbapkogdhab
