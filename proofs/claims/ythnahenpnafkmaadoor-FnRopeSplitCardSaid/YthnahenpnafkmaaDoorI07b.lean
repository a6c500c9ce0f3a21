/-
  Chapter 4, the program's RopeEdit at a valid edit: contract. Own work.
-/
import Derived.Test.YthnahenpnafkmaaDoorI07
import Derived.Test.YthnahenpnafkmaaDoorP07
import Derived.Test.YthnahenpnafkmaaDoorCat3
import Derived.Deep.RegionHeld3
import Derived.Deep.DeepCutAuto
namespace Go.Proofs.YthnahenpnafkmaaDoor
open Go.RowKit Go.Shelf P
set_option linter.unusedVariables false
set_option linter.unusedSimpArgs false
set_option maxRecDepth 100000
attribute [local go_sem] Oper.semAt_some run_store_func run_store_nilFunc

set_option maxHeartbeats 8000000 in
theorem implRopeEdit_ok (A : Option Addr) (ls : List (List UInt8)) (c : Nat) (a m : Int) (Ap : Option Addr) (p : List UInt8) (cp : Nat) (w : World) (hn : ls.length ≤ 1048576) (hpc : p.length ≤ cp) (hcp9 : cp ≤ 9223372036854775807) (hT : Tab w) (hC : Cs w A ls) (hP : Bs w Ap p)
    (h0 : 0 ≤ a) (hm : 0 ≤ m) (hN : a + m ≤ (tot ls : Int)) (hok : (chunksOk ls && [a, a + m].all (fun x => isBound (chunksText ls) x)) = true) (hp : isText p = true) (hfit : (tot ls : Int) - m + p.length ≤ 400) :
    Calls Tryd.prog 18 #[.agg #[.slice A ls.length c], .int .i64 a, .int .i64 m, .slice Ap p.length cp] w (GivesRB (editR ls a (a + m) (tot ls) p) true w) := by
  have hck : chunksOk ls = true := (Bool.and_eq_true _ _ ▸ hok).1
  have htot := chunksOk_tot hck
  have hl4 := chunksOk_len hck
  have hne : ∀ k (h : k < ls.length), 0 < (ls[k]).length ∧ (ls[k]).length ≤ 400 := fun k h => ⟨by have := (chunksOk_all hck).1 _ (List.getElem_mem h); exact ((chunkOk_iff _).1 this).1, Nat.le_trans (tot_mem k h) htot⟩
  have hmb : mB (chunksText ls) = (tot ls : Int) := by unfold mB; rw [chunksText_ok hck, if_pos (chunksOk_text hck)]; rfl
  obtain ⟨N, hNe⟩ : ∃ N : Int, (tot ls : Int) = N := ⟨_, rfl⟩
  have hN4 : 0 ≤ N ∧ N ≤ 400 := by omega
  rw [hNe] at hmb hN hfit
  obtain ⟨b, hb⟩ : ∃ b : Int, a + m = b := ⟨_, rfl⟩
  rw [hb] at hok hN
  have hab : a ≤ b := by omega
  have HB := Lib.hid hb
  have HP := Lib.hid hp
  have HMB := Lib.hid hmb
  have HNE := Lib.hid hNe
  have HOK := Lib.hid hok
  have hfit2 : N - m + (p.length : Int) ≤ 400 := hfit
  have hmN : m ≤ N := by omega
  have hwab : IntKind.i64.wrap (a + m) = b := by rw [hb]; exact IntWalk.i64_in _ ⟨by omega, by omega⟩
  clear hb hp hmb hNe hok hfit
  refine (callsIn_wide (n := 6)).1 ?_
  refine callsIn_of_wp_marks Tryd.func18 rfl trivial ?_ rfl
  simp only [Tryd.ntmps18, List.size_toArray, List.length_cons, List.length_nil, Nat.reduceAdd, Nat.reduceSub, Array.replicate_succ, Array.replicate_zero, List.push_toArray, List.append_toArray, List.nil_append, List.cons_append]
  refine wpIn_wide.2 ?_
  have hal : Below w.heap.size w ((((w.alloc (.cells #[.slice A ls.length c] 26)).alloc (.cells #[.int .i64 a] 3)).alloc (.cells #[.slice none 0 0] 26)).alloc (.cells #[.int .i64 b] 3)) :=
    ((((Below.refl w.heap.size w).alloc (Nat.le_refl _) _).alloc (by simp) _).alloc (by simp; omega) _).alloc (by simp; omega) _
  have bA := (((Boxed.new w 26 (.slice A ls.length c)).alloc (.cells #[.int .i64 a] 3)).alloc (.cells #[.slice none 0 0] 26)).alloc (.cells #[.int .i64 b] 3)
  have bT := ((Boxed.new (w.alloc (.cells #[.slice A ls.length c] 26)) 3 (.int .i64 a)).alloc (.cells #[.slice none 0 0] 26)).alloc (.cells #[.int .i64 b] 3)
  have bR := (Boxed.new ((w.alloc (.cells #[.slice A ls.length c] 26)).alloc (.cells #[.int .i64 a] 3)) 26 (.slice none 0 0)).alloc (.cells #[.int .i64 b] 3)
  have bE := Boxed.new (((w.alloc (.cells #[.slice A ls.length c] 26)).alloc (.cells #[.int .i64 a] 3)).alloc (.cells #[.slice none 0 0] 26)) 3 (.int .i64 b)
  simp only [World.size_alloc] at bT bR bE
  have hsz : ((((w.alloc (.cells #[.slice A ls.length c] 26)).alloc (.cells #[.int .i64 a] 3)).alloc (.cells #[.slice none 0 0] 26)).alloc (.cells #[.int .i64 b] 3)).heap.size = w.heap.size + 4 := by simp
  go_wp2_with fail
  generalize (((w.alloc (.cells #[.slice A ls.length c] 26)).alloc (.cells #[.int .i64 a] 3)).alloc (.cells #[.slice none 0 0] 26)).alloc (.cells #[.int .i64 b] 3) = W3 at *
  have hz3 : w.heap.size + 1 + 1 + 1 < W3.heap.size := by omega
  clear hsz
  refine (textOk_any Ap p cp _ hpc hcp9 (by exact hT.below hal) (by exact hP.below hal)).mono ?_
  rintro e w4 ⟨rfl, n4, rfl⟩
  rw [HP.out]
  have h4 := below_drewN (Below.refl W3.heap.size W3) n4
  have bA4 := boxed_belowAll bA h4
  have bT4 := boxed_belowAll bT h4
  have bR4 := boxed_belowAll bR h4
  have bE4 := boxed_belowAll bE h4
  have hb4 := below_drewN hal n4
  have hz4 : W3.heap.size = (W3.drewN n4).heap.size := by simp
  have hz4' : w.heap.size + 1 + 1 + 1 < (W3.drewN n4).heap.size := by omega
  generalize W3.drewN n4 = W4 at *
  clear h4 hz4 hal bA bT bR bE hz3
  have hb5 := hb4.alloc hb4.size (.cells #[.int .i64 a, .int .i64 b] 3)
  have bO := Blk.new W4 #[.int .i64 a, .int .i64 b] 3
  have hO : ∀ k (h : k < ([a, b] : List Int).length), (W4.alloc (.cells #[.int .i64 a, .int .i64 b] 3)).cell? ⟨W4.heap.size, k, none⟩ = some (.int .i64 ([a, b] : List Int)[k]) := by
    intro k h
    match k, h with
    | 0, _ => exact bO.cell 0
    | 1, _ => exact bO.cell 1
  have hcall : Hid (Calls Tryd.prog 41 #[.agg #[.slice A ls.length c], .slice (some ⟨W4.heap.size, 0, none⟩) 2 2] (W4.alloc (.cells #[.int .i64 a, .int .i64 b] 3)) fun e w' => e = .returned (.bool true) ∧ Below (W4.alloc (.cells #[.int .i64 a, .int .i64 b] 3)).heap.size (W4.alloc (.cells #[.int .i64 a, .int .i64 b] 3)) w') := Lib.hid (by
    have := cutsOk_any A ls c W4.heap.size [a, b] 2 _ hn (hT.below hb5) (hC.below hb5) (by simp) hO (by simp)
    rw [HOK.out] at this
    exact this)
  have kA4 := bA4.cell
  have kT4 := bT4.cell
  have kE4 := bE4.cell
  have bA5 := bA4.alloc (.cells #[.int .i64 a, .int .i64 b] 3)
  have bT5 := bT4.alloc (.cells #[.int .i64 a, .int .i64 b] 3)
  have bR5 := bR4.alloc (.cells #[.int .i64 a, .int .i64 b] 3)
  have bE5 := bE4.alloc (.cells #[.int .i64 a, .int .i64 b] 3)
  clear bO hO
  go_wp2_with fail
  refine hcall.out.mono ?_
  rintro e w6 ⟨rfl, hb6⟩
  have bA6 := boxed_belowAll bA5 hb6
  have bT6 := boxed_belowAll bT5 hb6
  have bR6 := boxed_belowAll bR5 hb6
  have bE6 := boxed_belowAll bE5 hb6
  have hb6 := below_then hb5 hb6
  have kA6 := bA6.cell
  clear hcall bA4 bT4 bR4 bE4 bA5 bT5 bR5 bE5 hb4 hb5 kA4 kT4 kE4
  go_wp2_with fail
  refine (implRopeMeas_any A ls c _ hn (by exact hT.below hb6) (by exact hC.below hb6)).mono ?_
  rintro e w7 ⟨rfl, hb7⟩
  rw [HMB.out]
  unfold meas
  generalize mR (chunksText ls) = y7
  generalize mL (chunksText ls) = z7
  have hfd : ∀ W, (Instr.field 35 (.agg #[.int .i64 N, .int .i64 y7, .int .i64 z7]) 0).run Tryd.prog W = .ok (.int .i64 N) W := fun W => by kernel_rfl
  have bA7 := boxed_belowAll bA6 hb7
  have bT7 := boxed_belowAll bT6 hb7
  have bR7 := boxed_belowAll bR6 hb7
  have bE7 := boxed_belowAll bE6 hb7
  have hb7 := below_then hb6 hb7
  have kA7 := bA7.cell
  have kT7 := bT7.cell
  have kE7 := bE7.cell
  clear bA6 bT6 bR6 bE6 hb6 kA6
  have hsum : N - m + (p.length : Int) ≤ 400 := hfit2
  have hlT := bT7.lt
  have hlE := bE7.lt
  go_upto_region 8 with fail
  go_cut [11, 12, 13] from 21 (fun l p q wx => ∃ (B1 B2 : Nat) (f1 f2 : Nat × Nat), l = .int .i64 N ∧ p = .pointer (some ⟨B1, 0, none⟩) ∧ q = .pointer (some ⟨B2, 0, none⟩) ∧ E7 w7 wx a b N (some (B1, cutFn f1.1 f1.2)) (some (B2, cutFn f2.1 f2.2)) (some f1) (some f2))
  case first =>
    go_wp2_with fail
    clear hfd
    -- REGION 7
    refine wp_region_noPanic ?_
    refine wp_region_held_drew (S := fun V => V.cell? ⟨w.heap.size + 1, 0, none⟩ = some (.int .i64 a) ∧ V.cell? ⟨w.heap.size + 1 + 1 + 1, 0, none⟩ = some (.int .i64 b)) (by kernel_rfl) ⟨kT7, kE7⟩ (fun hHeld => ?_)
    have HE0 : Hid (E7 w7 w7.drew a b N none none none none) := Lib.hid E7.new
    refine wpAnyH_take (i := 0) (oi := ?_) (v := ?_) ?_ ?_ ?_ ?_ ?_ ?_ (by exact hHeld) ?_
    rotate_left 2
    · (simp only [List.getElem?_toArray, List.getElem?_cons_zero]; try rfl)
    · kernel_rfl
    · kernel_rfl
    · kernel_rfl
    · exact fun _ _ _ h => h
    · refine Or.inl ⟨by rfl, ?_⟩
      (intro w hSw; (try dsimp only at hSw); go_simp; try with_reducible rfl)
    (try simp only [Act.put, List.setIfInBounds_toArray, List.set_cons_zero, List.set_cons_succ])
    refine wpAnyH_take (i := 2) (oi := ?_) (v := ?_) ?_ ?_ ?_ ?_ ?_ ?_ (by exact hHeld) ?_
    rotate_left 2
    · (simp only [List.getElem?_toArray, List.getElem?_cons_zero, List.getElem?_cons_succ]; try rfl)
    · kernel_rfl
    · kernel_rfl
    · kernel_rfl
    · exact fun _ _ _ h => h
    · refine Or.inl ⟨by rfl, ?_⟩
      (intro w hSw; (try dsimp only at hSw); go_simp; try with_reducible rfl)
    (try simp only [Act.put, List.setIfInBounds_toArray, List.set_cons_zero, List.set_cons_succ])
    refine wpAnyH_take (i := 3) (oi := ?_) (v := ?_) ?_ ?_ ?_ ?_ ?_ ?_ (by exact hHeld) ?_
    rotate_left 2
    · (simp only [List.getElem?_toArray, List.getElem?_cons_zero, List.getElem?_cons_succ]; try rfl)
    · kernel_rfl
    · kernel_rfl
    · kernel_rfl
    · exact fun _ _ _ h => h
    · refine Or.inl ⟨by rfl, ?_⟩
      (intro w hSw; (try dsimp only at hSw); go_simp; try with_reducible rfl)
    (try simp only [Act.put, List.setIfInBounds_toArray, List.set_cons_zero, List.set_cons_succ])
    generalize w7.drew = Y0 at *
    refine wpAnyH_ready (rs := [1, 5, 6]) (by kernel_rfl) (by simp) ?_
    refine AllReadyH.cons (o := ?_) ?_ (fun K hK => ?_) ?_
    rotate_left 1
    · (simp only [List.getElem?_toArray, List.getElem?_cons_zero, List.getElem?_cons_succ]; try rfl)
    · have HE1 := Lib.hid (HE0.out.k1)
      go_simp
      refine (cutOut_any 0 a _).mono ?_
      rintro e w' ⟨rfl, rfl⟩
      go_wp2_with fail
      generalize (Y0.alloc (.cells #[.int .i64 0] 3)).alloc (.cells #[.int .i64 a] 3) = Y1 at *
      refine hK.out _ _ ⟨(HE1.out.bel.cell (p := ⟨w.heap.size + 1, 0, none⟩) hlT).trans kT7, (HE1.out.bel.cell (p := ⟨w.heap.size + 1 + 1 + 1, 0, none⟩) hlE).trans kE7⟩ (fun hHeld => ?_)
      clear hK K
      (try simp only [Act.put, List.setIfInBounds_toArray, List.set_cons_zero, List.set_cons_succ])
      refine wpAnyH_ready (rs := [4, 5, 6]) (by kernel_rfl) (by simp) ?_
      refine AllReadyH.cons (o := ?_) ?_ (fun K hK => ?_) ?_
      rotate_left 1
      · (simp only [List.getElem?_toArray, List.getElem?_cons_zero, List.getElem?_cons_succ]; try rfl)
      · have HE2 := Lib.hid (HE1.out.k2)
        go_simp
        refine (cutOut_any b N _).mono ?_
        rintro e w' ⟨rfl, rfl⟩
        go_wp2_with fail
        generalize (Y1.alloc (.cells #[.int .i64 b] 3)).alloc (.cells #[.int .i64 N] 3) = Y2 at *
        refine hK.out _ _ ⟨(HE2.out.bel.cell (p := ⟨w.heap.size + 1, 0, none⟩) hlT).trans kT7, (HE2.out.bel.cell (p := ⟨w.heap.size + 1 + 1 + 1, 0, none⟩) hlE).trans kE7⟩ (fun hHeld => ?_)
        clear hK K
        (try simp only [Act.put, List.setIfInBounds_toArray, List.set_cons_zero, List.set_cons_succ])
        refine wpAnyH_ready (rs := [5, 6]) (by kernel_rfl) (by simp) ?_
        refine AllReadyH.cons (o := ?_) ?_ (fun K hK => ?_) ?_
        rotate_left 1
        · (simp only [List.getElem?_toArray, List.getElem?_cons_zero, List.getElem?_cons_succ]; try rfl)
        · have HE3 := Lib.hid (HE2.out.a12 .nilFunc)
          go_simp
          generalize Y2.alloc (.cells #[.nilFunc] 67) = Y3 at *
          refine hK.out _ _ ⟨(HE3.out.bel.cell (p := ⟨w.heap.size + 1, 0, none⟩) hlT).trans kT7, (HE3.out.bel.cell (p := ⟨w.heap.size + 1 + 1 + 1, 0, none⟩) hlE).trans kE7⟩ (fun hHeld => ?_)
          clear hK K
          (try simp only [Act.put, List.setIfInBounds_toArray, List.set_cons_zero, List.set_cons_succ])
          refine wpAnyH_ready (rs := [6]) (by kernel_rfl) (by simp) ?_
          refine AllReadyH.cons (o := ?_) ?_ (fun K hK => ?_) AllReadyH.nil
          rotate_left 1
          · (simp only [List.getElem?_toArray, List.getElem?_cons_zero, List.getElem?_cons_succ]; try rfl)
          have HE4 := Lib.hid (HE3.out.a13 .nilFunc)
          go_simp
          generalize Y3.alloc (.cells #[.nilFunc] 67) = Y4 at *
          refine hK.out _ _ ⟨(HE4.out.bel.cell (p := ⟨w.heap.size + 1, 0, none⟩) hlT).trans kT7, (HE4.out.bel.cell (p := ⟨w.heap.size + 1 + 1 + 1, 0, none⟩) hlE).trans kE7⟩ (fun hHeld => ?_)
          clear hK K
          (try simp only [Act.put, List.setIfInBounds_toArray, List.set_cons_zero, List.set_cons_succ])
          refine wpAnyH_ready (rs := [7]) (by kernel_rfl) (by simp) ?_
          refine AllReadyH.cons (o := ?_) ?_ (fun K hK => ?_) AllReadyH.nil
          rotate_left 1
          · (simp only [List.getElem?_toArray, List.getElem?_cons_zero, List.getElem?_cons_succ]; try rfl)
          have HE5 := Lib.hid (HE4.out.s12 (cutFn (Y0.heap.size) (Y0.heap.size + 1)))
          have qc := HE4.out.x12.1.cell
          have qf := HE4.out.x12.1.frozen
          simp only [cutFn] at HE5 qc qf
          go_simp
          clear qc qf
          generalize Y4.setCell ⟨Y2.heap.size, 0, none⟩ (.func (.func 63) #[] #[.pointer (some ⟨Y0.heap.size, 0, none⟩), .pointer (some ⟨Y0.heap.size + 1, 0, none⟩)]) = Y5 at *
          refine hK.out _ _ ⟨(HE5.out.bel.cell (p := ⟨w.heap.size + 1, 0, none⟩) hlT).trans kT7, (HE5.out.bel.cell (p := ⟨w.heap.size + 1 + 1 + 1, 0, none⟩) hlE).trans kE7⟩ (fun hHeld => ?_)
          clear hK K
          (try simp only [Act.put, List.setIfInBounds_toArray, List.set_cons_zero, List.set_cons_succ])
          refine wpAnyH_ready (rs := [8]) (by kernel_rfl) (by simp) ?_
          refine AllReadyH.cons (o := ?_) ?_ (fun K hK => ?_) AllReadyH.nil
          rotate_left 1
          · (simp only [List.getElem?_toArray, List.getElem?_cons_zero, List.getElem?_cons_succ]; try rfl)
          have HE6 := Lib.hid (HE5.out.s13 (cutFn (Y1.heap.size) (Y1.heap.size + 1)))
          have qc := HE5.out.x13.1.cell
          have qf := HE5.out.x13.1.frozen
          simp only [cutFn] at HE6 qc qf
          go_simp
          clear qc qf
          generalize Y5.setCell ⟨Y3.heap.size, 0, none⟩ (.func (.func 63) #[] #[.pointer (some ⟨Y1.heap.size, 0, none⟩), .pointer (some ⟨Y1.heap.size + 1, 0, none⟩)]) = Y6 at *
          refine hK.out _ _ ⟨(HE6.out.bel.cell (p := ⟨w.heap.size + 1, 0, none⟩) hlT).trans kT7, (HE6.out.bel.cell (p := ⟨w.heap.size + 1 + 1 + 1, 0, none⟩) hlE).trans kE7⟩ (fun hHeld => ?_)
          clear hK K
          (try simp only [Act.put, List.setIfInBounds_toArray, List.set_cons_zero, List.set_cons_succ])
          refine wpAnyH_done (by kernel_rfl) ?_ _
          refine NoPanic.normal ?_
          go_wp2_with fail
          go_meet
          exact ⟨_, _, (Y0.heap.size, Y0.heap.size + 1), (Y1.heap.size, Y1.heap.size + 1), rfl, rfl, rfl, HE6.out⟩
        refine AllReadyH.cons (o := ?_) ?_ (fun K hK => ?_) AllReadyH.nil
        rotate_left 1
        · (simp only [List.getElem?_toArray, List.getElem?_cons_zero, List.getElem?_cons_succ]; try rfl)
        have HE7 := Lib.hid (HE2.out.a13 .nilFunc)
        go_simp
        generalize Y2.alloc (.cells #[.nilFunc] 67) = Y7 at *
        refine hK.out _ _ ⟨(HE7.out.bel.cell (p := ⟨w.heap.size + 1, 0, none⟩) hlT).trans kT7, (HE7.out.bel.cell (p := ⟨w.heap.size + 1 + 1 + 1, 0, none⟩) hlE).trans kE7⟩ (fun hHeld => ?_)
        clear hK K
        (try simp only [Act.put, List.setIfInBounds_toArray, List.set_cons_zero, List.set_cons_succ])
        refine wpAnyH_ready (rs := [5]) (by kernel_rfl) (by simp) ?_
        refine AllReadyH.cons (o := ?_) ?_ (fun K hK => ?_) AllReadyH.nil
        rotate_left 1
        · (simp only [List.getElem?_toArray, List.getElem?_cons_zero, List.getElem?_cons_succ]; try rfl)
        have HE8 := Lib.hid (HE7.out.a12 .nilFunc)
        go_simp
        generalize Y7.alloc (.cells #[.nilFunc] 67) = Y8 at *
        refine hK.out _ _ ⟨(HE8.out.bel.cell (p := ⟨w.heap.size + 1, 0, none⟩) hlT).trans kT7, (HE8.out.bel.cell (p := ⟨w.heap.size + 1 + 1 + 1, 0, none⟩) hlE).trans kE7⟩ (fun hHeld => ?_)
        clear hK K
        (try simp only [Act.put, List.setIfInBounds_toArray, List.set_cons_zero, List.set_cons_succ])
        refine wpAnyH_ready (rs := [7]) (by kernel_rfl) (by simp) ?_
        refine AllReadyH.cons (o := ?_) ?_ (fun K hK => ?_) AllReadyH.nil
        rotate_left 1
        · (simp only [List.getElem?_toArray, List.getElem?_cons_zero, List.getElem?_cons_succ]; try rfl)
        have HE9 := Lib.hid (HE8.out.s12 (cutFn (Y0.heap.size) (Y0.heap.size + 1)))
        have qc := HE8.out.x12.1.cell
        have qf := HE8.out.x12.1.frozen
        simp only [cutFn] at HE9 qc qf
        go_simp
        clear qc qf
        generalize Y8.setCell ⟨Y7.heap.size, 0, none⟩ (.func (.func 63) #[] #[.pointer (some ⟨Y0.heap.size, 0, none⟩), .pointer (some ⟨Y0.heap.size + 1, 0, none⟩)]) = Y9 at *
        refine hK.out _ _ ⟨(HE9.out.bel.cell (p := ⟨w.heap.size + 1, 0, none⟩) hlT).trans kT7, (HE9.out.bel.cell (p := ⟨w.heap.size + 1 + 1 + 1, 0, none⟩) hlE).trans kE7⟩ (fun hHeld => ?_)
        clear hK K
        (try simp only [Act.put, List.setIfInBounds_toArray, List.set_cons_zero, List.set_cons_succ])
        refine wpAnyH_ready (rs := [8]) (by kernel_rfl) (by simp) ?_
        refine AllReadyH.cons (o := ?_) ?_ (fun K hK => ?_) AllReadyH.nil
        rotate_left 1
        · (simp only [List.getElem?_toArray, List.getElem?_cons_zero, List.getElem?_cons_succ]; try rfl)
        have HE10 := Lib.hid (HE9.out.s13 (cutFn (Y1.heap.size) (Y1.heap.size + 1)))
        have qc := HE9.out.x13.1.cell
        have qf := HE9.out.x13.1.frozen
        simp only [cutFn] at HE10 qc qf
        go_simp
        clear qc qf
        generalize Y9.setCell ⟨Y2.heap.size, 0, none⟩ (.func (.func 63) #[] #[.pointer (some ⟨Y1.heap.size, 0, none⟩), .pointer (some ⟨Y1.heap.size + 1, 0, none⟩)]) = Y10 at *
        refine hK.out _ _ ⟨(HE10.out.bel.cell (p := ⟨w.heap.size + 1, 0, none⟩) hlT).trans kT7, (HE10.out.bel.cell (p := ⟨w.heap.size + 1 + 1 + 1, 0, none⟩) hlE).trans kE7⟩ (fun hHeld => ?_)
        clear hK K
        (try simp only [Act.put, List.setIfInBounds_toArray, List.set_cons_zero, List.set_cons_succ])
        refine wpAnyH_done (by kernel_rfl) ?_ _
        refine NoPanic.normal ?_
        go_wp2_with fail
        go_meet
        exact ⟨_, _, (Y0.heap.size, Y0.heap.size + 1), (Y1.heap.size, Y1.heap.size + 1), rfl, rfl, rfl, HE10.out⟩
      refine AllReadyH.cons (o := ?_) ?_ (fun K hK => ?_) ?_
      rotate_left 1
      · (simp only [List.getElem?_toArray, List.getElem?_cons_zero, List.getElem?_cons_succ]; try rfl)
      · have HE11 := Lib.hid (HE1.out.a12 .nilFunc)
        go_simp
        generalize Y1.alloc (.cells #[.nilFunc] 67) = Y11 at *
        refine hK.out _ _ ⟨(HE11.out.bel.cell (p := ⟨w.heap.size + 1, 0, none⟩) hlT).trans kT7, (HE11.out.bel.cell (p := ⟨w.heap.size + 1 + 1 + 1, 0, none⟩) hlE).trans kE7⟩ (fun hHeld => ?_)
        clear hK K
        (try simp only [Act.put, List.setIfInBounds_toArray, List.set_cons_zero, List.set_cons_succ])
        refine wpAnyH_ready (rs := [4, 6]) (by kernel_rfl) (by simp) ?_
        refine AllReadyH.cons (o := ?_) ?_ (fun K hK => ?_) ?_
        rotate_left 1
        · (simp only [List.getElem?_toArray, List.getElem?_cons_zero, List.getElem?_cons_succ]; try rfl)
        · have HE12 := Lib.hid (HE11.out.k2)
          go_simp
          refine (cutOut_any b N _).mono ?_
          rintro e w' ⟨rfl, rfl⟩
          go_wp2_with fail
          generalize (Y11.alloc (.cells #[.int .i64 b] 3)).alloc (.cells #[.int .i64 N] 3) = Y12 at *
          refine hK.out _ _ ⟨(HE12.out.bel.cell (p := ⟨w.heap.size + 1, 0, none⟩) hlT).trans kT7, (HE12.out.bel.cell (p := ⟨w.heap.size + 1 + 1 + 1, 0, none⟩) hlE).trans kE7⟩ (fun hHeld => ?_)
          clear hK K
          (try simp only [Act.put, List.setIfInBounds_toArray, List.set_cons_zero, List.set_cons_succ])
          refine wpAnyH_ready (rs := [6]) (by kernel_rfl) (by simp) ?_
          refine AllReadyH.cons (o := ?_) ?_ (fun K hK => ?_) AllReadyH.nil
          rotate_left 1
          · (simp only [List.getElem?_toArray, List.getElem?_cons_zero, List.getElem?_cons_succ]; try rfl)
          have HE13 := Lib.hid (HE12.out.a13 .nilFunc)
          go_simp
          generalize Y12.alloc (.cells #[.nilFunc] 67) = Y13 at *
          refine hK.out _ _ ⟨(HE13.out.bel.cell (p := ⟨w.heap.size + 1, 0, none⟩) hlT).trans kT7, (HE13.out.bel.cell (p := ⟨w.heap.size + 1 + 1 + 1, 0, none⟩) hlE).trans kE7⟩ (fun hHeld => ?_)
          clear hK K
          (try simp only [Act.put, List.setIfInBounds_toArray, List.set_cons_zero, List.set_cons_succ])
          refine wpAnyH_ready (rs := [7]) (by kernel_rfl) (by simp) ?_
          refine AllReadyH.cons (o := ?_) ?_ (fun K hK => ?_) AllReadyH.nil
          rotate_left 1
          · (simp only [List.getElem?_toArray, List.getElem?_cons_zero, List.getElem?_cons_succ]; try rfl)
          have HE14 := Lib.hid (HE13.out.s12 (cutFn (Y0.heap.size) (Y0.heap.size + 1)))
          have qc := HE13.out.x12.1.cell
          have qf := HE13.out.x12.1.frozen
          simp only [cutFn] at HE14 qc qf
          go_simp
          clear qc qf
          generalize Y13.setCell ⟨Y1.heap.size, 0, none⟩ (.func (.func 63) #[] #[.pointer (some ⟨Y0.heap.size, 0, none⟩), .pointer (some ⟨Y0.heap.size + 1, 0, none⟩)]) = Y14 at *
          refine hK.out _ _ ⟨(HE14.out.bel.cell (p := ⟨w.heap.size + 1, 0, none⟩) hlT).trans kT7, (HE14.out.bel.cell (p := ⟨w.heap.size + 1 + 1 + 1, 0, none⟩) hlE).trans kE7⟩ (fun hHeld => ?_)
          clear hK K
          (try simp only [Act.put, List.setIfInBounds_toArray, List.set_cons_zero, List.set_cons_succ])
          refine wpAnyH_ready (rs := [8]) (by kernel_rfl) (by simp) ?_
          refine AllReadyH.cons (o := ?_) ?_ (fun K hK => ?_) AllReadyH.nil
          rotate_left 1
          · (simp only [List.getElem?_toArray, List.getElem?_cons_zero, List.getElem?_cons_succ]; try rfl)
          have HE15 := Lib.hid (HE14.out.s13 (cutFn (Y11.heap.size) (Y11.heap.size + 1)))
          have qc := HE14.out.x13.1.cell
          have qf := HE14.out.x13.1.frozen
          simp only [cutFn] at HE15 qc qf
          go_simp
          clear qc qf
          generalize Y14.setCell ⟨Y12.heap.size, 0, none⟩ (.func (.func 63) #[] #[.pointer (some ⟨Y11.heap.size, 0, none⟩), .pointer (some ⟨Y11.heap.size + 1, 0, none⟩)]) = Y15 at *
          refine hK.out _ _ ⟨(HE15.out.bel.cell (p := ⟨w.heap.size + 1, 0, none⟩) hlT).trans kT7, (HE15.out.bel.cell (p := ⟨w.heap.size + 1 + 1 + 1, 0, none⟩) hlE).trans kE7⟩ (fun hHeld => ?_)
          clear hK K
          (try simp only [Act.put, List.setIfInBounds_toArray, List.set_cons_zero, List.set_cons_succ])
          refine wpAnyH_done (by kernel_rfl) ?_ _
          refine NoPanic.normal ?_
          go_wp2_with fail
          go_meet
          exact ⟨_, _, (Y0.heap.size, Y0.heap.size + 1), (Y11.heap.size, Y11.heap.size + 1), rfl, rfl, rfl, HE15.out⟩
        refine AllReadyH.cons (o := ?_) ?_ (fun K hK => ?_) AllReadyH.nil
        rotate_left 1
        · (simp only [List.getElem?_toArray, List.getElem?_cons_zero, List.getElem?_cons_succ]; try rfl)
        have HE16 := Lib.hid (HE11.out.a13 .nilFunc)
        go_simp
        generalize Y11.alloc (.cells #[.nilFunc] 67) = Y16 at *
        refine hK.out _ _ ⟨(HE16.out.bel.cell (p := ⟨w.heap.size + 1, 0, none⟩) hlT).trans kT7, (HE16.out.bel.cell (p := ⟨w.heap.size + 1 + 1 + 1, 0, none⟩) hlE).trans kE7⟩ (fun hHeld => ?_)
        clear hK K
        (try simp only [Act.put, List.setIfInBounds_toArray, List.set_cons_zero, List.set_cons_succ])
        refine wpAnyH_ready (rs := [4]) (by kernel_rfl) (by simp) ?_
        refine AllReadyH.cons (o := ?_) ?_ (fun K hK => ?_) AllReadyH.nil
        rotate_left 1
        · (simp only [List.getElem?_toArray, List.getElem?_cons_zero, List.getElem?_cons_succ]; try rfl)
        have HE17 := Lib.hid (HE16.out.k2)
        go_simp
        refine (cutOut_any b N _).mono ?_
        rintro e w' ⟨rfl, rfl⟩
        go_wp2_with fail
        generalize (Y16.alloc (.cells #[.int .i64 b] 3)).alloc (.cells #[.int .i64 N] 3) = Y17 at *
        refine hK.out _ _ ⟨(HE17.out.bel.cell (p := ⟨w.heap.size + 1, 0, none⟩) hlT).trans kT7, (HE17.out.bel.cell (p := ⟨w.heap.size + 1 + 1 + 1, 0, none⟩) hlE).trans kE7⟩ (fun hHeld => ?_)
        clear hK K
        (try simp only [Act.put, List.setIfInBounds_toArray, List.set_cons_zero, List.set_cons_succ])
        refine wpAnyH_ready (rs := [7]) (by kernel_rfl) (by simp) ?_
        refine AllReadyH.cons (o := ?_) ?_ (fun K hK => ?_) AllReadyH.nil
        rotate_left 1
        · (simp only [List.getElem?_toArray, List.getElem?_cons_zero, List.getElem?_cons_succ]; try rfl)
        have HE18 := Lib.hid (HE17.out.s12 (cutFn (Y0.heap.size) (Y0.heap.size + 1)))
        have qc := HE17.out.x12.1.cell
        have qf := HE17.out.x12.1.frozen
        simp only [cutFn] at HE18 qc qf
        go_simp
        clear qc qf
        generalize Y17.setCell ⟨Y1.heap.size, 0, none⟩ (.func (.func 63) #[] #[.pointer (some ⟨Y0.heap.size, 0, none⟩), .pointer (some ⟨Y0.heap.size + 1, 0, none⟩)]) = Y18 at *
        refine hK.out _ _ ⟨(HE18.out.bel.cell (p := ⟨w.heap.size + 1, 0, none⟩) hlT).trans kT7, (HE18.out.bel.cell (p := ⟨w.heap.size + 1 + 1 + 1, 0, none⟩) hlE).trans kE7⟩ (fun hHeld => ?_)
        clear hK K
        (try simp only [Act.put, List.setIfInBounds_toArray, List.set_cons_zero, List.set_cons_succ])
        refine wpAnyH_ready (rs := [8]) (by kernel_rfl) (by simp) ?_
        refine AllReadyH.cons (o := ?_) ?_ (fun K hK => ?_) AllReadyH.nil
        rotate_left 1
        · (simp only [List.getElem?_toArray, List.getElem?_cons_zero, List.getElem?_cons_succ]; try rfl)
        have HE19 := Lib.hid (HE18.out.s13 (cutFn (Y16.heap.size) (Y16.heap.size + 1)))
        have qc := HE18.out.x13.1.cell
        have qf := HE18.out.x13.1.frozen
        simp only [cutFn] at HE19 qc qf
        go_simp
        clear qc qf
        generalize Y18.setCell ⟨Y11.heap.size, 0, none⟩ (.func (.func 63) #[] #[.pointer (some ⟨Y16.heap.size, 0, none⟩), .pointer (some ⟨Y16.heap.size + 1, 0, none⟩)]) = Y19 at *
        refine hK.out _ _ ⟨(HE19.out.bel.cell (p := ⟨w.heap.size + 1, 0, none⟩) hlT).trans kT7, (HE19.out.bel.cell (p := ⟨w.heap.size + 1 + 1 + 1, 0, none⟩) hlE).trans kE7⟩ (fun hHeld => ?_)
        clear hK K
        (try simp only [Act.put, List.setIfInBounds_toArray, List.set_cons_zero, List.set_cons_succ])
        refine wpAnyH_done (by kernel_rfl) ?_ _
        refine NoPanic.normal ?_
        go_wp2_with fail
        go_meet
        exact ⟨_, _, (Y0.heap.size, Y0.heap.size + 1), (Y16.heap.size, Y16.heap.size + 1), rfl, rfl, rfl, HE19.out⟩
      refine AllReadyH.cons (o := ?_) ?_ (fun K hK => ?_) AllReadyH.nil
      rotate_left 1
      · (simp only [List.getElem?_toArray, List.getElem?_cons_zero, List.getElem?_cons_succ]; try rfl)
      have HE20 := Lib.hid (HE1.out.a13 .nilFunc)
      go_simp
      generalize Y1.alloc (.cells #[.nilFunc] 67) = Y20 at *
      refine hK.out _ _ ⟨(HE20.out.bel.cell (p := ⟨w.heap.size + 1, 0, none⟩) hlT).trans kT7, (HE20.out.bel.cell (p := ⟨w.heap.size + 1 + 1 + 1, 0, none⟩) hlE).trans kE7⟩ (fun hHeld => ?_)
      clear hK K
      (try simp only [Act.put, List.setIfInBounds_toArray, List.set_cons_zero, List.set_cons_succ])
      refine wpAnyH_ready (rs := [4, 5]) (by kernel_rfl) (by simp) ?_
      refine AllReadyH.cons (o := ?_) ?_ (fun K hK => ?_) ?_
      rotate_left 1
      · (simp only [List.getElem?_toArray, List.getElem?_cons_zero, List.getElem?_cons_succ]; try rfl)
      · have HE21 := Lib.hid (HE20.out.k2)
        go_simp
        refine (cutOut_any b N _).mono ?_
        rintro e w' ⟨rfl, rfl⟩
        go_wp2_with fail
        generalize (Y20.alloc (.cells #[.int .i64 b] 3)).alloc (.cells #[.int .i64 N] 3) = Y21 at *
        refine hK.out _ _ ⟨(HE21.out.bel.cell (p := ⟨w.heap.size + 1, 0, none⟩) hlT).trans kT7, (HE21.out.bel.cell (p := ⟨w.heap.size + 1 + 1 + 1, 0, none⟩) hlE).trans kE7⟩ (fun hHeld => ?_)
        clear hK K
        (try simp only [Act.put, List.setIfInBounds_toArray, List.set_cons_zero, List.set_cons_succ])
        refine wpAnyH_ready (rs := [5]) (by kernel_rfl) (by simp) ?_
        refine AllReadyH.cons (o := ?_) ?_ (fun K hK => ?_) AllReadyH.nil
        rotate_left 1
        · (simp only [List.getElem?_toArray, List.getElem?_cons_zero, List.getElem?_cons_succ]; try rfl)
        have HE22 := Lib.hid (HE21.out.a12 .nilFunc)
        go_simp
        generalize Y21.alloc (.cells #[.nilFunc] 67) = Y22 at *
        refine hK.out _ _ ⟨(HE22.out.bel.cell (p := ⟨w.heap.size + 1, 0, none⟩) hlT).trans kT7, (HE22.out.bel.cell (p := ⟨w.heap.size + 1 + 1 + 1, 0, none⟩) hlE).trans kE7⟩ (fun hHeld => ?_)
        clear hK K
        (try simp only [Act.put, List.setIfInBounds_toArray, List.set_cons_zero, List.set_cons_succ])
        refine wpAnyH_ready (rs := [7]) (by kernel_rfl) (by simp) ?_
        refine AllReadyH.cons (o := ?_) ?_ (fun K hK => ?_) AllReadyH.nil
        rotate_left 1
        · (simp only [List.getElem?_toArray, List.getElem?_cons_zero, List.getElem?_cons_succ]; try rfl)
        have HE23 := Lib.hid (HE22.out.s12 (cutFn (Y0.heap.size) (Y0.heap.size + 1)))
        have qc := HE22.out.x12.1.cell
        have qf := HE22.out.x12.1.frozen
        simp only [cutFn] at HE23 qc qf
        go_simp
        clear qc qf
        generalize Y22.setCell ⟨Y21.heap.size, 0, none⟩ (.func (.func 63) #[] #[.pointer (some ⟨Y0.heap.size, 0, none⟩), .pointer (some ⟨Y0.heap.size + 1, 0, none⟩)]) = Y23 at *
        refine hK.out _ _ ⟨(HE23.out.bel.cell (p := ⟨w.heap.size + 1, 0, none⟩) hlT).trans kT7, (HE23.out.bel.cell (p := ⟨w.heap.size + 1 + 1 + 1, 0, none⟩) hlE).trans kE7⟩ (fun hHeld => ?_)
        clear hK K
        (try simp only [Act.put, List.setIfInBounds_toArray, List.set_cons_zero, List.set_cons_succ])
        refine wpAnyH_ready (rs := [8]) (by kernel_rfl) (by simp) ?_
        refine AllReadyH.cons (o := ?_) ?_ (fun K hK => ?_) AllReadyH.nil
        rotate_left 1
        · (simp only [List.getElem?_toArray, List.getElem?_cons_zero, List.getElem?_cons_succ]; try rfl)
        have HE24 := Lib.hid (HE23.out.s13 (cutFn (Y20.heap.size) (Y20.heap.size + 1)))
        have qc := HE23.out.x13.1.cell
        have qf := HE23.out.x13.1.frozen
        simp only [cutFn] at HE24 qc qf
        go_simp
        clear qc qf
        generalize Y23.setCell ⟨Y1.heap.size, 0, none⟩ (.func (.func 63) #[] #[.pointer (some ⟨Y20.heap.size, 0, none⟩), .pointer (some ⟨Y20.heap.size + 1, 0, none⟩)]) = Y24 at *
        refine hK.out _ _ ⟨(HE24.out.bel.cell (p := ⟨w.heap.size + 1, 0, none⟩) hlT).trans kT7, (HE24.out.bel.cell (p := ⟨w.heap.size + 1 + 1 + 1, 0, none⟩) hlE).trans kE7⟩ (fun hHeld => ?_)
        clear hK K
        (try simp only [Act.put, List.setIfInBounds_toArray, List.set_cons_zero, List.set_cons_succ])
        refine wpAnyH_done (by kernel_rfl) ?_ _
        refine NoPanic.normal ?_
        go_wp2_with fail
        go_meet
        exact ⟨_, _, (Y0.heap.size, Y0.heap.size + 1), (Y20.heap.size, Y20.heap.size + 1), rfl, rfl, rfl, HE24.out⟩
      refine AllReadyH.cons (o := ?_) ?_ (fun K hK => ?_) AllReadyH.nil
      rotate_left 1
      · (simp only [List.getElem?_toArray, List.getElem?_cons_zero, List.getElem?_cons_succ]; try rfl)
      have HE25 := Lib.hid (HE20.out.a12 .nilFunc)
      go_simp
      generalize Y20.alloc (.cells #[.nilFunc] 67) = Y25 at *
      refine hK.out _ _ ⟨(HE25.out.bel.cell (p := ⟨w.heap.size + 1, 0, none⟩) hlT).trans kT7, (HE25.out.bel.cell (p := ⟨w.heap.size + 1 + 1 + 1, 0, none⟩) hlE).trans kE7⟩ (fun hHeld => ?_)
      clear hK K
      (try simp only [Act.put, List.setIfInBounds_toArray, List.set_cons_zero, List.set_cons_succ])
      refine wpAnyH_ready (rs := [4]) (by kernel_rfl) (by simp) ?_
      refine AllReadyH.cons (o := ?_) ?_ (fun K hK => ?_) AllReadyH.nil
      rotate_left 1
      · (simp only [List.getElem?_toArray, List.getElem?_cons_zero, List.getElem?_cons_succ]; try rfl)
      have HE26 := Lib.hid (HE25.out.k2)
      go_simp
      refine (cutOut_any b N _).mono ?_
      rintro e w' ⟨rfl, rfl⟩
      go_wp2_with fail
      generalize (Y25.alloc (.cells #[.int .i64 b] 3)).alloc (.cells #[.int .i64 N] 3) = Y26 at *
      refine hK.out _ _ ⟨(HE26.out.bel.cell (p := ⟨w.heap.size + 1, 0, none⟩) hlT).trans kT7, (HE26.out.bel.cell (p := ⟨w.heap.size + 1 + 1 + 1, 0, none⟩) hlE).trans kE7⟩ (fun hHeld => ?_)
      clear hK K
      (try simp only [Act.put, List.setIfInBounds_toArray, List.set_cons_zero, List.set_cons_succ])
      refine wpAnyH_ready (rs := [7]) (by kernel_rfl) (by simp) ?_
      refine AllReadyH.cons (o := ?_) ?_ (fun K hK => ?_) AllReadyH.nil
      rotate_left 1
      · (simp only [List.getElem?_toArray, List.getElem?_cons_zero, List.getElem?_cons_succ]; try rfl)
      have HE27 := Lib.hid (HE26.out.s12 (cutFn (Y0.heap.size) (Y0.heap.size + 1)))
      have qc := HE26.out.x12.1.cell
      have qf := HE26.out.x12.1.frozen
      simp only [cutFn] at HE27 qc qf
      go_simp
      clear qc qf
      generalize Y26.setCell ⟨Y20.heap.size, 0, none⟩ (.func (.func 63) #[] #[.pointer (some ⟨Y0.heap.size, 0, none⟩), .pointer (some ⟨Y0.heap.size + 1, 0, none⟩)]) = Y27 at *
      refine hK.out _ _ ⟨(HE27.out.bel.cell (p := ⟨w.heap.size + 1, 0, none⟩) hlT).trans kT7, (HE27.out.bel.cell (p := ⟨w.heap.size + 1 + 1 + 1, 0, none⟩) hlE).trans kE7⟩ (fun hHeld => ?_)
      clear hK K
      (try simp only [Act.put, List.setIfInBounds_toArray, List.set_cons_zero, List.set_cons_succ])
      refine wpAnyH_ready (rs := [8]) (by kernel_rfl) (by simp) ?_
      refine AllReadyH.cons (o := ?_) ?_ (fun K hK => ?_) AllReadyH.nil
      rotate_left 1
      · (simp only [List.getElem?_toArray, List.getElem?_cons_zero, List.getElem?_cons_succ]; try rfl)
      have HE28 := Lib.hid (HE27.out.s13 (cutFn (Y25.heap.size) (Y25.heap.size + 1)))
      have qc := HE27.out.x13.1.cell
      have qf := HE27.out.x13.1.frozen
      simp only [cutFn] at HE28 qc qf
      go_simp
      clear qc qf
      generalize Y27.setCell ⟨Y1.heap.size, 0, none⟩ (.func (.func 63) #[] #[.pointer (some ⟨Y25.heap.size, 0, none⟩), .pointer (some ⟨Y25.heap.size + 1, 0, none⟩)]) = Y28 at *
      refine hK.out _ _ ⟨(HE28.out.bel.cell (p := ⟨w.heap.size + 1, 0, none⟩) hlT).trans kT7, (HE28.out.bel.cell (p := ⟨w.heap.size + 1 + 1 + 1, 0, none⟩) hlE).trans kE7⟩ (fun hHeld => ?_)
      clear hK K
      (try simp only [Act.put, List.setIfInBounds_toArray, List.set_cons_zero, List.set_cons_succ])
      refine wpAnyH_done (by kernel_rfl) ?_ _
      refine NoPanic.normal ?_
      go_wp2_with fail
      go_meet
      exact ⟨_, _, (Y0.heap.size, Y0.heap.size + 1), (Y25.heap.size, Y25.heap.size + 1), rfl, rfl, rfl, HE28.out⟩
    refine AllReadyH.cons (o := ?_) ?_ (fun K hK => ?_) ?_
    rotate_left 1
    · (simp only [List.getElem?_toArray, List.getElem?_cons_zero, List.getElem?_cons_succ]; try rfl)
    · have HE29 := Lib.hid (HE0.out.a12 .nilFunc)
      go_simp
      generalize Y0.alloc (.cells #[.nilFunc] 67) = Y29 at *
      refine hK.out _ _ ⟨(HE29.out.bel.cell (p := ⟨w.heap.size + 1, 0, none⟩) hlT).trans kT7, (HE29.out.bel.cell (p := ⟨w.heap.size + 1 + 1 + 1, 0, none⟩) hlE).trans kE7⟩ (fun hHeld => ?_)
      clear hK K
      (try simp only [Act.put, List.setIfInBounds_toArray, List.set_cons_zero, List.set_cons_succ])
      refine wpAnyH_ready (rs := [1, 6]) (by kernel_rfl) (by simp) ?_
      refine AllReadyH.cons (o := ?_) ?_ (fun K hK => ?_) ?_
      rotate_left 1
      · (simp only [List.getElem?_toArray, List.getElem?_cons_zero, List.getElem?_cons_succ]; try rfl)
      · have HE30 := Lib.hid (HE29.out.k1)
        go_simp
        refine (cutOut_any 0 a _).mono ?_
        rintro e w' ⟨rfl, rfl⟩
        go_wp2_with fail
        generalize (Y29.alloc (.cells #[.int .i64 0] 3)).alloc (.cells #[.int .i64 a] 3) = Y30 at *
        refine hK.out _ _ ⟨(HE30.out.bel.cell (p := ⟨w.heap.size + 1, 0, none⟩) hlT).trans kT7, (HE30.out.bel.cell (p := ⟨w.heap.size + 1 + 1 + 1, 0, none⟩) hlE).trans kE7⟩ (fun hHeld => ?_)
        clear hK K
        (try simp only [Act.put, List.setIfInBounds_toArray, List.set_cons_zero, List.set_cons_succ])
        refine wpAnyH_ready (rs := [4, 6]) (by kernel_rfl) (by simp) ?_
        refine AllReadyH.cons (o := ?_) ?_ (fun K hK => ?_) ?_
        rotate_left 1
        · (simp only [List.getElem?_toArray, List.getElem?_cons_zero, List.getElem?_cons_succ]; try rfl)
        · have HE31 := Lib.hid (HE30.out.k2)
          go_simp
          refine (cutOut_any b N _).mono ?_
          rintro e w' ⟨rfl, rfl⟩
          go_wp2_with fail
          generalize (Y30.alloc (.cells #[.int .i64 b] 3)).alloc (.cells #[.int .i64 N] 3) = Y31 at *
          refine hK.out _ _ ⟨(HE31.out.bel.cell (p := ⟨w.heap.size + 1, 0, none⟩) hlT).trans kT7, (HE31.out.bel.cell (p := ⟨w.heap.size + 1 + 1 + 1, 0, none⟩) hlE).trans kE7⟩ (fun hHeld => ?_)
          clear hK K
          (try simp only [Act.put, List.setIfInBounds_toArray, List.set_cons_zero, List.set_cons_succ])
          refine wpAnyH_ready (rs := [6]) (by kernel_rfl) (by simp) ?_
          refine AllReadyH.cons (o := ?_) ?_ (fun K hK => ?_) AllReadyH.nil
          rotate_left 1
          · (simp only [List.getElem?_toArray, List.getElem?_cons_zero, List.getElem?_cons_succ]; try rfl)
          have HE32 := Lib.hid (HE31.out.a13 .nilFunc)
          go_simp
          generalize Y31.alloc (.cells #[.nilFunc] 67) = Y32 at *
          refine hK.out _ _ ⟨(HE32.out.bel.cell (p := ⟨w.heap.size + 1, 0, none⟩) hlT).trans kT7, (HE32.out.bel.cell (p := ⟨w.heap.size + 1 + 1 + 1, 0, none⟩) hlE).trans kE7⟩ (fun hHeld => ?_)
          clear hK K
          (try simp only [Act.put, List.setIfInBounds_toArray, List.set_cons_zero, List.set_cons_succ])
          refine wpAnyH_ready (rs := [7]) (by kernel_rfl) (by simp) ?_
          refine AllReadyH.cons (o := ?_) ?_ (fun K hK => ?_) AllReadyH.nil
          rotate_left 1
          · (simp only [List.getElem?_toArray, List.getElem?_cons_zero, List.getElem?_cons_succ]; try rfl)
          have HE33 := Lib.hid (HE32.out.s12 (cutFn (Y29.heap.size) (Y29.heap.size + 1)))
          have qc := HE32.out.x12.1.cell
          have qf := HE32.out.x12.1.frozen
          simp only [cutFn] at HE33 qc qf
          go_simp
          clear qc qf
          generalize Y32.setCell ⟨Y0.heap.size, 0, none⟩ (.func (.func 63) #[] #[.pointer (some ⟨Y29.heap.size, 0, none⟩), .pointer (some ⟨Y29.heap.size + 1, 0, none⟩)]) = Y33 at *
          refine hK.out _ _ ⟨(HE33.out.bel.cell (p := ⟨w.heap.size + 1, 0, none⟩) hlT).trans kT7, (HE33.out.bel.cell (p := ⟨w.heap.size + 1 + 1 + 1, 0, none⟩) hlE).trans kE7⟩ (fun hHeld => ?_)
          clear hK K
          (try simp only [Act.put, List.setIfInBounds_toArray, List.set_cons_zero, List.set_cons_succ])
          refine wpAnyH_ready (rs := [8]) (by kernel_rfl) (by simp) ?_
          refine AllReadyH.cons (o := ?_) ?_ (fun K hK => ?_) AllReadyH.nil
          rotate_left 1
          · (simp only [List.getElem?_toArray, List.getElem?_cons_zero, List.getElem?_cons_succ]; try rfl)
          have HE34 := Lib.hid (HE33.out.s13 (cutFn (Y30.heap.size) (Y30.heap.size + 1)))
          have qc := HE33.out.x13.1.cell
          have qf := HE33.out.x13.1.frozen
          simp only [cutFn] at HE34 qc qf
          go_simp
          clear qc qf
          generalize Y33.setCell ⟨Y31.heap.size, 0, none⟩ (.func (.func 63) #[] #[.pointer (some ⟨Y30.heap.size, 0, none⟩), .pointer (some ⟨Y30.heap.size + 1, 0, none⟩)]) = Y34 at *
          refine hK.out _ _ ⟨(HE34.out.bel.cell (p := ⟨w.heap.size + 1, 0, none⟩) hlT).trans kT7, (HE34.out.bel.cell (p := ⟨w.heap.size + 1 + 1 + 1, 0, none⟩) hlE).trans kE7⟩ (fun hHeld => ?_)
          clear hK K
          (try simp only [Act.put, List.setIfInBounds_toArray, List.set_cons_zero, List.set_cons_succ])
          refine wpAnyH_done (by kernel_rfl) ?_ _
          refine NoPanic.normal ?_
          go_wp2_with fail
          go_meet
          exact ⟨_, _, (Y29.heap.size, Y29.heap.size + 1), (Y30.heap.size, Y30.heap.size + 1), rfl, rfl, rfl, HE34.out⟩
        refine AllReadyH.cons (o := ?_) ?_ (fun K hK => ?_) AllReadyH.nil
        rotate_left 1
        · (simp only [List.getElem?_toArray, List.getElem?_cons_zero, List.getElem?_cons_succ]; try rfl)
        have HE35 := Lib.hid (HE30.out.a13 .nilFunc)
        go_simp
        generalize Y30.alloc (.cells #[.nilFunc] 67) = Y35 at *
        refine hK.out _ _ ⟨(HE35.out.bel.cell (p := ⟨w.heap.size + 1, 0, none⟩) hlT).trans kT7, (HE35.out.bel.cell (p := ⟨w.heap.size + 1 + 1 + 1, 0, none⟩) hlE).trans kE7⟩ (fun hHeld => ?_)
        clear hK K
        (try simp only [Act.put, List.setIfInBounds_toArray, List.set_cons_zero, List.set_cons_succ])
        refine wpAnyH_ready (rs := [4]) (by kernel_rfl) (by simp) ?_
        refine AllReadyH.cons (o := ?_) ?_ (fun K hK => ?_) AllReadyH.nil
        rotate_left 1
        · (simp only [List.getElem?_toArray, List.getElem?_cons_zero, List.getElem?_cons_succ]; try rfl)
        have HE36 := Lib.hid (HE35.out.k2)
        go_simp
        refine (cutOut_any b N _).mono ?_
        rintro e w' ⟨rfl, rfl⟩
        go_wp2_with fail
        generalize (Y35.alloc (.cells #[.int .i64 b] 3)).alloc (.cells #[.int .i64 N] 3) = Y36 at *
        refine hK.out _ _ ⟨(HE36.out.bel.cell (p := ⟨w.heap.size + 1, 0, none⟩) hlT).trans kT7, (HE36.out.bel.cell (p := ⟨w.heap.size + 1 + 1 + 1, 0, none⟩) hlE).trans kE7⟩ (fun hHeld => ?_)
        clear hK K
        (try simp only [Act.put, List.setIfInBounds_toArray, List.set_cons_zero, List.set_cons_succ])
        refine wpAnyH_ready (rs := [7]) (by kernel_rfl) (by simp) ?_
        refine AllReadyH.cons (o := ?_) ?_ (fun K hK => ?_) AllReadyH.nil
        rotate_left 1
        · (simp only [List.getElem?_toArray, List.getElem?_cons_zero, List.getElem?_cons_succ]; try rfl)
        have HE37 := Lib.hid (HE36.out.s12 (cutFn (Y29.heap.size) (Y29.heap.size + 1)))
        have qc := HE36.out.x12.1.cell
        have qf := HE36.out.x12.1.frozen
        simp only [cutFn] at HE37 qc qf
        go_simp
        clear qc qf
        generalize Y36.setCell ⟨Y0.heap.size, 0, none⟩ (.func (.func 63) #[] #[.pointer (some ⟨Y29.heap.size, 0, none⟩), .pointer (some ⟨Y29.heap.size + 1, 0, none⟩)]) = Y37 at *
        refine hK.out _ _ ⟨(HE37.out.bel.cell (p := ⟨w.heap.size + 1, 0, none⟩) hlT).trans kT7, (HE37.out.bel.cell (p := ⟨w.heap.size + 1 + 1 + 1, 0, none⟩) hlE).trans kE7⟩ (fun hHeld => ?_)
        clear hK K
        (try simp only [Act.put, List.setIfInBounds_toArray, List.set_cons_zero, List.set_cons_succ])
        refine wpAnyH_ready (rs := [8]) (by kernel_rfl) (by simp) ?_
        refine AllReadyH.cons (o := ?_) ?_ (fun K hK => ?_) AllReadyH.nil
        rotate_left 1
        · (simp only [List.getElem?_toArray, List.getElem?_cons_zero, List.getElem?_cons_succ]; try rfl)
        have HE38 := Lib.hid (HE37.out.s13 (cutFn (Y35.heap.size) (Y35.heap.size + 1)))
        have qc := HE37.out.x13.1.cell
        have qf := HE37.out.x13.1.frozen
        simp only [cutFn] at HE38 qc qf
        go_simp
        clear qc qf
        generalize Y37.setCell ⟨Y30.heap.size, 0, none⟩ (.func (.func 63) #[] #[.pointer (some ⟨Y35.heap.size, 0, none⟩), .pointer (some ⟨Y35.heap.size + 1, 0, none⟩)]) = Y38 at *
        refine hK.out _ _ ⟨(HE38.out.bel.cell (p := ⟨w.heap.size + 1, 0, none⟩) hlT).trans kT7, (HE38.out.bel.cell (p := ⟨w.heap.size + 1 + 1 + 1, 0, none⟩) hlE).trans kE7⟩ (fun hHeld => ?_)
        clear hK K
        (try simp only [Act.put, List.setIfInBounds_toArray, List.set_cons_zero, List.set_cons_succ])
        refine wpAnyH_done (by kernel_rfl) ?_ _
        refine NoPanic.normal ?_
        go_wp2_with fail
        go_meet
        exact ⟨_, _, (Y29.heap.size, Y29.heap.size + 1), (Y35.heap.size, Y35.heap.size + 1), rfl, rfl, rfl, HE38.out⟩
      refine AllReadyH.cons (o := ?_) ?_ (fun K hK => ?_) AllReadyH.nil
      rotate_left 1
      · (simp only [List.getElem?_toArray, List.getElem?_cons_zero, List.getElem?_cons_succ]; try rfl)
      have HE39 := Lib.hid (HE29.out.a13 .nilFunc)
      go_simp
      generalize Y29.alloc (.cells #[.nilFunc] 67) = Y39 at *
      refine hK.out _ _ ⟨(HE39.out.bel.cell (p := ⟨w.heap.size + 1, 0, none⟩) hlT).trans kT7, (HE39.out.bel.cell (p := ⟨w.heap.size + 1 + 1 + 1, 0, none⟩) hlE).trans kE7⟩ (fun hHeld => ?_)
      clear hK K
      (try simp only [Act.put, List.setIfInBounds_toArray, List.set_cons_zero, List.set_cons_succ])
      refine wpAnyH_ready (rs := [1]) (by kernel_rfl) (by simp) ?_
      refine AllReadyH.cons (o := ?_) ?_ (fun K hK => ?_) AllReadyH.nil
      rotate_left 1
      · (simp only [List.getElem?_toArray, List.getElem?_cons_zero, List.getElem?_cons_succ]; try rfl)
      have HE40 := Lib.hid (HE39.out.k1)
      go_simp
      refine (cutOut_any 0 a _).mono ?_
      rintro e w' ⟨rfl, rfl⟩
      go_wp2_with fail
      generalize (Y39.alloc (.cells #[.int .i64 0] 3)).alloc (.cells #[.int .i64 a] 3) = Y40 at *
      refine hK.out _ _ ⟨(HE40.out.bel.cell (p := ⟨w.heap.size + 1, 0, none⟩) hlT).trans kT7, (HE40.out.bel.cell (p := ⟨w.heap.size + 1 + 1 + 1, 0, none⟩) hlE).trans kE7⟩ (fun hHeld => ?_)
      clear hK K
      (try simp only [Act.put, List.setIfInBounds_toArray, List.set_cons_zero, List.set_cons_succ])
      refine wpAnyH_ready (rs := [4]) (by kernel_rfl) (by simp) ?_
      refine AllReadyH.cons (o := ?_) ?_ (fun K hK => ?_) AllReadyH.nil
      rotate_left 1
      · (simp only [List.getElem?_toArray, List.getElem?_cons_zero, List.getElem?_cons_succ]; try rfl)
      have HE41 := Lib.hid (HE40.out.k2)
      go_simp
      refine (cutOut_any b N _).mono ?_
      rintro e w' ⟨rfl, rfl⟩
      go_wp2_with fail
      generalize (Y40.alloc (.cells #[.int .i64 b] 3)).alloc (.cells #[.int .i64 N] 3) = Y41 at *
      refine hK.out _ _ ⟨(HE41.out.bel.cell (p := ⟨w.heap.size + 1, 0, none⟩) hlT).trans kT7, (HE41.out.bel.cell (p := ⟨w.heap.size + 1 + 1 + 1, 0, none⟩) hlE).trans kE7⟩ (fun hHeld => ?_)
      clear hK K
      (try simp only [Act.put, List.setIfInBounds_toArray, List.set_cons_zero, List.set_cons_succ])
      refine wpAnyH_ready (rs := [7]) (by kernel_rfl) (by simp) ?_
      refine AllReadyH.cons (o := ?_) ?_ (fun K hK => ?_) AllReadyH.nil
      rotate_left 1
      · (simp only [List.getElem?_toArray, List.getElem?_cons_zero, List.getElem?_cons_succ]; try rfl)
      have HE42 := Lib.hid (HE41.out.s12 (cutFn (Y39.heap.size) (Y39.heap.size + 1)))
      have qc := HE41.out.x12.1.cell
      have qf := HE41.out.x12.1.frozen
      simp only [cutFn] at HE42 qc qf
      go_simp
      clear qc qf
      generalize Y41.setCell ⟨Y0.heap.size, 0, none⟩ (.func (.func 63) #[] #[.pointer (some ⟨Y39.heap.size, 0, none⟩), .pointer (some ⟨Y39.heap.size + 1, 0, none⟩)]) = Y42 at *
      refine hK.out _ _ ⟨(HE42.out.bel.cell (p := ⟨w.heap.size + 1, 0, none⟩) hlT).trans kT7, (HE42.out.bel.cell (p := ⟨w.heap.size + 1 + 1 + 1, 0, none⟩) hlE).trans kE7⟩ (fun hHeld => ?_)
      clear hK K
      (try simp only [Act.put, List.setIfInBounds_toArray, List.set_cons_zero, List.set_cons_succ])
      refine wpAnyH_ready (rs := [8]) (by kernel_rfl) (by simp) ?_
      refine AllReadyH.cons (o := ?_) ?_ (fun K hK => ?_) AllReadyH.nil
      rotate_left 1
      · (simp only [List.getElem?_toArray, List.getElem?_cons_zero, List.getElem?_cons_succ]; try rfl)
      have HE43 := Lib.hid (HE42.out.s13 (cutFn (Y40.heap.size) (Y40.heap.size + 1)))
      have qc := HE42.out.x13.1.cell
      have qf := HE42.out.x13.1.frozen
      simp only [cutFn] at HE43 qc qf
      go_simp
      clear qc qf
      generalize Y42.setCell ⟨Y29.heap.size, 0, none⟩ (.func (.func 63) #[] #[.pointer (some ⟨Y40.heap.size, 0, none⟩), .pointer (some ⟨Y40.heap.size + 1, 0, none⟩)]) = Y43 at *
      refine hK.out _ _ ⟨(HE43.out.bel.cell (p := ⟨w.heap.size + 1, 0, none⟩) hlT).trans kT7, (HE43.out.bel.cell (p := ⟨w.heap.size + 1 + 1 + 1, 0, none⟩) hlE).trans kE7⟩ (fun hHeld => ?_)
      clear hK K
      (try simp only [Act.put, List.setIfInBounds_toArray, List.set_cons_zero, List.set_cons_succ])
      refine wpAnyH_done (by kernel_rfl) ?_ _
      refine NoPanic.normal ?_
      go_wp2_with fail
      go_meet
      exact ⟨_, _, (Y39.heap.size, Y39.heap.size + 1), (Y40.heap.size, Y40.heap.size + 1), rfl, rfl, rfl, HE43.out⟩
    refine AllReadyH.cons (o := ?_) ?_ (fun K hK => ?_) AllReadyH.nil
    rotate_left 1
    · (simp only [List.getElem?_toArray, List.getElem?_cons_zero, List.getElem?_cons_succ]; try rfl)
    have HE44 := Lib.hid (HE0.out.a13 .nilFunc)
    go_simp
    generalize Y0.alloc (.cells #[.nilFunc] 67) = Y44 at *
    refine hK.out _ _ ⟨(HE44.out.bel.cell (p := ⟨w.heap.size + 1, 0, none⟩) hlT).trans kT7, (HE44.out.bel.cell (p := ⟨w.heap.size + 1 + 1 + 1, 0, none⟩) hlE).trans kE7⟩ (fun hHeld => ?_)
    clear hK K
    (try simp only [Act.put, List.setIfInBounds_toArray, List.set_cons_zero, List.set_cons_succ])
    refine wpAnyH_ready (rs := [1, 5]) (by kernel_rfl) (by simp) ?_
    refine AllReadyH.cons (o := ?_) ?_ (fun K hK => ?_) ?_
    rotate_left 1
    · (simp only [List.getElem?_toArray, List.getElem?_cons_zero, List.getElem?_cons_succ]; try rfl)
    · have HE45 := Lib.hid (HE44.out.k1)
      go_simp
      refine (cutOut_any 0 a _).mono ?_
      rintro e w' ⟨rfl, rfl⟩
      go_wp2_with fail
      generalize (Y44.alloc (.cells #[.int .i64 0] 3)).alloc (.cells #[.int .i64 a] 3) = Y45 at *
      refine hK.out _ _ ⟨(HE45.out.bel.cell (p := ⟨w.heap.size + 1, 0, none⟩) hlT).trans kT7, (HE45.out.bel.cell (p := ⟨w.heap.size + 1 + 1 + 1, 0, none⟩) hlE).trans kE7⟩ (fun hHeld => ?_)
      clear hK K
      (try simp only [Act.put, List.setIfInBounds_toArray, List.set_cons_zero, List.set_cons_succ])
      refine wpAnyH_ready (rs := [4, 5]) (by kernel_rfl) (by simp) ?_
      refine AllReadyH.cons (o := ?_) ?_ (fun K hK => ?_) ?_
      rotate_left 1
      · (simp only [List.getElem?_toArray, List.getElem?_cons_zero, List.getElem?_cons_succ]; try rfl)
      · have HE46 := Lib.hid (HE45.out.k2)
        go_simp
        refine (cutOut_any b N _).mono ?_
        rintro e w' ⟨rfl, rfl⟩
        go_wp2_with fail
        generalize (Y45.alloc (.cells #[.int .i64 b] 3)).alloc (.cells #[.int .i64 N] 3) = Y46 at *
        refine hK.out _ _ ⟨(HE46.out.bel.cell (p := ⟨w.heap.size + 1, 0, none⟩) hlT).trans kT7, (HE46.out.bel.cell (p := ⟨w.heap.size + 1 + 1 + 1, 0, none⟩) hlE).trans kE7⟩ (fun hHeld => ?_)
        clear hK K
        (try simp only [Act.put, List.setIfInBounds_toArray, List.set_cons_zero, List.set_cons_succ])
        refine wpAnyH_ready (rs := [5]) (by kernel_rfl) (by simp) ?_
        refine AllReadyH.cons (o := ?_) ?_ (fun K hK => ?_) AllReadyH.nil
        rotate_left 1
        · (simp only [List.getElem?_toArray, List.getElem?_cons_zero, List.getElem?_cons_succ]; try rfl)
        have HE47 := Lib.hid (HE46.out.a12 .nilFunc)
        go_simp
        generalize Y46.alloc (.cells #[.nilFunc] 67) = Y47 at *
        refine hK.out _ _ ⟨(HE47.out.bel.cell (p := ⟨w.heap.size + 1, 0, none⟩) hlT).trans kT7, (HE47.out.bel.cell (p := ⟨w.heap.size + 1 + 1 + 1, 0, none⟩) hlE).trans kE7⟩ (fun hHeld => ?_)
        clear hK K
        (try simp only [Act.put, List.setIfInBounds_toArray, List.set_cons_zero, List.set_cons_succ])
        refine wpAnyH_ready (rs := [7]) (by kernel_rfl) (by simp) ?_
        refine AllReadyH.cons (o := ?_) ?_ (fun K hK => ?_) AllReadyH.nil
        rotate_left 1
        · (simp only [List.getElem?_toArray, List.getElem?_cons_zero, List.getElem?_cons_succ]; try rfl)
        have HE48 := Lib.hid (HE47.out.s12 (cutFn (Y44.heap.size) (Y44.heap.size + 1)))
        have qc := HE47.out.x12.1.cell
        have qf := HE47.out.x12.1.frozen
        simp only [cutFn] at HE48 qc qf
        go_simp
        clear qc qf
        generalize Y47.setCell ⟨Y46.heap.size, 0, none⟩ (.func (.func 63) #[] #[.pointer (some ⟨Y44.heap.size, 0, none⟩), .pointer (some ⟨Y44.heap.size + 1, 0, none⟩)]) = Y48 at *
        refine hK.out _ _ ⟨(HE48.out.bel.cell (p := ⟨w.heap.size + 1, 0, none⟩) hlT).trans kT7, (HE48.out.bel.cell (p := ⟨w.heap.size + 1 + 1 + 1, 0, none⟩) hlE).trans kE7⟩ (fun hHeld => ?_)
        clear hK K
        (try simp only [Act.put, List.setIfInBounds_toArray, List.set_cons_zero, List.set_cons_succ])
        refine wpAnyH_ready (rs := [8]) (by kernel_rfl) (by simp) ?_
        refine AllReadyH.cons (o := ?_) ?_ (fun K hK => ?_) AllReadyH.nil
        rotate_left 1
        · (simp only [List.getElem?_toArray, List.getElem?_cons_zero, List.getElem?_cons_succ]; try rfl)
        have HE49 := Lib.hid (HE48.out.s13 (cutFn (Y45.heap.size) (Y45.heap.size + 1)))
        have qc := HE48.out.x13.1.cell
        have qf := HE48.out.x13.1.frozen
        simp only [cutFn] at HE49 qc qf
        go_simp
        clear qc qf
        generalize Y48.setCell ⟨Y0.heap.size, 0, none⟩ (.func (.func 63) #[] #[.pointer (some ⟨Y45.heap.size, 0, none⟩), .pointer (some ⟨Y45.heap.size + 1, 0, none⟩)]) = Y49 at *
        refine hK.out _ _ ⟨(HE49.out.bel.cell (p := ⟨w.heap.size + 1, 0, none⟩) hlT).trans kT7, (HE49.out.bel.cell (p := ⟨w.heap.size + 1 + 1 + 1, 0, none⟩) hlE).trans kE7⟩ (fun hHeld => ?_)
        clear hK K
        (try simp only [Act.put, List.setIfInBounds_toArray, List.set_cons_zero, List.set_cons_succ])
        refine wpAnyH_done (by kernel_rfl) ?_ _
        refine NoPanic.normal ?_
        go_wp2_with fail
        go_meet
        exact ⟨_, _, (Y44.heap.size, Y44.heap.size + 1), (Y45.heap.size, Y45.heap.size + 1), rfl, rfl, rfl, HE49.out⟩
      refine AllReadyH.cons (o := ?_) ?_ (fun K hK => ?_) AllReadyH.nil
      rotate_left 1
      · (simp only [List.getElem?_toArray, List.getElem?_cons_zero, List.getElem?_cons_succ]; try rfl)
      have HE50 := Lib.hid (HE45.out.a12 .nilFunc)
      go_simp
      generalize Y45.alloc (.cells #[.nilFunc] 67) = Y50 at *
      refine hK.out _ _ ⟨(HE50.out.bel.cell (p := ⟨w.heap.size + 1, 0, none⟩) hlT).trans kT7, (HE50.out.bel.cell (p := ⟨w.heap.size + 1 + 1 + 1, 0, none⟩) hlE).trans kE7⟩ (fun hHeld => ?_)
      clear hK K
      (try simp only [Act.put, List.setIfInBounds_toArray, List.set_cons_zero, List.set_cons_succ])
      refine wpAnyH_ready (rs := [4]) (by kernel_rfl) (by simp) ?_
      refine AllReadyH.cons (o := ?_) ?_ (fun K hK => ?_) AllReadyH.nil
      rotate_left 1
      · (simp only [List.getElem?_toArray, List.getElem?_cons_zero, List.getElem?_cons_succ]; try rfl)
      have HE51 := Lib.hid (HE50.out.k2)
      go_simp
      refine (cutOut_any b N _).mono ?_
      rintro e w' ⟨rfl, rfl⟩
      go_wp2_with fail
      generalize (Y50.alloc (.cells #[.int .i64 b] 3)).alloc (.cells #[.int .i64 N] 3) = Y51 at *
      refine hK.out _ _ ⟨(HE51.out.bel.cell (p := ⟨w.heap.size + 1, 0, none⟩) hlT).trans kT7, (HE51.out.bel.cell (p := ⟨w.heap.size + 1 + 1 + 1, 0, none⟩) hlE).trans kE7⟩ (fun hHeld => ?_)
      clear hK K
      (try simp only [Act.put, List.setIfInBounds_toArray, List.set_cons_zero, List.set_cons_succ])
      refine wpAnyH_ready (rs := [7]) (by kernel_rfl) (by simp) ?_
      refine AllReadyH.cons (o := ?_) ?_ (fun K hK => ?_) AllReadyH.nil
      rotate_left 1
      · (simp only [List.getElem?_toArray, List.getElem?_cons_zero, List.getElem?_cons_succ]; try rfl)
      have HE52 := Lib.hid (HE51.out.s12 (cutFn (Y44.heap.size) (Y44.heap.size + 1)))
      have qc := HE51.out.x12.1.cell
      have qf := HE51.out.x12.1.frozen
      simp only [cutFn] at HE52 qc qf
      go_simp
      clear qc qf
      generalize Y51.setCell ⟨Y45.heap.size, 0, none⟩ (.func (.func 63) #[] #[.pointer (some ⟨Y44.heap.size, 0, none⟩), .pointer (some ⟨Y44.heap.size + 1, 0, none⟩)]) = Y52 at *
      refine hK.out _ _ ⟨(HE52.out.bel.cell (p := ⟨w.heap.size + 1, 0, none⟩) hlT).trans kT7, (HE52.out.bel.cell (p := ⟨w.heap.size + 1 + 1 + 1, 0, none⟩) hlE).trans kE7⟩ (fun hHeld => ?_)
      clear hK K
      (try simp only [Act.put, List.setIfInBounds_toArray, List.set_cons_zero, List.set_cons_succ])
      refine wpAnyH_ready (rs := [8]) (by kernel_rfl) (by simp) ?_
      refine AllReadyH.cons (o := ?_) ?_ (fun K hK => ?_) AllReadyH.nil
      rotate_left 1
      · (simp only [List.getElem?_toArray, List.getElem?_cons_zero, List.getElem?_cons_succ]; try rfl)
      have HE53 := Lib.hid (HE52.out.s13 (cutFn (Y50.heap.size) (Y50.heap.size + 1)))
      have qc := HE52.out.x13.1.cell
      have qf := HE52.out.x13.1.frozen
      simp only [cutFn] at HE53 qc qf
      go_simp
      clear qc qf
      generalize Y52.setCell ⟨Y0.heap.size, 0, none⟩ (.func (.func 63) #[] #[.pointer (some ⟨Y50.heap.size, 0, none⟩), .pointer (some ⟨Y50.heap.size + 1, 0, none⟩)]) = Y53 at *
      refine hK.out _ _ ⟨(HE53.out.bel.cell (p := ⟨w.heap.size + 1, 0, none⟩) hlT).trans kT7, (HE53.out.bel.cell (p := ⟨w.heap.size + 1 + 1 + 1, 0, none⟩) hlE).trans kE7⟩ (fun hHeld => ?_)
      clear hK K
      (try simp only [Act.put, List.setIfInBounds_toArray, List.set_cons_zero, List.set_cons_succ])
      refine wpAnyH_done (by kernel_rfl) ?_ _
      refine NoPanic.normal ?_
      go_wp2_with fail
      go_meet
      exact ⟨_, _, (Y44.heap.size, Y44.heap.size + 1), (Y50.heap.size, Y50.heap.size + 1), rfl, rfl, rfl, HE53.out⟩
    refine AllReadyH.cons (o := ?_) ?_ (fun K hK => ?_) AllReadyH.nil
    rotate_left 1
    · (simp only [List.getElem?_toArray, List.getElem?_cons_zero, List.getElem?_cons_succ]; try rfl)
    have HE54 := Lib.hid (HE44.out.a12 .nilFunc)
    go_simp
    generalize Y44.alloc (.cells #[.nilFunc] 67) = Y54 at *
    refine hK.out _ _ ⟨(HE54.out.bel.cell (p := ⟨w.heap.size + 1, 0, none⟩) hlT).trans kT7, (HE54.out.bel.cell (p := ⟨w.heap.size + 1 + 1 + 1, 0, none⟩) hlE).trans kE7⟩ (fun hHeld => ?_)
    clear hK K
    (try simp only [Act.put, List.setIfInBounds_toArray, List.set_cons_zero, List.set_cons_succ])
    refine wpAnyH_ready (rs := [1]) (by kernel_rfl) (by simp) ?_
    refine AllReadyH.cons (o := ?_) ?_ (fun K hK => ?_) AllReadyH.nil
    rotate_left 1
    · (simp only [List.getElem?_toArray, List.getElem?_cons_zero, List.getElem?_cons_succ]; try rfl)
    have HE55 := Lib.hid (HE54.out.k1)
    go_simp
    refine (cutOut_any 0 a _).mono ?_
    rintro e w' ⟨rfl, rfl⟩
    go_wp2_with fail
    generalize (Y54.alloc (.cells #[.int .i64 0] 3)).alloc (.cells #[.int .i64 a] 3) = Y55 at *
    refine hK.out _ _ ⟨(HE55.out.bel.cell (p := ⟨w.heap.size + 1, 0, none⟩) hlT).trans kT7, (HE55.out.bel.cell (p := ⟨w.heap.size + 1 + 1 + 1, 0, none⟩) hlE).trans kE7⟩ (fun hHeld => ?_)
    clear hK K
    (try simp only [Act.put, List.setIfInBounds_toArray, List.set_cons_zero, List.set_cons_succ])
    refine wpAnyH_ready (rs := [4]) (by kernel_rfl) (by simp) ?_
    refine AllReadyH.cons (o := ?_) ?_ (fun K hK => ?_) AllReadyH.nil
    rotate_left 1
    · (simp only [List.getElem?_toArray, List.getElem?_cons_zero, List.getElem?_cons_succ]; try rfl)
    have HE56 := Lib.hid (HE55.out.k2)
    go_simp
    refine (cutOut_any b N _).mono ?_
    rintro e w' ⟨rfl, rfl⟩
    go_wp2_with fail
    generalize (Y55.alloc (.cells #[.int .i64 b] 3)).alloc (.cells #[.int .i64 N] 3) = Y56 at *
    refine hK.out _ _ ⟨(HE56.out.bel.cell (p := ⟨w.heap.size + 1, 0, none⟩) hlT).trans kT7, (HE56.out.bel.cell (p := ⟨w.heap.size + 1 + 1 + 1, 0, none⟩) hlE).trans kE7⟩ (fun hHeld => ?_)
    clear hK K
    (try simp only [Act.put, List.setIfInBounds_toArray, List.set_cons_zero, List.set_cons_succ])
    refine wpAnyH_ready (rs := [7]) (by kernel_rfl) (by simp) ?_
    refine AllReadyH.cons (o := ?_) ?_ (fun K hK => ?_) AllReadyH.nil
    rotate_left 1
    · (simp only [List.getElem?_toArray, List.getElem?_cons_zero, List.getElem?_cons_succ]; try rfl)
    have HE57 := Lib.hid (HE56.out.s12 (cutFn (Y54.heap.size) (Y54.heap.size + 1)))
    have qc := HE56.out.x12.1.cell
    have qf := HE56.out.x12.1.frozen
    simp only [cutFn] at HE57 qc qf
    go_simp
    clear qc qf
    generalize Y56.setCell ⟨Y44.heap.size, 0, none⟩ (.func (.func 63) #[] #[.pointer (some ⟨Y54.heap.size, 0, none⟩), .pointer (some ⟨Y54.heap.size + 1, 0, none⟩)]) = Y57 at *
    refine hK.out _ _ ⟨(HE57.out.bel.cell (p := ⟨w.heap.size + 1, 0, none⟩) hlT).trans kT7, (HE57.out.bel.cell (p := ⟨w.heap.size + 1 + 1 + 1, 0, none⟩) hlE).trans kE7⟩ (fun hHeld => ?_)
    clear hK K
    (try simp only [Act.put, List.setIfInBounds_toArray, List.set_cons_zero, List.set_cons_succ])
    refine wpAnyH_ready (rs := [8]) (by kernel_rfl) (by simp) ?_
    refine AllReadyH.cons (o := ?_) ?_ (fun K hK => ?_) AllReadyH.nil
    rotate_left 1
    · (simp only [List.getElem?_toArray, List.getElem?_cons_zero, List.getElem?_cons_succ]; try rfl)
    have HE58 := Lib.hid (HE57.out.s13 (cutFn (Y55.heap.size) (Y55.heap.size + 1)))
    have qc := HE57.out.x13.1.cell
    have qf := HE57.out.x13.1.frozen
    simp only [cutFn] at HE58 qc qf
    go_simp
    clear qc qf
    generalize Y57.setCell ⟨Y0.heap.size, 0, none⟩ (.func (.func 63) #[] #[.pointer (some ⟨Y55.heap.size, 0, none⟩), .pointer (some ⟨Y55.heap.size + 1, 0, none⟩)]) = Y58 at *
    refine hK.out _ _ ⟨(HE58.out.bel.cell (p := ⟨w.heap.size + 1, 0, none⟩) hlT).trans kT7, (HE58.out.bel.cell (p := ⟨w.heap.size + 1 + 1 + 1, 0, none⟩) hlE).trans kE7⟩ (fun hHeld => ?_)
    clear hK K
    (try simp only [Act.put, List.setIfInBounds_toArray, List.set_cons_zero, List.set_cons_succ])
    refine wpAnyH_done (by kernel_rfl) ?_ _
    refine NoPanic.normal ?_
    go_wp2_with fail
    go_meet
    exact ⟨_, _, (Y54.heap.size, Y54.heap.size + 1), (Y55.heap.size, Y55.heap.size + 1), rfl, rfl, rfl, HE58.out⟩
  -- REGION 7 ENDS
  case rest =>
    obtain ⟨B1, B2, f1, f2, rfl, rfl, rfl, HE⟩ := hcut
    have hbc := hb7.trans (HE.bel.mono hb7.size)
    have K0 := HE.k5 bT7 bE7 bR7
    have bAc := boxed_belowAll bA7 HE.bel
    have hzc := HE.bel.size
    have hz7 := hb7.size
    have hal4 := ((((Below.refl wc.heap.size wc).alloc (Nat.le_refl _) (.cells #[.slice none 0 0] 24)).alloc (by simp) (.cells #[.slice none 0 0] 24)).alloc (by simp; omega) (.cells #[.slice none 0 0] 22)).alloc (by simp; omega) (.cells #[.slice none 0 0] 22)
    have bA4 := boxed_belowAll bAc hal4
    have kA4 := bA4.cell
    have R0 := R4.new wc w.heap.size
    clear HE bT7 bE7 bR7 bA7 kA7 kT7 kE7 hb7 hlT hlE
    go_wp2_with fail
    refine (chunkStarts_any A ls.length c _).mono ?_
    rintro e w' ⟨rfl, rfl⟩
    go_wp2_with fail
    refine (wpIn_wide (n := 6)).1 ?_
    obtain ⟨xs, hV, hR, _⟩ := hC.vals
    have hal5 := hal4.alloc hal4.size (.cells #[.slice A ls.length c] 26)
    have R0 := R0.below ((Below.refl _ _).alloc (Nat.le_refl _) (.cells #[.slice A ls.length c] 26))
    have K0 := K0.below hal5
    have bRp := Boxed.new ((((wc.alloc (.cells #[.slice none 0 0] 24)).alloc (.cells #[.slice none 0 0] 24)).alloc (.cells #[.slice none 0 0] 22)).alloc (.cells #[.slice none 0 0] 22)) 26 (.slice A ls.length c)
    simp only [World.size_alloc] at bRp
    have hB0 : Below w.heap.size w (((((wc.alloc (.cells #[.slice none 0 0] 24)).alloc (.cells #[.slice none 0 0] 24)).alloc (.cells #[.slice none 0 0] 22)).alloc (.cells #[.slice none 0 0] 22)).alloc (.cells #[.slice A ls.length c] 26)) := hbc.trans (hal5.mono (by omega))
    have hsz : (((((wc.alloc (.cells #[.slice none 0 0] 24)).alloc (.cells #[.slice none 0 0] 24)).alloc (.cells #[.slice none 0 0] 22)).alloc (.cells #[.slice none 0 0] 22)).alloc (.cells #[.slice A ls.length c] 26)).heap.size = wc.heap.size + 5 := by simp
    obtain ⟨W0, hW0⟩ : ∃ W0, (((((wc.alloc (.cells #[.slice none 0 0] 24)).alloc (.cells #[.slice none 0 0] 24)).alloc (.cells #[.slice none 0 0] 22)).alloc (.cells #[.slice none 0 0] 22)).alloc (.cells #[.slice A ls.length c] 26)) = W0 := ⟨_, rfl⟩
    rw [hW0] at R0 K0 bRp hB0 hsz ⊢
    clear hW0 hal4 hal5 bA4 kA4 bAc hbc
    have hwc : w.heap.size ≤ wc.heap.size := by omega
    refine wpIn_rangeFunc_ownH (F := Fence.wide) (n := 6) rfl (by omega) (gf := 65) (lb := #[.pointer (some ⟨wc.heap.size + 1 + 1 + 1 + 1, 0, none⟩)]) rfl trivial (enters_of Tryd.func65 (by kernel_rfl) rfl)
      (chunkStarts_stops Fence.wide (6 - 1) trivial rfl (by omega) (wc.heap.size + 1 + 1 + 1 + 1) w.heap.size w rfl A ls c xs hn (by omega) hV hR W0 hB0 (by omega) bRp.cell) keepsCh_t (keepsCh_b (by omega)) (Below.refl _ _) (fun _ => rfl)
      (fun pre W => (∃ vF vK vH vL, R4 W w.heap.size wc.heap.size (frV ls xs a pre) (bkV ls xs a b pre) (hdV ls a b pre) (tlV ls a b N pre) vF vK vH vL) ∧ K5 W B1 B2 f1 f2 a b N (w.heap.size + 1) (w.heap.size + 1 + 1 + 1) (w.heap.size + 1 + 1) ∧ Below w.heap.size w W)
      (fun _ _ _ => False)
      (fun pre X Y row ⟨⟨vF, vK, vH, vL, h1⟩, h2, h3⟩ hg hr => ⟨⟨vF, vK, vH, vL, h1.far hg (fun r e => (hr r e).2)⟩, h2.far hg (fun r e => (hr r e).2), (ownFrom_below (Nat.le_refl _) (by omega) : OwnFrom W0.heap.size (fun (_ : List (Ix ls)) W => Below w.heap.size w W)) pre X Y row h3 hg hr⟩)
      (fun _ _ _ _ _ hs _ _ => hs)
      ⟨⟨_, _, _, _, R0⟩, K0, hB0⟩
      (fun x a' W => ∃ Bx, wc.heap.size + 1 + 1 + 1 < Bx ∧ Boxed W Bx 46 (xs.getD x.1 undef) ∧ a' = { tmps := #[.agg #[.slice A ls.length c], .int .i64 a, .int .i64 m, .slice Ap p.length cp, .pointer (some ⟨w.heap.size, 0, none⟩), .pointer (some ⟨w.heap.size + 1, 0, none⟩), undef, undef, .pointer (some ⟨w.heap.size + 1 + 1, 0, none⟩), .bool false, .pointer (some ⟨w.heap.size + 1 + 1 + 1, 0, none⟩), .int .i64 N, .pointer (some ⟨B1, 0, none⟩), .pointer (some ⟨B2, 0, none⟩), .pointer (some ⟨wc.heap.size, 0, none⟩), .pointer (some ⟨wc.heap.size + 1, 0, none⟩), .pointer (some ⟨wc.heap.size + 1 + 1, 0, none⟩), .pointer (some ⟨wc.heap.size + 1 + 1 + 1, 0, none⟩), .int .i64 (tot (ls.take x.1) : Nat), .pointer (some ⟨Bx, 0, none⟩), undef, u21, u22, u23, u24, u25, u26, u27, u28, u29, u30, u31, u32, u33, u34, u35, u36, u37, u38, u39, u40, u41, u42, u43, u44, u45, u46, u47, u48, u49, u50, u51, u52, u53, u54, u55, .agg #[.slice A ls.length c], .func (.func 65) #[] #[.pointer (some ⟨wc.heap.size + 1 + 1 + 1 + 1, 0, none⟩)], .int .i64 (tot (ls.take x.1) : Nat), .agg #[xs.getD x.1 undef], u60, u61, u62, u63, u64, u65, u66, u67, u68, u69, u70, u71, u72, u73, u74, u75, u76, u77, u78, u79, u80, u81, u82, u83, u84, u85, u86, u87, u88, u89, u90, u91, u92, u93, u94, u95, u96, u97, u98, u99, u100, u101, u102, u103], defers := [] })
      (fun x a' _ X Y row hs hg hr => by obtain ⟨Bx, h1, h2, h3⟩ := hs; exact ⟨Bx, h1, boxed_own Bx 46 (fun (_ : Unit) => xs.getD x.1 undef) () X Y row h2 hg (fun r e => (hr r e).2), h3⟩)
      ?assign ?body ?done ?stop
    case assign =>
      rintro l pre x W K ⟨⟨vF, vK, vH, vL, h1⟩, h2, h3⟩ hK
      obtain ⟨B, d, hxk, hd1, hd2, hBs⟩ := bRd_slice (hR.2 x.1 (by rw [hR.1]; exact x.2) x.2)
      have hxe : xs.getD x.1 undef = .slice B (ls[x.1]'x.2).length d := by rw [List.getD_eq_getElem?_getD, List.getElem?_eq_getElem (by rw [hR.1]; exact x.2)]; exact hxk
      dsimp only [chEnc]
      rw [hxe] at hK ⊢
      have hlt := h1.bL.lt
      have hb := (Below.refl W.heap.size W).alloc (Nat.le_refl _) (.cells #[.slice B (ls[x.1]'x.2).length d] 46)
      gi_wp2
      exact hK _ _ ((KeepsOthers.alloc _ _).from _) ⟨(Below.refl _ W).alloc h3.size _, fun b u hb => hb.alloc _⟩ ⟨⟨_, _, _, _, h1.below hb⟩, h2.below hb, h3.alloc h3.size _⟩ ⟨W.heap.size, hlt, Boxed.new W _ _, rfl⟩
    case body =>
      rintro l pre x a' W hl ⟨r, hr⟩ ⟨⟨vF, vK, vH, vL, h1⟩, h2, h3⟩ ⟨Bx, hBx, bX, rfl⟩ hlt
      obtain ⟨B, d, hxk, hd1, hd2, hBs⟩ := bRd_slice (hR.2 x.1 (by rw [hR.1]; exact x.2) x.2)
      have hxe : xs.getD x.1 undef = .slice B (ls[x.1]'x.2).length d := by rw [List.getD_eq_getElem?_getD, List.getElem?_eq_getElem (by rw [hR.1]; exact x.2)]; exact hxk
      have hFd := isF_iff ls a x
      have hBd : isB ls a b x = (!isF ls a x && decide (b ≤ (tot (ls.take x.1) : Int))) := rfl
      have hxl := hne x.1 x.2
      have hst : tot (ls.take x.1) ≤ 400 := Nat.le_trans (tot_take_le ls x.1) htot
      have htx : tot (ls.take x.1) + (ls[x.1]'x.2).length ≤ tot ls := by rw [← tot_take ls x.1 x.2]; exact tot_take_le ls _
      obtain ⟨n1, n2, n3, n4⟩ := edit_lens ls a b N 400 (fun k h => (hne k h).2) pre
      have hM := editV_M (ls := ls) xs (a := a) (b := b) (N := N) (pre := pre) (x := x)
      rw [hxe] at bX ⊢
      obtain ⟨L, hL⟩ : ∃ L, ls[x.1]'x.2 = L := ⟨_, rfl⟩
      obtain ⟨s, hs⟩ : ∃ s, tot (ls.take x.1) = s := ⟨_, rfl⟩
      rw [hL, hs] at hFd hM htx
      rw [hL] at hxl bX hd1 hBs hxe ⊢
      rw [hs] at hst hBd ⊢
      have hpl : pre.length ≤ 400 := by omega
      obtain ⟨FR, hFR⟩ : ∃ FR, frV ls xs a pre = FR := ⟨_, rfl⟩
      obtain ⟨BK, hBK⟩ : ∃ BK, bkV ls xs a b pre = BK := ⟨_, rfl⟩
      obtain ⟨HD, hHD⟩ : ∃ HD, hdV ls a b pre = HD := ⟨_, rfl⟩
      obtain ⟨TL, hTL⟩ : ∃ TL, tlV ls a b N pre = TL := ⟨_, rfl⟩
      have n5 : FR.length ≤ 400 := by rw [← hFR]; have := frV_len ls xs a pre; omega
      have n6 : BK.length ≤ 400 := by rw [← hBK]; have := bkV_len ls xs a b pre; omega
      rw [hFR, hBK, hHD, hTL] at h1
      rw [hHD] at n3
      rw [hTL] at n4
      have HFR := Lib.hid hFR
      have HBK := Lib.hid hBK
      have HHD := Lib.hid hHD
      have HTL := Lib.hid hTL
      have HXE := Lib.hid hxe
      have HM := Lib.hid hM
      clear hFR hBK hHD hTL
      have HR4 := Lib.hid h1
      have HK5 := Lib.hid h2
      have cF : W.cell? ⟨wc.heap.size, 0, none⟩ = some vF := h1.bF.cell
      have cK : W.cell? ⟨wc.heap.size + 1, 0, none⟩ = some vK := h1.bK.cell
      have cT : W.cell? ⟨w.heap.size + 1, 0, none⟩ = some (.int .i64 a) := h2.t.cell
      have cE : W.cell? ⟨w.heap.size + 1 + 1 + 1, 0, none⟩ = some (.int .i64 b) := h2.e.cell
      have hcx := bX.cell
      have HX1 := Lib.hid bX
      obtain ⟨i1, hj, hj0, hj1, hj2⟩ := info_parts Tryd.infoCh
      have HLS := Lib.hid hL
      have HSS := Lib.hid hs
      have HBS := Lib.hid hBs
      clear hxk hxe hM hL hs hBs h1 h2 bX hr
      by_cases hF : (s : Int) + (L.length : Int) ≤ a
      · have hxF : isF ls a x = true := by rw [hFd]; exact decide_eq_true hF
        have HXF := Lib.hid hxF
        clear hFd hBd hxF
        have e5 := editV_F xs (N := N) (b := b) (pre := pre) HXF.out
        have E5 := Lib.hid e5
        have hal := (Below.refl W.heap.size W).alloc (Nat.le_refl _) (.cells #[.slice B L.length d] 46)
        have R1 := Lib.hid (HR4.out.below hal)
        have K1 := Lib.hid (HK5.out.below hal)
        have hb1 := h3.alloc h3.size (.cells #[.slice B L.length d] 46)
        have HB1 := Lib.hid hb1
        have hcn : (W.alloc (.cells #[.slice B L.length d] 46)).cell? ⟨W.heap.size, 0, none⟩ = some (.slice B L.length d) := (Boxed.new W 46 _).cell
        have HCN := Lib.hid hcn
        clear e5 hcn hb1 hal
        gi_wp2_with (gi_at_builtin; go_loud (refine wpListIn_append_one _ rfl (.tmp 80) (.tmp 82) 24 rfl w.heap.size 46 i1 (.agg #[.slice none 0 0]) 24 Tryd.underlying24 hj hj0 hj1 hj2 rfl vF _ _ rfl (by exact R1.out.rF) (by exact R1.out.nF) ⟨W.heap.size, 0, none⟩ 1 (.slice B L.length d) rfl (by exact HCN.out) rfl (by unfold maxLen; omega) (by omega) (by rw [World.size_alloc]; have := h3.size; omega) ?_; intro v1 w1 r1 hg1 hne1 hbk1 hbx1; have hsz1 : w.heap.size ≤ (W.alloc (.cells #[.slice B L.length d] 46)).heap.size := (by rw [World.size_alloc]; have := h3.size; omega); have hap := appended_into R1.out.bF (by decide) R1.out.rF hsz1 (by omega) r1 hg1; have c1 : w1.cell? ⟨wc.heap.size, 0, none⟩ = some vF := hap.1.cell; have g1 : w1.frozen? ⟨wc.heap.size, 0, none⟩ = false := hap.1.frozen; have RP := Lib.hid (R1.out.pushF r1 hg1 hbk1); have KP := Lib.hid (K1.out.push R1.out.bF (.inl rfl) (.inl rfl) hap.2.2.2.2.2); have HAP := Lib.hid hap; have HBX := Lib.hid hbx1; have HV1 := Lib.hid hap.1; obtain ⟨q1, cap1, rfl⟩ := ownsRow_succ r1; clear hap hbx1 r1 hg1 hbk1 hne1 hsz1))
        have hko : KeepsOthers W _ := (KeepsOthers.alloc W (.cells #[.slice B L.length d] 46)).trans HAP.out.2.2.2.1
        have hbe : Below w.heap.size W _ := ((Below.refl w.heap.size W).alloc h3.size (.cells #[.slice B L.length d] 46)).trans HAP.out.2.2.2.2.1
        refine ⟨hko.from _, ⟨hbe, fun b' u hb' => (HBX.out b' u (hb'.alloc _)).other (Boxed.types (HBX.out b' u (hb'.alloc _)) HV1.out (by decide)) _⟩, (by rw [E5.out.1, E5.out.2.1, E5.out.2.2.1, E5.out.2.2.2, HXE.out, HFR.out, HBK.out, HHD.out, HTL.out]; exact ⟨_, _, _, _, RP.out⟩), KP.out, h3.trans hbe⟩
      · have hxF : isF ls a x = false := by rw [hFd]; exact decide_eq_false hF
        have HXF := Lib.hid hxF
        by_cases hB : b ≤ (s : Int)
        · have hxB : isB ls a b x = true := by rw [hBd, hxF, decide_eq_true hB]; rfl
          have HXB := Lib.hid hxB
          clear hFd hBd hxF hxB
          have e5 := editV_B xs (N := N) (pre := pre) HXF.out HXB.out
          have E5 := Lib.hid e5
          have hal := (Below.refl W.heap.size W).alloc (Nat.le_refl _) (.cells #[.slice B L.length d] 46)
          have R1 := Lib.hid (HR4.out.below hal)
          have K1 := Lib.hid (HK5.out.below hal)
          have hb1 := h3.alloc h3.size (.cells #[.slice B L.length d] 46)
          have HB1 := Lib.hid hb1
          have hcn : (W.alloc (.cells #[.slice B L.length d] 46)).cell? ⟨W.heap.size, 0, none⟩ = some (.slice B L.length d) := (Boxed.new W 46 _).cell
          have HCN := Lib.hid hcn
          clear e5 hcn hb1 hal
          gi_wp2_with (gi_at_builtin; go_loud (refine wpListIn_append_one _ rfl (.tmp 88) (.tmp 90) 24 rfl w.heap.size 46 i1 (.agg #[.slice none 0 0]) 24 Tryd.underlying24 hj hj0 hj1 hj2 rfl vK _ _ rfl (by exact R1.out.rK) (by exact R1.out.nK) ⟨W.heap.size, 0, none⟩ 1 (.slice B L.length d) rfl (by exact HCN.out) rfl (by unfold maxLen; omega) (by omega) (by rw [World.size_alloc]; have := h3.size; omega) ?_; intro v1 w1 r1 hg1 hne1 hbk1 hbx1; have hsz1 : w.heap.size ≤ (W.alloc (.cells #[.slice B L.length d] 46)).heap.size := (by rw [World.size_alloc]; have := h3.size; omega); have hap := appended_into R1.out.bK (by decide) R1.out.rK hsz1 (by omega) r1 hg1; have c1 : w1.cell? ⟨wc.heap.size + 1, 0, none⟩ = some vK := hap.1.cell; have g1 : w1.frozen? ⟨wc.heap.size + 1, 0, none⟩ = false := hap.1.frozen; have RP := Lib.hid (R1.out.pushK r1 hg1 hbk1); have KP := Lib.hid (K1.out.push R1.out.bK (.inl rfl) (.inl rfl) hap.2.2.2.2.2); have HAP := Lib.hid hap; have HBX := Lib.hid hbx1; have HV1 := Lib.hid hap.1; obtain ⟨q1, cap1, rfl⟩ := ownsRow_succ r1; clear hap hbx1 r1 hg1 hbk1 hne1 hsz1))
          have hko : KeepsOthers W _ := (KeepsOthers.alloc W (.cells #[.slice B L.length d] 46)).trans HAP.out.2.2.2.1
          have hbe : Below w.heap.size W _ := ((Below.refl w.heap.size W).alloc h3.size (.cells #[.slice B L.length d] 46)).trans HAP.out.2.2.2.2.1
          refine ⟨hko.from _, ⟨hbe, fun b' u hb' => (HBX.out b' u (hb'.alloc _)).other (Boxed.types (HBX.out b' u (hb'.alloc _)) HV1.out (by decide)) _⟩, (by rw [E5.out.1, E5.out.2.1, E5.out.2.2.1, E5.out.2.2.2, HXE.out, HFR.out, HBK.out, HHD.out, HTL.out]; exact ⟨_, _, _, _, RP.out⟩), KP.out, h3.trans hbe⟩
        -- MIDDLE
        · have hxB : isB ls a b x = false := by rw [hBd, hxF, decide_eq_false hB]; rfl
          have e5 := HM.out hxF hxB
          obtain ⟨C1, hC1⟩ : ∃ C1, cutV L (0 - (s : Nat)) (a - (s : Nat)) = C1 := ⟨_, rfl⟩
          obtain ⟨C2, hC2⟩ : ∃ C2, cutV L (b - (s : Nat)) (N - (s : Nat)) = C2 := ⟨_, rfl⟩
          have m1 : C1.length ≤ L.length := by rw [← hC1]; exact cutV_len _ _ _
          have m2 : C2.length ≤ L.length := by rw [← hC2]; exact cutV_len _ _ _
          rw [hC1, hC2] at e5
          have E5 := Lib.hid e5
          have HC1 := Lib.hid hC1
          have HC2 := Lib.hid hC2
          have BSW := Lib.hid (HBS.out.below h3)
          clear e5 hC1 hC2 hFd hBd hxF hxB cF cK
          have cO13 : W.cell? ⟨wc.heap.size + 1 + 1, 0, none⟩ = some vH := HR4.out.bH.cell
          have cf13 : W.cell? ⟨B1, 0, none⟩ = some (.func (.func 63) #[] #[.pointer (some ⟨f1.1, 0, none⟩), .pointer (some ⟨f1.2, 0, none⟩)]) := HK5.out.c1.cell
          have cx13 : W.cell? ⟨Bx, 0, none⟩ = some (.slice B L.length d) := HX1.out.cell
          have HCUT13 : Hid (∀ V : World, (∀ a, V.cell? a = W.cell? a) → V.heap.size = W.heap.size → Bs V B L → Calls Tryd.prog 63 #[.int .i64 (s : Nat), .agg #[.slice B L.length d], .pointer (some ⟨f1.1, 0, none⟩), .pointer (some ⟨f1.2, 0, none⟩)] V fun e w' => (∃ ad c', e = .returned (.slice (some ad) C1.length c') ∧ Bs V (some ad) C1) ∧ Below V.heap.size V w') := Lib.hid (fun V hV hz hBV => by
            have := cutOut1_any B L d (s : Nat) 0 a f1.1 f1.2 V hxl.1 hd1 hd2 ⟨by omega, by omega⟩ ⟨by omega, by omega⟩ ⟨by omega, by omega⟩ (by omega) (by rw [hV]; exact HK5.out.p1.cell) (by rw [hV]; exact HK5.out.p2.cell) (by rw [hz]; exact HK5.out.p1.lt) (by rw [hz]; exact HK5.out.p2.lt) hBV
            rw [HC1.out] at this
            exact this)
          gi_wp2_with fail
          refine wpIn_region_round (S := (fun V => V.cell? ⟨B1, 0, none⟩ = some (.func (.func 63) #[] #[.pointer (some ⟨f1.1, 0, none⟩), .pointer (some ⟨f1.2, 0, none⟩)]) ∧ V.cell? ⟨Bx, 0, none⟩ = some (.slice B L.length d))) (by kernel_rfl) (by kernel_rfl) ⟨cf13, cx13⟩ (fun hHeld => ?_)
          refine wpAnyH_take (i := 1) (oi := ?_) (v := ?_) ?_ ?_ ?_ ?_ ?_ ?_ (by exact hHeld) ?_
          rotate_left 2
          · (simp only [List.getElem?_toArray, List.getElem?_cons_zero, List.getElem?_cons_succ]; try rfl)
          · kernel_rfl
          · kernel_rfl
          · kernel_rfl
          · exact fun _ _ _ h => h
          · refine Or.inl ⟨by rfl, ?_⟩
            (intro w hSw; (try dsimp only at hSw); go_simp; try with_reducible rfl)
          (try simp only [Act.put, List.setIfInBounds_toArray, List.set_cons_zero, List.set_cons_succ])
          refine wpAnyH_take (i := 2) (oi := ?_) (v := ?_) ?_ ?_ ?_ ?_ ?_ ?_ (by exact hHeld) ?_
          rotate_left 2
          · (simp only [List.getElem?_toArray, List.getElem?_cons_zero, List.getElem?_cons_succ]; try rfl)
          · kernel_rfl
          · kernel_rfl
          · kernel_rfl
          · exact fun _ _ _ h => h
          · refine Or.inl ⟨by rfl, ?_⟩
            (intro w hSw; (try dsimp only at hSw); go_simp; try with_reducible rfl)
          (try simp only [Act.put, List.setIfInBounds_toArray, List.set_cons_zero, List.set_cons_succ])
          refine wpAnyH_take (i := 3) (oi := ?_) (v := ?_) ?_ ?_ ?_ ?_ ?_ ?_ (by exact hHeld) ?_
          rotate_left 2
          · (simp only [List.getElem?_toArray, List.getElem?_cons_zero, List.getElem?_cons_succ]; try rfl)
          · kernel_rfl
          · kernel_rfl
          · kernel_rfl
          · exact fun _ _ _ h => h
          · refine Or.inl ⟨by rfl, ?_⟩
            (intro w hSw; (try dsimp only at hSw); go_simp; try with_reducible rfl)
          (try simp only [Act.put, List.setIfInBounds_toArray, List.set_cons_zero, List.set_cons_succ])
          refine wpAnyH_ready (rs := [0, 4]) (by kernel_rfl) (by simp) ?_
          refine AllReadyH.cons (o := ?_) ?_ (fun K hK => ?_) ?_
          rotate_left 1
          · (simp only [List.getElem?_toArray, List.getElem?_cons_zero]; try rfl)
          · go_simp
            refine hK.out _ _ hHeld (fun hHeld => ?_)
            clear hK K
            (try simp only [Act.put, List.setIfInBounds_toArray, List.set_cons_zero, List.set_cons_succ])
            refine wpAnyH_ready (rs := [4]) (by kernel_rfl) (by simp) ?_
            refine AllReadyH.cons (o := ?_) ?_ (fun K hK => ?_) AllReadyH.nil
            rotate_left 1
            · (simp only [List.getElem?_toArray, List.getElem?_cons_zero, List.getElem?_cons_succ]; try rfl)
            go_simp
            refine (HCUT13.out _ (by exact fun _ => rfl) (by exact rfl) (by exact BSW.out)).mono ?_
            rintro e v13 ⟨⟨ad13, q13, rfl, hcells⟩, hb5⟩
            have hb5 : Below W.heap.size W v13 := ⟨hb5.os, hb5.tape, hb5.output, hb5.size, hb5.block⟩
            have hcells : Bs W (some ad13) C1 := hcells
            have HB13 := Lib.hid hb5
            have HCE13 := Lib.hid (hcells.below hb5)
            have RV13 := Lib.hid (HR4.out.below hb5)
            have KV13 := Lib.hid (HK5.out.below hb5)
            have XV13 := Lib.hid (boxed_belowAll HX1.out hb5)
            have co13 : v13.cell? ⟨wc.heap.size + 1 + 1, 0, none⟩ = some vH := RV13.out.bH.cell
            have qf13 : v13.cell? ⟨B1, 0, none⟩ = some (.func (.func 63) #[] #[.pointer (some ⟨f1.1, 0, none⟩), .pointer (some ⟨f1.2, 0, none⟩)]) := KV13.out.c1.cell
            have qx13 : v13.cell? ⟨Bx, 0, none⟩ = some (.slice B L.length d) := XV13.out.cell
            clear hb5 hcells
            go_wp2_with fail
            refine hK.out _ _ ⟨qf13, qx13⟩ (fun hHeld => ?_)
            clear hK K
            (try simp only [Act.put, List.setIfInBounds_toArray, List.set_cons_zero, List.set_cons_succ])
            refine wpAnyH_ready (rs := [5]) (by kernel_rfl) (by simp) ?_
            refine AllReadyH.cons (o := ?_) ?_ (fun K hK => ?_) AllReadyH.nil
            rotate_left 1
            · (simp only [List.getElem?_toArray, List.getElem?_cons_zero, List.getElem?_cons_succ]; try rfl)
            refine step_app_bytes rfl (.tmp 60) (.tmp 64) rfl w.heap.size vH HD C1 (some ad13) C1.length q13 rfl rfl rfl (by exact RV13.out.rH) (by exact HCE13.out) (by omega) (by have h8 := HB13.out.size; have h9 := h3.size; omega) ?_
            intro x13 y13 hown13 hgr13 hbk13
            have hap13 := appended_into RV13.out.bH (by decide) RV13.out.rH (by have h8 := HB13.out.size; have h9 := h3.size; omega) (by omega) hown13 hgr13
            have RP13 : R4 (y13.setCell ⟨wc.heap.size + 1 + 1, 0, none⟩ x13) _ _ _ _ _ _ _ _ _ _ := R4.pushH RV13.out hown13 hgr13 hbk13
            have RP13 := Lib.hid RP13
            have KP13 := Lib.hid (KV13.out.push RV13.out.bH (.inr rfl) (.inr rfl) hap13.2.2.2.2.2)
            have XP13 : Hid (Boxed (y13.setCell ⟨wc.heap.size + 1 + 1, 0, none⟩ x13) Bx 46 (.slice B L.length d)) := Lib.hid (hap13.2.2.2.2.2 _ _ _ (by decide) (Boxed.types XV13.out RV13.out.bH (by decide)) XV13.out)
            have hf13 := KV13.out.c1.kept hgr13 (KV13.out.c1.not_row (by decide) RV13.out.rH)
            have hx13 := XV13.out.kept hgr13 (XV13.out.not_row (by decide) RV13.out.rH)
            have ff13 : y13.cell? ⟨B1, 0, none⟩ = some (.func (.func 63) #[] #[.pointer (some ⟨f1.1, 0, none⟩), .pointer (some ⟨f1.2, 0, none⟩)]) := hf13.cell
            have fx13 : y13.cell? ⟨Bx, 0, none⟩ = some (.slice B L.length d) := hx13.cell
            have fo13 : y13.cell? ⟨wc.heap.size + 1 + 1, 0, none⟩ = some vH := hap13.1.cell
            have fz13 : y13.frozen? ⟨wc.heap.size + 1 + 1, 0, none⟩ = false := hap13.1.frozen
            have KF13 := Lib.hid ((keepsFrom_below W0.heap.size HB13.out).trans (hap13.2.2.2.1.from _))
            have BE13 := Lib.hid ((HB13.out.mono h3.size).trans hap13.2.2.2.2.1)
            have BC13 : Hid (∀ b' u, Boxed W b' 46 u → Boxed (y13.setCell ⟨wc.heap.size + 1 + 1, 0, none⟩ x13) b' 46 u) := Lib.hid (fun b' u hb' => hap13.2.2.2.2.2 _ _ _ (by decide) (Boxed.types (boxed_belowAll hb' HB13.out) RV13.out.bH (by decide)) (boxed_belowAll hb' HB13.out))
            obtain ⟨A13, k13, e13, _, _, _⟩ := _root_.Go.Proofs.YthnahenpnafkmaaDoor.Own.form hown13
            rw [List.length_append] at e13
            subst e13
            clear hown13 hgr13 hbk13 hap13 hf13 hx13 qf13 qx13
            refine hK.out _ _ ⟨ff13, fx13⟩ (fun hHeld => ?_)
            clear hK K
            (try simp only [Act.put, List.setIfInBounds_toArray, List.set_cons_zero, List.set_cons_succ])
            refine wpAnyH_ready (rs := [6]) (by kernel_rfl) (by simp) ?_
            refine AllReadyH.cons (o := ?_) ?_ (fun K hK => ?_) AllReadyH.nil
            rotate_left 1
            · (simp only [List.getElem?_toArray, List.getElem?_cons_zero, List.getElem?_cons_succ]; try rfl)
            go_simp
            refine hK.out _ _ ⟨KP13.out.c1.cell, XP13.out.cell⟩ (fun hHeld => ?_)
            clear hK K
            (try simp only [Act.put, List.setIfInBounds_toArray, List.set_cons_zero, List.set_cons_succ])
            refine wpAnyH_done (by kernel_rfl) ?_ _
            refine ⟨by simp, ?_⟩
            generalize y13.setCell ⟨wc.heap.size + 1 + 1, 0, none⟩ (.slice A13 (HD.length + C1.length) k13) = W8 at *
            have HZ8 : Hid (w.heap.size ≤ W8.heap.size) := Lib.hid (Nat.le_trans h3.size BE13.out.size)
            have BS8 := Lib.hid (HBS.out.below (h3.trans BE13.out))
            have cO14 : W8.cell? ⟨wc.heap.size + 1 + 1 + 1, 0, none⟩ = some vL := RP13.out.bL.cell
            have cf14 : W8.cell? ⟨B2, 0, none⟩ = some (.func (.func 63) #[] #[.pointer (some ⟨f2.1, 0, none⟩), .pointer (some ⟨f2.2, 0, none⟩)]) := KP13.out.c2.cell
            have cx14 : W8.cell? ⟨Bx, 0, none⟩ = some (.slice B L.length d) := XP13.out.cell
            have HCUT14 : Hid (∀ V : World, (∀ a, V.cell? a = W8.cell? a) → V.heap.size = W8.heap.size → Bs V B L → Calls Tryd.prog 63 #[.int .i64 (s : Nat), .agg #[.slice B L.length d], .pointer (some ⟨f2.1, 0, none⟩), .pointer (some ⟨f2.2, 0, none⟩)] V fun e w' => (∃ ad c', e = .returned (.slice (some ad) C2.length c') ∧ Bs V (some ad) C2) ∧ Below V.heap.size V w') := Lib.hid (fun V hV hz hBV => by
              have := cutOut1_any B L d (s : Nat) b N f2.1 f2.2 V hxl.1 hd1 hd2 ⟨by omega, by omega⟩ ⟨by omega, by omega⟩ ⟨by omega, by omega⟩ (by omega) (by rw [hV]; exact KP13.out.p3.cell) (by rw [hV]; exact KP13.out.p4.cell) (by rw [hz]; exact KP13.out.p3.lt) (by rw [hz]; exact KP13.out.p4.lt) hBV
              rw [HC2.out] at this
              exact this)
            gi_wp2_with fail
            refine wpIn_region_round (S := (fun V => V.cell? ⟨B2, 0, none⟩ = some (.func (.func 63) #[] #[.pointer (some ⟨f2.1, 0, none⟩), .pointer (some ⟨f2.2, 0, none⟩)]) ∧ V.cell? ⟨Bx, 0, none⟩ = some (.slice B L.length d))) (by kernel_rfl) (by kernel_rfl) ⟨cf14, cx14⟩ (fun hHeld => ?_)
            refine wpAnyH_take (i := 1) (oi := ?_) (v := ?_) ?_ ?_ ?_ ?_ ?_ ?_ (by exact hHeld) ?_
            rotate_left 2
            · (simp only [List.getElem?_toArray, List.getElem?_cons_zero, List.getElem?_cons_succ]; try rfl)
            · kernel_rfl
            · kernel_rfl
            · kernel_rfl
            · exact fun _ _ _ h => h
            · refine Or.inl ⟨by rfl, ?_⟩
              (intro w hSw; (try dsimp only at hSw); go_simp; try with_reducible rfl)
            (try simp only [Act.put, List.setIfInBounds_toArray, List.set_cons_zero, List.set_cons_succ])
            refine wpAnyH_take (i := 2) (oi := ?_) (v := ?_) ?_ ?_ ?_ ?_ ?_ ?_ (by exact hHeld) ?_
            rotate_left 2
            · (simp only [List.getElem?_toArray, List.getElem?_cons_zero, List.getElem?_cons_succ]; try rfl)
            · kernel_rfl
            · kernel_rfl
            · kernel_rfl
            · exact fun _ _ _ h => h
            · refine Or.inl ⟨by rfl, ?_⟩
              (intro w hSw; (try dsimp only at hSw); go_simp; try with_reducible rfl)
            (try simp only [Act.put, List.setIfInBounds_toArray, List.set_cons_zero, List.set_cons_succ])
            refine wpAnyH_take (i := 3) (oi := ?_) (v := ?_) ?_ ?_ ?_ ?_ ?_ ?_ (by exact hHeld) ?_
            rotate_left 2
            · (simp only [List.getElem?_toArray, List.getElem?_cons_zero, List.getElem?_cons_succ]; try rfl)
            · kernel_rfl
            · kernel_rfl
            · kernel_rfl
            · exact fun _ _ _ h => h
            · refine Or.inl ⟨by rfl, ?_⟩
              (intro w hSw; (try dsimp only at hSw); go_simp; try with_reducible rfl)
            (try simp only [Act.put, List.setIfInBounds_toArray, List.set_cons_zero, List.set_cons_succ])
            refine wpAnyH_ready (rs := [0, 4]) (by kernel_rfl) (by simp) ?_
            refine AllReadyH.cons (o := ?_) ?_ (fun K hK => ?_) ?_
            rotate_left 1
            · (simp only [List.getElem?_toArray, List.getElem?_cons_zero]; try rfl)
            · go_simp
              refine hK.out _ _ hHeld (fun hHeld => ?_)
              clear hK K
              (try simp only [Act.put, List.setIfInBounds_toArray, List.set_cons_zero, List.set_cons_succ])
              refine wpAnyH_ready (rs := [4]) (by kernel_rfl) (by simp) ?_
              refine AllReadyH.cons (o := ?_) ?_ (fun K hK => ?_) AllReadyH.nil
              rotate_left 1
              · (simp only [List.getElem?_toArray, List.getElem?_cons_zero, List.getElem?_cons_succ]; try rfl)
              go_simp
              refine (HCUT14.out _ (by exact fun _ => rfl) (by exact rfl) (by exact BS8.out)).mono ?_
              rintro e v14 ⟨⟨ad14, q14, rfl, hcells⟩, hb5⟩
              have hb5 : Below W8.heap.size W8 v14 := ⟨hb5.os, hb5.tape, hb5.output, hb5.size, hb5.block⟩
              have hcells : Bs W8 (some ad14) C2 := hcells
              have HB14 := Lib.hid hb5
              have HCE14 := Lib.hid (hcells.below hb5)
              have RV14 := Lib.hid (RP13.out.below hb5)
              have KV14 := Lib.hid (KP13.out.below hb5)
              have XV14 := Lib.hid (boxed_belowAll XP13.out hb5)
              have co14 : v14.cell? ⟨wc.heap.size + 1 + 1 + 1, 0, none⟩ = some vL := RV14.out.bL.cell
              have qf14 : v14.cell? ⟨B2, 0, none⟩ = some (.func (.func 63) #[] #[.pointer (some ⟨f2.1, 0, none⟩), .pointer (some ⟨f2.2, 0, none⟩)]) := KV14.out.c2.cell
              have qx14 : v14.cell? ⟨Bx, 0, none⟩ = some (.slice B L.length d) := XV14.out.cell
              clear hb5 hcells
              go_wp2_with fail
              refine hK.out _ _ ⟨qf14, qx14⟩ (fun hHeld => ?_)
              clear hK K
              (try simp only [Act.put, List.setIfInBounds_toArray, List.set_cons_zero, List.set_cons_succ])
              refine wpAnyH_ready (rs := [5]) (by kernel_rfl) (by simp) ?_
              refine AllReadyH.cons (o := ?_) ?_ (fun K hK => ?_) AllReadyH.nil
              rotate_left 1
              · (simp only [List.getElem?_toArray, List.getElem?_cons_zero, List.getElem?_cons_succ]; try rfl)
              refine step_app_bytes rfl (.tmp 66) (.tmp 70) rfl w.heap.size vL TL C2 (some ad14) C2.length q14 rfl rfl rfl (by exact RV14.out.rL) (by exact HCE14.out) (by omega) (by have h8 := HB14.out.size; have h9 := HZ8.out; omega) ?_
              intro x14 y14 hown14 hgr14 hbk14
              have hap14 := appended_into RV14.out.bL (by decide) RV14.out.rL (by have h8 := HB14.out.size; have h9 := HZ8.out; omega) (by omega) hown14 hgr14
              have RP14 : R4 (y14.setCell ⟨wc.heap.size + 1 + 1 + 1, 0, none⟩ x14) _ _ _ _ _ _ _ _ _ _ := R4.pushL RV14.out hown14 hgr14 hbk14
              have RP14 := Lib.hid RP14
              have KP14 := Lib.hid (KV14.out.push RV14.out.bL (.inr rfl) (.inr rfl) hap14.2.2.2.2.2)
              have XP14 : Hid (Boxed (y14.setCell ⟨wc.heap.size + 1 + 1 + 1, 0, none⟩ x14) Bx 46 (.slice B L.length d)) := Lib.hid (hap14.2.2.2.2.2 _ _ _ (by decide) (Boxed.types XV14.out RV14.out.bL (by decide)) XV14.out)
              have hf14 := KV14.out.c2.kept hgr14 (KV14.out.c2.not_row (by decide) RV14.out.rL)
              have hx14 := XV14.out.kept hgr14 (XV14.out.not_row (by decide) RV14.out.rL)
              have ff14 : y14.cell? ⟨B2, 0, none⟩ = some (.func (.func 63) #[] #[.pointer (some ⟨f2.1, 0, none⟩), .pointer (some ⟨f2.2, 0, none⟩)]) := hf14.cell
              have fx14 : y14.cell? ⟨Bx, 0, none⟩ = some (.slice B L.length d) := hx14.cell
              have fo14 : y14.cell? ⟨wc.heap.size + 1 + 1 + 1, 0, none⟩ = some vL := hap14.1.cell
              have fz14 : y14.frozen? ⟨wc.heap.size + 1 + 1 + 1, 0, none⟩ = false := hap14.1.frozen
              have KF14 := Lib.hid ((keepsFrom_below W0.heap.size HB14.out).trans (hap14.2.2.2.1.from _))
              have BE14 := Lib.hid ((HB14.out.mono HZ8.out).trans hap14.2.2.2.2.1)
              have BC14 : Hid (∀ b' u, Boxed W8 b' 46 u → Boxed (y14.setCell ⟨wc.heap.size + 1 + 1 + 1, 0, none⟩ x14) b' 46 u) := Lib.hid (fun b' u hb' => hap14.2.2.2.2.2 _ _ _ (by decide) (Boxed.types (boxed_belowAll hb' HB14.out) RV14.out.bL (by decide)) (boxed_belowAll hb' HB14.out))
              obtain ⟨A14, k14, e14, _, _, _⟩ := _root_.Go.Proofs.YthnahenpnafkmaaDoor.Own.form hown14
              rw [List.length_append] at e14
              subst e14
              clear hown14 hgr14 hbk14 hap14 hf14 hx14 qf14 qx14
              refine hK.out _ _ ⟨ff14, fx14⟩ (fun hHeld => ?_)
              clear hK K
              (try simp only [Act.put, List.setIfInBounds_toArray, List.set_cons_zero, List.set_cons_succ])
              refine wpAnyH_ready (rs := [6]) (by kernel_rfl) (by simp) ?_
              refine AllReadyH.cons (o := ?_) ?_ (fun K hK => ?_) AllReadyH.nil
              rotate_left 1
              · (simp only [List.getElem?_toArray, List.getElem?_cons_zero, List.getElem?_cons_succ]; try rfl)
              go_simp
              refine hK.out _ _ ⟨KP14.out.c2.cell, XP14.out.cell⟩ (fun hHeld => ?_)
              clear hK K
              (try simp only [Act.put, List.setIfInBounds_toArray, List.set_cons_zero, List.set_cons_succ])
              refine wpAnyH_done (by kernel_rfl) ?_ _
              refine ⟨by simp, ?_⟩
              clear cO13 cf13 cx13
              refine ⟨KF13.out.trans KF14.out, ⟨BE13.out.trans BE14.out, fun b' u hb' => BC14.out b' u (BC13.out b' u hb')⟩, (by rw [E5.out.1, E5.out.2.1, E5.out.2.2.1, E5.out.2.2.2, HFR.out, HBK.out, HHD.out, HTL.out]; exact ⟨_, _, _, _, RP14.out⟩), KP14.out, h3.trans (BE13.out.trans BE14.out)⟩
            refine AllReadyH.cons (o := ?_) ?_ (fun K hK => ?_) AllReadyH.nil
            rotate_left 1
            · (simp only [List.getElem?_toArray, List.getElem?_cons_zero, List.getElem?_cons_succ]; try rfl)
            go_simp
            refine (HCUT14.out _ (by exact fun _ => rfl) (by exact rfl) (by exact BS8.out)).mono ?_
            rintro e v14 ⟨⟨ad14, q14, rfl, hcells⟩, hb5⟩
            have hb5 : Below W8.heap.size W8 v14 := ⟨hb5.os, hb5.tape, hb5.output, hb5.size, hb5.block⟩
            have hcells : Bs W8 (some ad14) C2 := hcells
            have HB14 := Lib.hid hb5
            have HCE14 := Lib.hid (hcells.below hb5)
            have RV14 := Lib.hid (RP13.out.below hb5)
            have KV14 := Lib.hid (KP13.out.below hb5)
            have XV14 := Lib.hid (boxed_belowAll XP13.out hb5)
            have co14 : v14.cell? ⟨wc.heap.size + 1 + 1 + 1, 0, none⟩ = some vL := RV14.out.bL.cell
            have qf14 : v14.cell? ⟨B2, 0, none⟩ = some (.func (.func 63) #[] #[.pointer (some ⟨f2.1, 0, none⟩), .pointer (some ⟨f2.2, 0, none⟩)]) := KV14.out.c2.cell
            have qx14 : v14.cell? ⟨Bx, 0, none⟩ = some (.slice B L.length d) := XV14.out.cell
            clear hb5 hcells
            go_wp2_with fail
            refine hK.out _ _ ⟨qf14, qx14⟩ (fun hHeld => ?_)
            clear hK K
            (try simp only [Act.put, List.setIfInBounds_toArray, List.set_cons_zero, List.set_cons_succ])
            refine wpAnyH_ready (rs := [0]) (by kernel_rfl) (by simp) ?_
            refine AllReadyH.cons (o := ?_) ?_ (fun K hK => ?_) AllReadyH.nil
            rotate_left 1
            · (simp only [List.getElem?_toArray, List.getElem?_cons_zero]; try rfl)
            go_simp
            refine hK.out _ _ hHeld (fun hHeld => ?_)
            clear hK K
            (try simp only [Act.put, List.setIfInBounds_toArray, List.set_cons_zero, List.set_cons_succ])
            refine wpAnyH_ready (rs := [5]) (by kernel_rfl) (by simp) ?_
            refine AllReadyH.cons (o := ?_) ?_ (fun K hK => ?_) AllReadyH.nil
            rotate_left 1
            · (simp only [List.getElem?_toArray, List.getElem?_cons_zero, List.getElem?_cons_succ]; try rfl)
            refine step_app_bytes rfl (.tmp 66) (.tmp 70) rfl w.heap.size vL TL C2 (some ad14) C2.length q14 rfl rfl rfl (by exact RV14.out.rL) (by exact HCE14.out) (by omega) (by have h8 := HB14.out.size; have h9 := HZ8.out; omega) ?_
            intro x14 y14 hown14 hgr14 hbk14
            have hap14 := appended_into RV14.out.bL (by decide) RV14.out.rL (by have h8 := HB14.out.size; have h9 := HZ8.out; omega) (by omega) hown14 hgr14
            have RP14 : R4 (y14.setCell ⟨wc.heap.size + 1 + 1 + 1, 0, none⟩ x14) _ _ _ _ _ _ _ _ _ _ := R4.pushL RV14.out hown14 hgr14 hbk14
            have RP14 := Lib.hid RP14
            have KP14 := Lib.hid (KV14.out.push RV14.out.bL (.inr rfl) (.inr rfl) hap14.2.2.2.2.2)
            have XP14 : Hid (Boxed (y14.setCell ⟨wc.heap.size + 1 + 1 + 1, 0, none⟩ x14) Bx 46 (.slice B L.length d)) := Lib.hid (hap14.2.2.2.2.2 _ _ _ (by decide) (Boxed.types XV14.out RV14.out.bL (by decide)) XV14.out)
            have hf14 := KV14.out.c2.kept hgr14 (KV14.out.c2.not_row (by decide) RV14.out.rL)
            have hx14 := XV14.out.kept hgr14 (XV14.out.not_row (by decide) RV14.out.rL)
            have ff14 : y14.cell? ⟨B2, 0, none⟩ = some (.func (.func 63) #[] #[.pointer (some ⟨f2.1, 0, none⟩), .pointer (some ⟨f2.2, 0, none⟩)]) := hf14.cell
            have fx14 : y14.cell? ⟨Bx, 0, none⟩ = some (.slice B L.length d) := hx14.cell
            have fo14 : y14.cell? ⟨wc.heap.size + 1 + 1 + 1, 0, none⟩ = some vL := hap14.1.cell
            have fz14 : y14.frozen? ⟨wc.heap.size + 1 + 1 + 1, 0, none⟩ = false := hap14.1.frozen
            have KF14 := Lib.hid ((keepsFrom_below W0.heap.size HB14.out).trans (hap14.2.2.2.1.from _))
            have BE14 := Lib.hid ((HB14.out.mono HZ8.out).trans hap14.2.2.2.2.1)
            have BC14 : Hid (∀ b' u, Boxed W8 b' 46 u → Boxed (y14.setCell ⟨wc.heap.size + 1 + 1 + 1, 0, none⟩ x14) b' 46 u) := Lib.hid (fun b' u hb' => hap14.2.2.2.2.2 _ _ _ (by decide) (Boxed.types (boxed_belowAll hb' HB14.out) RV14.out.bL (by decide)) (boxed_belowAll hb' HB14.out))
            obtain ⟨A14, k14, e14, _, _, _⟩ := _root_.Go.Proofs.YthnahenpnafkmaaDoor.Own.form hown14
            rw [List.length_append] at e14
            subst e14
            clear hown14 hgr14 hbk14 hap14 hf14 hx14 qf14 qx14
            refine hK.out _ _ ⟨ff14, fx14⟩ (fun hHeld => ?_)
            clear hK K
            (try simp only [Act.put, List.setIfInBounds_toArray, List.set_cons_zero, List.set_cons_succ])
            refine wpAnyH_ready (rs := [6]) (by kernel_rfl) (by simp) ?_
            refine AllReadyH.cons (o := ?_) ?_ (fun K hK => ?_) AllReadyH.nil
            rotate_left 1
            · (simp only [List.getElem?_toArray, List.getElem?_cons_zero, List.getElem?_cons_succ]; try rfl)
            go_simp
            refine hK.out _ _ ⟨KP14.out.c2.cell, XP14.out.cell⟩ (fun hHeld => ?_)
            clear hK K
            (try simp only [Act.put, List.setIfInBounds_toArray, List.set_cons_zero, List.set_cons_succ])
            refine wpAnyH_done (by kernel_rfl) ?_ _
            refine ⟨by simp, ?_⟩
            clear cO13 cf13 cx13
            refine ⟨KF13.out.trans KF14.out, ⟨BE13.out.trans BE14.out, fun b' u hb' => BC14.out b' u (BC13.out b' u hb')⟩, (by rw [E5.out.1, E5.out.2.1, E5.out.2.2.1, E5.out.2.2.2, HFR.out, HBK.out, HHD.out, HTL.out]; exact ⟨_, _, _, _, RP14.out⟩), KP14.out, h3.trans (BE13.out.trans BE14.out)⟩
          refine AllReadyH.cons (o := ?_) ?_ (fun K hK => ?_) AllReadyH.nil
          rotate_left 1
          · (simp only [List.getElem?_toArray, List.getElem?_cons_zero, List.getElem?_cons_succ]; try rfl)
          go_simp
          refine (HCUT13.out _ (by exact fun _ => rfl) (by exact rfl) (by exact BSW.out)).mono ?_
          rintro e v13 ⟨⟨ad13, q13, rfl, hcells⟩, hb5⟩
          have hb5 : Below W.heap.size W v13 := ⟨hb5.os, hb5.tape, hb5.output, hb5.size, hb5.block⟩
          have hcells : Bs W (some ad13) C1 := hcells
          have HB13 := Lib.hid hb5
          have HCE13 := Lib.hid (hcells.below hb5)
          have RV13 := Lib.hid (HR4.out.below hb5)
          have KV13 := Lib.hid (HK5.out.below hb5)
          have XV13 := Lib.hid (boxed_belowAll HX1.out hb5)
          have co13 : v13.cell? ⟨wc.heap.size + 1 + 1, 0, none⟩ = some vH := RV13.out.bH.cell
          have qf13 : v13.cell? ⟨B1, 0, none⟩ = some (.func (.func 63) #[] #[.pointer (some ⟨f1.1, 0, none⟩), .pointer (some ⟨f1.2, 0, none⟩)]) := KV13.out.c1.cell
          have qx13 : v13.cell? ⟨Bx, 0, none⟩ = some (.slice B L.length d) := XV13.out.cell
          clear hb5 hcells
          go_wp2_with fail
          refine hK.out _ _ ⟨qf13, qx13⟩ (fun hHeld => ?_)
          clear hK K
          (try simp only [Act.put, List.setIfInBounds_toArray, List.set_cons_zero, List.set_cons_succ])
          refine wpAnyH_ready (rs := [0]) (by kernel_rfl) (by simp) ?_
          refine AllReadyH.cons (o := ?_) ?_ (fun K hK => ?_) AllReadyH.nil
          rotate_left 1
          · (simp only [List.getElem?_toArray, List.getElem?_cons_zero]; try rfl)
          go_simp
          refine hK.out _ _ hHeld (fun hHeld => ?_)
          clear hK K
          (try simp only [Act.put, List.setIfInBounds_toArray, List.set_cons_zero, List.set_cons_succ])
          refine wpAnyH_ready (rs := [5]) (by kernel_rfl) (by simp) ?_
          refine AllReadyH.cons (o := ?_) ?_ (fun K hK => ?_) AllReadyH.nil
          rotate_left 1
          · (simp only [List.getElem?_toArray, List.getElem?_cons_zero, List.getElem?_cons_succ]; try rfl)
          refine step_app_bytes rfl (.tmp 60) (.tmp 64) rfl w.heap.size vH HD C1 (some ad13) C1.length q13 rfl rfl rfl (by exact RV13.out.rH) (by exact HCE13.out) (by omega) (by have h8 := HB13.out.size; have h9 := h3.size; omega) ?_
          intro x13 y13 hown13 hgr13 hbk13
          have hap13 := appended_into RV13.out.bH (by decide) RV13.out.rH (by have h8 := HB13.out.size; have h9 := h3.size; omega) (by omega) hown13 hgr13
          have RP13 : R4 (y13.setCell ⟨wc.heap.size + 1 + 1, 0, none⟩ x13) _ _ _ _ _ _ _ _ _ _ := R4.pushH RV13.out hown13 hgr13 hbk13
          have RP13 := Lib.hid RP13
          have KP13 := Lib.hid (KV13.out.push RV13.out.bH (.inr rfl) (.inr rfl) hap13.2.2.2.2.2)
          have XP13 : Hid (Boxed (y13.setCell ⟨wc.heap.size + 1 + 1, 0, none⟩ x13) Bx 46 (.slice B L.length d)) := Lib.hid (hap13.2.2.2.2.2 _ _ _ (by decide) (Boxed.types XV13.out RV13.out.bH (by decide)) XV13.out)
          have hf13 := KV13.out.c1.kept hgr13 (KV13.out.c1.not_row (by decide) RV13.out.rH)
          have hx13 := XV13.out.kept hgr13 (XV13.out.not_row (by decide) RV13.out.rH)
          have ff13 : y13.cell? ⟨B1, 0, none⟩ = some (.func (.func 63) #[] #[.pointer (some ⟨f1.1, 0, none⟩), .pointer (some ⟨f1.2, 0, none⟩)]) := hf13.cell
          have fx13 : y13.cell? ⟨Bx, 0, none⟩ = some (.slice B L.length d) := hx13.cell
          have fo13 : y13.cell? ⟨wc.heap.size + 1 + 1, 0, none⟩ = some vH := hap13.1.cell
          have fz13 : y13.frozen? ⟨wc.heap.size + 1 + 1, 0, none⟩ = false := hap13.1.frozen
          have KF13 := Lib.hid ((keepsFrom_below W0.heap.size HB13.out).trans (hap13.2.2.2.1.from _))
          have BE13 := Lib.hid ((HB13.out.mono h3.size).trans hap13.2.2.2.2.1)
          have BC13 : Hid (∀ b' u, Boxed W b' 46 u → Boxed (y13.setCell ⟨wc.heap.size + 1 + 1, 0, none⟩ x13) b' 46 u) := Lib.hid (fun b' u hb' => hap13.2.2.2.2.2 _ _ _ (by decide) (Boxed.types (boxed_belowAll hb' HB13.out) RV13.out.bH (by decide)) (boxed_belowAll hb' HB13.out))
          obtain ⟨A13, k13, e13, _, _, _⟩ := _root_.Go.Proofs.YthnahenpnafkmaaDoor.Own.form hown13
          rw [List.length_append] at e13
          subst e13
          clear hown13 hgr13 hbk13 hap13 hf13 hx13 qf13 qx13
          refine hK.out _ _ ⟨ff13, fx13⟩ (fun hHeld => ?_)
          clear hK K
          (try simp only [Act.put, List.setIfInBounds_toArray, List.set_cons_zero, List.set_cons_succ])
          refine wpAnyH_ready (rs := [6]) (by kernel_rfl) (by simp) ?_
          refine AllReadyH.cons (o := ?_) ?_ (fun K hK => ?_) AllReadyH.nil
          rotate_left 1
          · (simp only [List.getElem?_toArray, List.getElem?_cons_zero, List.getElem?_cons_succ]; try rfl)
          go_simp
          refine hK.out _ _ ⟨KP13.out.c1.cell, XP13.out.cell⟩ (fun hHeld => ?_)
          clear hK K
          (try simp only [Act.put, List.setIfInBounds_toArray, List.set_cons_zero, List.set_cons_succ])
          refine wpAnyH_done (by kernel_rfl) ?_ _
          refine ⟨by simp, ?_⟩
          generalize y13.setCell ⟨wc.heap.size + 1 + 1, 0, none⟩ (.slice A13 (HD.length + C1.length) k13) = W8 at *
          have HZ8 : Hid (w.heap.size ≤ W8.heap.size) := Lib.hid (Nat.le_trans h3.size BE13.out.size)
          have BS8 := Lib.hid (HBS.out.below (h3.trans BE13.out))
          have cO14 : W8.cell? ⟨wc.heap.size + 1 + 1 + 1, 0, none⟩ = some vL := RP13.out.bL.cell
          have cf14 : W8.cell? ⟨B2, 0, none⟩ = some (.func (.func 63) #[] #[.pointer (some ⟨f2.1, 0, none⟩), .pointer (some ⟨f2.2, 0, none⟩)]) := KP13.out.c2.cell
          have cx14 : W8.cell? ⟨Bx, 0, none⟩ = some (.slice B L.length d) := XP13.out.cell
          have HCUT14 : Hid (∀ V : World, (∀ a, V.cell? a = W8.cell? a) → V.heap.size = W8.heap.size → Bs V B L → Calls Tryd.prog 63 #[.int .i64 (s : Nat), .agg #[.slice B L.length d], .pointer (some ⟨f2.1, 0, none⟩), .pointer (some ⟨f2.2, 0, none⟩)] V fun e w' => (∃ ad c', e = .returned (.slice (some ad) C2.length c') ∧ Bs V (some ad) C2) ∧ Below V.heap.size V w') := Lib.hid (fun V hV hz hBV => by
            have := cutOut1_any B L d (s : Nat) b N f2.1 f2.2 V hxl.1 hd1 hd2 ⟨by omega, by omega⟩ ⟨by omega, by omega⟩ ⟨by omega, by omega⟩ (by omega) (by rw [hV]; exact KP13.out.p3.cell) (by rw [hV]; exact KP13.out.p4.cell) (by rw [hz]; exact KP13.out.p3.lt) (by rw [hz]; exact KP13.out.p4.lt) hBV
            rw [HC2.out] at this
            exact this)
          gi_wp2_with fail
          refine wpIn_region_round (S := (fun V => V.cell? ⟨B2, 0, none⟩ = some (.func (.func 63) #[] #[.pointer (some ⟨f2.1, 0, none⟩), .pointer (some ⟨f2.2, 0, none⟩)]) ∧ V.cell? ⟨Bx, 0, none⟩ = some (.slice B L.length d))) (by kernel_rfl) (by kernel_rfl) ⟨cf14, cx14⟩ (fun hHeld => ?_)
          refine wpAnyH_take (i := 1) (oi := ?_) (v := ?_) ?_ ?_ ?_ ?_ ?_ ?_ (by exact hHeld) ?_
          rotate_left 2
          · (simp only [List.getElem?_toArray, List.getElem?_cons_zero, List.getElem?_cons_succ]; try rfl)
          · kernel_rfl
          · kernel_rfl
          · kernel_rfl
          · exact fun _ _ _ h => h
          · refine Or.inl ⟨by rfl, ?_⟩
            (intro w hSw; (try dsimp only at hSw); go_simp; try with_reducible rfl)
          (try simp only [Act.put, List.setIfInBounds_toArray, List.set_cons_zero, List.set_cons_succ])
          refine wpAnyH_take (i := 2) (oi := ?_) (v := ?_) ?_ ?_ ?_ ?_ ?_ ?_ (by exact hHeld) ?_
          rotate_left 2
          · (simp only [List.getElem?_toArray, List.getElem?_cons_zero, List.getElem?_cons_succ]; try rfl)
          · kernel_rfl
          · kernel_rfl
          · kernel_rfl
          · exact fun _ _ _ h => h
          · refine Or.inl ⟨by rfl, ?_⟩
            (intro w hSw; (try dsimp only at hSw); go_simp; try with_reducible rfl)
          (try simp only [Act.put, List.setIfInBounds_toArray, List.set_cons_zero, List.set_cons_succ])
          refine wpAnyH_take (i := 3) (oi := ?_) (v := ?_) ?_ ?_ ?_ ?_ ?_ ?_ (by exact hHeld) ?_
          rotate_left 2
          · (simp only [List.getElem?_toArray, List.getElem?_cons_zero, List.getElem?_cons_succ]; try rfl)
          · kernel_rfl
          · kernel_rfl
          · kernel_rfl
          · exact fun _ _ _ h => h
          · refine Or.inl ⟨by rfl, ?_⟩
            (intro w hSw; (try dsimp only at hSw); go_simp; try with_reducible rfl)
          (try simp only [Act.put, List.setIfInBounds_toArray, List.set_cons_zero, List.set_cons_succ])
          refine wpAnyH_ready (rs := [0, 4]) (by kernel_rfl) (by simp) ?_
          refine AllReadyH.cons (o := ?_) ?_ (fun K hK => ?_) ?_
          rotate_left 1
          · (simp only [List.getElem?_toArray, List.getElem?_cons_zero]; try rfl)
          · go_simp
            refine hK.out _ _ hHeld (fun hHeld => ?_)
            clear hK K
            (try simp only [Act.put, List.setIfInBounds_toArray, List.set_cons_zero, List.set_cons_succ])
            refine wpAnyH_ready (rs := [4]) (by kernel_rfl) (by simp) ?_
            refine AllReadyH.cons (o := ?_) ?_ (fun K hK => ?_) AllReadyH.nil
            rotate_left 1
            · (simp only [List.getElem?_toArray, List.getElem?_cons_zero, List.getElem?_cons_succ]; try rfl)
            go_simp
            refine (HCUT14.out _ (by exact fun _ => rfl) (by exact rfl) (by exact BS8.out)).mono ?_
            rintro e v14 ⟨⟨ad14, q14, rfl, hcells⟩, hb5⟩
            have hb5 : Below W8.heap.size W8 v14 := ⟨hb5.os, hb5.tape, hb5.output, hb5.size, hb5.block⟩
            have hcells : Bs W8 (some ad14) C2 := hcells
            have HB14 := Lib.hid hb5
            have HCE14 := Lib.hid (hcells.below hb5)
            have RV14 := Lib.hid (RP13.out.below hb5)
            have KV14 := Lib.hid (KP13.out.below hb5)
            have XV14 := Lib.hid (boxed_belowAll XP13.out hb5)
            have co14 : v14.cell? ⟨wc.heap.size + 1 + 1 + 1, 0, none⟩ = some vL := RV14.out.bL.cell
            have qf14 : v14.cell? ⟨B2, 0, none⟩ = some (.func (.func 63) #[] #[.pointer (some ⟨f2.1, 0, none⟩), .pointer (some ⟨f2.2, 0, none⟩)]) := KV14.out.c2.cell
            have qx14 : v14.cell? ⟨Bx, 0, none⟩ = some (.slice B L.length d) := XV14.out.cell
            clear hb5 hcells
            go_wp2_with fail
            refine hK.out _ _ ⟨qf14, qx14⟩ (fun hHeld => ?_)
            clear hK K
            (try simp only [Act.put, List.setIfInBounds_toArray, List.set_cons_zero, List.set_cons_succ])
            refine wpAnyH_ready (rs := [5]) (by kernel_rfl) (by simp) ?_
            refine AllReadyH.cons (o := ?_) ?_ (fun K hK => ?_) AllReadyH.nil
            rotate_left 1
            · (simp only [List.getElem?_toArray, List.getElem?_cons_zero, List.getElem?_cons_succ]; try rfl)
            refine step_app_bytes rfl (.tmp 66) (.tmp 70) rfl w.heap.size vL TL C2 (some ad14) C2.length q14 rfl rfl rfl (by exact RV14.out.rL) (by exact HCE14.out) (by omega) (by have h8 := HB14.out.size; have h9 := HZ8.out; omega) ?_
            intro x14 y14 hown14 hgr14 hbk14
            have hap14 := appended_into RV14.out.bL (by decide) RV14.out.rL (by have h8 := HB14.out.size; have h9 := HZ8.out; omega) (by omega) hown14 hgr14
            have RP14 : R4 (y14.setCell ⟨wc.heap.size + 1 + 1 + 1, 0, none⟩ x14) _ _ _ _ _ _ _ _ _ _ := R4.pushL RV14.out hown14 hgr14 hbk14
            have RP14 := Lib.hid RP14
            have KP14 := Lib.hid (KV14.out.push RV14.out.bL (.inr rfl) (.inr rfl) hap14.2.2.2.2.2)
            have XP14 : Hid (Boxed (y14.setCell ⟨wc.heap.size + 1 + 1 + 1, 0, none⟩ x14) Bx 46 (.slice B L.length d)) := Lib.hid (hap14.2.2.2.2.2 _ _ _ (by decide) (Boxed.types XV14.out RV14.out.bL (by decide)) XV14.out)
            have hf14 := KV14.out.c2.kept hgr14 (KV14.out.c2.not_row (by decide) RV14.out.rL)
            have hx14 := XV14.out.kept hgr14 (XV14.out.not_row (by decide) RV14.out.rL)
            have ff14 : y14.cell? ⟨B2, 0, none⟩ = some (.func (.func 63) #[] #[.pointer (some ⟨f2.1, 0, none⟩), .pointer (some ⟨f2.2, 0, none⟩)]) := hf14.cell
            have fx14 : y14.cell? ⟨Bx, 0, none⟩ = some (.slice B L.length d) := hx14.cell
            have fo14 : y14.cell? ⟨wc.heap.size + 1 + 1 + 1, 0, none⟩ = some vL := hap14.1.cell
            have fz14 : y14.frozen? ⟨wc.heap.size + 1 + 1 + 1, 0, none⟩ = false := hap14.1.frozen
            have KF14 := Lib.hid ((keepsFrom_below W0.heap.size HB14.out).trans (hap14.2.2.2.1.from _))
            have BE14 := Lib.hid ((HB14.out.mono HZ8.out).trans hap14.2.2.2.2.1)
            have BC14 : Hid (∀ b' u, Boxed W8 b' 46 u → Boxed (y14.setCell ⟨wc.heap.size + 1 + 1 + 1, 0, none⟩ x14) b' 46 u) := Lib.hid (fun b' u hb' => hap14.2.2.2.2.2 _ _ _ (by decide) (Boxed.types (boxed_belowAll hb' HB14.out) RV14.out.bL (by decide)) (boxed_belowAll hb' HB14.out))
            obtain ⟨A14, k14, e14, _, _, _⟩ := _root_.Go.Proofs.YthnahenpnafkmaaDoor.Own.form hown14
            rw [List.length_append] at e14
            subst e14
            clear hown14 hgr14 hbk14 hap14 hf14 hx14 qf14 qx14
            refine hK.out _ _ ⟨ff14, fx14⟩ (fun hHeld => ?_)
            clear hK K
            (try simp only [Act.put, List.setIfInBounds_toArray, List.set_cons_zero, List.set_cons_succ])
            refine wpAnyH_ready (rs := [6]) (by kernel_rfl) (by simp) ?_
            refine AllReadyH.cons (o := ?_) ?_ (fun K hK => ?_) AllReadyH.nil
            rotate_left 1
            · (simp only [List.getElem?_toArray, List.getElem?_cons_zero, List.getElem?_cons_succ]; try rfl)
            go_simp
            refine hK.out _ _ ⟨KP14.out.c2.cell, XP14.out.cell⟩ (fun hHeld => ?_)
            clear hK K
            (try simp only [Act.put, List.setIfInBounds_toArray, List.set_cons_zero, List.set_cons_succ])
            refine wpAnyH_done (by kernel_rfl) ?_ _
            refine ⟨by simp, ?_⟩
            clear cO13 cf13 cx13
            refine ⟨KF13.out.trans KF14.out, ⟨BE13.out.trans BE14.out, fun b' u hb' => BC14.out b' u (BC13.out b' u hb')⟩, (by rw [E5.out.1, E5.out.2.1, E5.out.2.2.1, E5.out.2.2.2, HFR.out, HBK.out, HHD.out, HTL.out]; exact ⟨_, _, _, _, RP14.out⟩), KP14.out, h3.trans (BE13.out.trans BE14.out)⟩
          refine AllReadyH.cons (o := ?_) ?_ (fun K hK => ?_) AllReadyH.nil
          rotate_left 1
          · (simp only [List.getElem?_toArray, List.getElem?_cons_zero, List.getElem?_cons_succ]; try rfl)
          go_simp
          refine (HCUT14.out _ (by exact fun _ => rfl) (by exact rfl) (by exact BS8.out)).mono ?_
          rintro e v14 ⟨⟨ad14, q14, rfl, hcells⟩, hb5⟩
          have hb5 : Below W8.heap.size W8 v14 := ⟨hb5.os, hb5.tape, hb5.output, hb5.size, hb5.block⟩
          have hcells : Bs W8 (some ad14) C2 := hcells
          have HB14 := Lib.hid hb5
          have HCE14 := Lib.hid (hcells.below hb5)
          have RV14 := Lib.hid (RP13.out.below hb5)
          have KV14 := Lib.hid (KP13.out.below hb5)
          have XV14 := Lib.hid (boxed_belowAll XP13.out hb5)
          have co14 : v14.cell? ⟨wc.heap.size + 1 + 1 + 1, 0, none⟩ = some vL := RV14.out.bL.cell
          have qf14 : v14.cell? ⟨B2, 0, none⟩ = some (.func (.func 63) #[] #[.pointer (some ⟨f2.1, 0, none⟩), .pointer (some ⟨f2.2, 0, none⟩)]) := KV14.out.c2.cell
          have qx14 : v14.cell? ⟨Bx, 0, none⟩ = some (.slice B L.length d) := XV14.out.cell
          clear hb5 hcells
          go_wp2_with fail
          refine hK.out _ _ ⟨qf14, qx14⟩ (fun hHeld => ?_)
          clear hK K
          (try simp only [Act.put, List.setIfInBounds_toArray, List.set_cons_zero, List.set_cons_succ])
          refine wpAnyH_ready (rs := [0]) (by kernel_rfl) (by simp) ?_
          refine AllReadyH.cons (o := ?_) ?_ (fun K hK => ?_) AllReadyH.nil
          rotate_left 1
          · (simp only [List.getElem?_toArray, List.getElem?_cons_zero]; try rfl)
          go_simp
          refine hK.out _ _ hHeld (fun hHeld => ?_)
          clear hK K
          (try simp only [Act.put, List.setIfInBounds_toArray, List.set_cons_zero, List.set_cons_succ])
          refine wpAnyH_ready (rs := [5]) (by kernel_rfl) (by simp) ?_
          refine AllReadyH.cons (o := ?_) ?_ (fun K hK => ?_) AllReadyH.nil
          rotate_left 1
          · (simp only [List.getElem?_toArray, List.getElem?_cons_zero, List.getElem?_cons_succ]; try rfl)
          refine step_app_bytes rfl (.tmp 66) (.tmp 70) rfl w.heap.size vL TL C2 (some ad14) C2.length q14 rfl rfl rfl (by exact RV14.out.rL) (by exact HCE14.out) (by omega) (by have h8 := HB14.out.size; have h9 := HZ8.out; omega) ?_
          intro x14 y14 hown14 hgr14 hbk14
          have hap14 := appended_into RV14.out.bL (by decide) RV14.out.rL (by have h8 := HB14.out.size; have h9 := HZ8.out; omega) (by omega) hown14 hgr14
          have RP14 : R4 (y14.setCell ⟨wc.heap.size + 1 + 1 + 1, 0, none⟩ x14) _ _ _ _ _ _ _ _ _ _ := R4.pushL RV14.out hown14 hgr14 hbk14
          have RP14 := Lib.hid RP14
          have KP14 := Lib.hid (KV14.out.push RV14.out.bL (.inr rfl) (.inr rfl) hap14.2.2.2.2.2)
          have XP14 : Hid (Boxed (y14.setCell ⟨wc.heap.size + 1 + 1 + 1, 0, none⟩ x14) Bx 46 (.slice B L.length d)) := Lib.hid (hap14.2.2.2.2.2 _ _ _ (by decide) (Boxed.types XV14.out RV14.out.bL (by decide)) XV14.out)
          have hf14 := KV14.out.c2.kept hgr14 (KV14.out.c2.not_row (by decide) RV14.out.rL)
          have hx14 := XV14.out.kept hgr14 (XV14.out.not_row (by decide) RV14.out.rL)
          have ff14 : y14.cell? ⟨B2, 0, none⟩ = some (.func (.func 63) #[] #[.pointer (some ⟨f2.1, 0, none⟩), .pointer (some ⟨f2.2, 0, none⟩)]) := hf14.cell
          have fx14 : y14.cell? ⟨Bx, 0, none⟩ = some (.slice B L.length d) := hx14.cell
          have fo14 : y14.cell? ⟨wc.heap.size + 1 + 1 + 1, 0, none⟩ = some vL := hap14.1.cell
          have fz14 : y14.frozen? ⟨wc.heap.size + 1 + 1 + 1, 0, none⟩ = false := hap14.1.frozen
          have KF14 := Lib.hid ((keepsFrom_below W0.heap.size HB14.out).trans (hap14.2.2.2.1.from _))
          have BE14 := Lib.hid ((HB14.out.mono HZ8.out).trans hap14.2.2.2.2.1)
          have BC14 : Hid (∀ b' u, Boxed W8 b' 46 u → Boxed (y14.setCell ⟨wc.heap.size + 1 + 1 + 1, 0, none⟩ x14) b' 46 u) := Lib.hid (fun b' u hb' => hap14.2.2.2.2.2 _ _ _ (by decide) (Boxed.types (boxed_belowAll hb' HB14.out) RV14.out.bL (by decide)) (boxed_belowAll hb' HB14.out))
          obtain ⟨A14, k14, e14, _, _, _⟩ := _root_.Go.Proofs.YthnahenpnafkmaaDoor.Own.form hown14
          rw [List.length_append] at e14
          subst e14
          clear hown14 hgr14 hbk14 hap14 hf14 hx14 qf14 qx14
          refine hK.out _ _ ⟨ff14, fx14⟩ (fun hHeld => ?_)
          clear hK K
          (try simp only [Act.put, List.setIfInBounds_toArray, List.set_cons_zero, List.set_cons_succ])
          refine wpAnyH_ready (rs := [6]) (by kernel_rfl) (by simp) ?_
          refine AllReadyH.cons (o := ?_) ?_ (fun K hK => ?_) AllReadyH.nil
          rotate_left 1
          · (simp only [List.getElem?_toArray, List.getElem?_cons_zero, List.getElem?_cons_succ]; try rfl)
          go_simp
          refine hK.out _ _ ⟨KP14.out.c2.cell, XP14.out.cell⟩ (fun hHeld => ?_)
          clear hK K
          (try simp only [Act.put, List.setIfInBounds_toArray, List.set_cons_zero, List.set_cons_succ])
          refine wpAnyH_done (by kernel_rfl) ?_ _
          refine ⟨by simp, ?_⟩
          clear cO13 cf13 cx13
          refine ⟨KF13.out.trans KF14.out, ⟨BE13.out.trans BE14.out, fun b' u hb' => BC14.out b' u (BC13.out b' u hb')⟩, (by rw [E5.out.1, E5.out.2.1, E5.out.2.2.1, E5.out.2.2.2, HFR.out, HBK.out, HHD.out, HTL.out]; exact ⟨_, _, _, _, RP14.out⟩), KP14.out, h3.trans (BE13.out.trans BE14.out)⟩
        -- MIDDLE ENDS
    case done =>
      rintro D ys W hD rfl ⟨⟨vF, vK, vH, vL, h1⟩, h2, h3⟩ hK
      have hDl : D < W.heap.size := (Array.getElem?_eq_some_iff.1 hK).1
      have hrd : RdAll W xs ls := hR.below h3
      have rdF := rdF_of (a := a) hrd (ks ls.length ls.length)
      have rdK := rdK_of (a := a) (b := b) hrd (ks ls.length ls.length)
      obtain ⟨n1, n2, n3, n4⟩ := edit_lens ls a b N 400 (fun k h => (hne k h).2) (ks ls.length ls.length)
      have hkl := ks_length ls.length ls.length
      obtain ⟨FR, hFR⟩ : ∃ FR, frV ls xs a (ks ls.length ls.length) = FR := ⟨_, rfl⟩
      obtain ⟨BK, hBK⟩ : ∃ BK, bkV ls xs a b (ks ls.length ls.length) = BK := ⟨_, rfl⟩
      obtain ⟨HD, hHD⟩ : ∃ HD, hdV ls a b (ks ls.length ls.length) = HD := ⟨_, rfl⟩
      obtain ⟨TL, hTL⟩ : ∃ TL, tlV ls a b N (ks ls.length ls.length) = TL := ⟨_, rfl⟩
      obtain ⟨FL, hFL⟩ : ∃ FL, ofP ls (frP ls a (ks ls.length ls.length)) = FL := ⟨_, rfl⟩
      obtain ⟨KL, hKL⟩ : ∃ KL, ofP ls (bkP ls a b (ks ls.length ls.length)) = KL := ⟨_, rfl⟩
      rw [hFR, hBK, hHD, hTL] at h1
      rw [hFR, hFL] at rdF
      rw [hBK, hKL] at rdK
      rw [hHD] at n3
      rw [hTL] at n4
      have hres : editR ls a b N p = FL ++ (chunksOf (HD ++ (p ++ TL)) ++ KL) := by unfold editR; rw [hFL, hKL, hHD, hTL]
      have hneF : ∀ x ∈ FL, 0 < x.length ∧ x.length ≤ 1000000 := by rw [← hFL]; exact ofP_ne hne _
      have hneK : ∀ x ∈ KL, 0 < x.length ∧ x.length ≤ 1000000 := by rw [← hKL]; exact ofP_ne hne _
      have hlF : FL.length ≤ 400 := by rw [← rdF.1, ← hFR]; have := frV_len ls xs a (ks ls.length ls.length); omega
      have hlK : KL.length ≤ 400 := by rw [← rdK.1, ← hBK]; have := bkV_len ls xs a b (ks ls.length ls.length); omega
      obtain ⟨AF, cF, eF, hcF, _, hVF⟩ := ownsRow_form h1.rF
      obtain ⟨AK, cK, eK, hcK, _, hVK⟩ := ownsRow_form h1.rK
      obtain ⟨AH, cH, eH, hcH, _, hBH⟩ := _root_.Go.Proofs.YthnahenpnafkmaaDoor.Own.form h1.rH
      obtain ⟨AL, cL, eL, hcL, _, hBL⟩ := _root_.Go.Proofs.YthnahenpnafkmaaDoor.Own.form h1.rL
      rw [rdF.1] at eF hcF
      rw [rdK.1] at eK hcK
      subst eF eK eH eL
      have hcsF : Cs W AF FL := Cs.of_vals (fun k hk => by obtain ⟨b', g1, g2, g3⟩ := hVF k hk; exact ⟨b', 0, g1, g2, by rw [Nat.zero_add]; exact g3⟩) rdF
      have hcsK : Cs W AK KL := Cs.of_vals (fun k hk => by obtain ⟨b', g1, g2, g3⟩ := hVK k hk; exact ⟨b', 0, g1, g2, by rw [Nat.zero_add]; exact g3⟩) rdK
      have cF0 : W.cell? ⟨wc.heap.size, 0, none⟩ = some (.slice AF FL.length cF) := h1.bF.cell
      have cK0 : W.cell? ⟨wc.heap.size + 1, 0, none⟩ = some (.slice AK KL.length cK) := h1.bK.cell
      have cH0 : W.cell? ⟨wc.heap.size + 1 + 1, 0, none⟩ = some (.slice AH HD.length cH) := h1.bH.cell
      have cL0 : W.cell? ⟨wc.heap.size + 1 + 1 + 1, 0, none⟩ = some (.slice AL TL.length cL) := h1.bL.cell
      have hbF := h1.bF
      have hbK := h1.bK
      have HBF := Lib.hid hbF
      have HBK' := Lib.hid hbK
      have HBR := Lib.hid h2.r
      have HB1 : Hid (Calls Tryd.prog 45 #[.slice (some ⟨W.heap.size, 0, none⟩) 3 3] (W.alloc (.cells #[.slice AH HD.length cH, .slice Ap p.length cp, .slice AL TL.length cL] 22)) fun e w' => ∃ v, e = .returned v ∧ _root_.Go.Proofs.YthnahenpnafkmaaDoor.Own w' W.heap.size v (HD ++ (p ++ TL)) ∧ Below W.heap.size W w') :=
        Lib.hid (concatBy3_any AH Ap AL HD p TL cH cp cL W hcH hpc hcL (by have := isText_len HP.out; omega) hBH (hP.below h3) hBL)
      have HCF := Lib.hid hcsF
      have HCK := Lib.hid hcsK
      have HNF := Lib.hid hneF
      have HNK := Lib.hid hneK
      have HRES := Lib.hid hres
      clear h1 h2 hVF hVK hBH hBL hcsF hcsK hneF hneK hres rdF rdK hrd hFR hBK hHD hTL hFL hKL hbF hbK
      go_wp2_with fail
      refine HB1.out.mono ?_
      rintro e w1 ⟨v1, rfl, hown1, hb1⟩
      obtain ⟨Q1, q1, rfl, hq1, hqm1, hBq1⟩ := _root_.Go.Proofs.YthnahenpnafkmaaDoor.Own.form hown1
      obtain ⟨T1, hT1⟩ : ∃ T1, HD ++ (p ++ TL) = T1 := ⟨_, rfl⟩
      rw [hT1] at hq1 hBq1
      have hq9 : q1 ≤ 9223372036854775807 := by unfold maxLen at hqm1; omega
      have HT1 := Lib.hid hT1
      have HBW1 := Lib.hid (h3.trans (hb1.mono h3.size))
      have HB01 := Lib.hid hb1
      have HBQ := Lib.hid hBq1
      rw [hT1] 
      clear hown1 hb1 hT1 hqm1 hBq1 cH0 cL0 HB1
      go_wp2_with fail
      refine (implChunksOf_any Q1 T1 q1 _ hq1 hq9 (by exact hT.below HBW1.out) (by exact HBQ.out)).mono ?_
      rintro e w2 ⟨cs2, fp2, rfl, how2, hnd2, hfp2, hb2⟩
      obtain ⟨BM, dM, rfl, hdM, _, hCM⟩ := Lay.chunks.read how2
      unfold wSlice
      have hb02 := below_then HB01.out hb2
      have HB02 := Lib.hid hb02
      have HBW2 := Lib.hid (h3.trans (hb02.mono h3.size))
      have cF2 : w2.cell? ⟨wc.heap.size, 0, none⟩ = some (.slice AF FL.length cF) := (boxed_belowAll HBF.out hb02).cell
      have cK2 : w2.cell? ⟨wc.heap.size + 1, 0, none⟩ = some (.slice AK KL.length cK) := (boxed_belowAll HBK'.out hb02).cell
      have hml := chunksOk_len (chunksOf_ok T1)
      have hmne : ∀ x ∈ chunksOf T1, 0 < x.length ∧ x.length ≤ 1000000 := fun x hx => by have := (chunkOk_iff _).1 (chunksOf_all T1 x hx); omega
      have HMNE := Lib.hid hmne
      obtain ⟨ML, hML⟩ : ∃ ML, chunksOf T1 = ML := ⟨_, rfl⟩
      have HML := Lib.hid hML
      rw [hML] at hml hdM hCM hmne ⊢
      have HC3 : Hid (Calls Tryd.prog 19 #[.slice (some ⟨w2.heap.size, 0, none⟩) 3 3] (w2.alloc (.cells #[.slice AF FL.length cF, .slice BM ML.length dM, .slice AK KL.length cK] 24)) fun e w' => ∃ Q q, e = .returned (.slice Q (FL ++ (ML ++ KL)).length q) ∧ (FL ++ (ML ++ KL)).length ≤ q ∧ Cs w' Q (FL ++ (ML ++ KL)) ∧ Below w2.heap.size w2 w') :=
        Lib.hid (concatCh3_any AF BM AK FL ML KL cF dM cK w2 hcF hdM hcK (by omega) (HCF.out.below hb02) hCM (HCK.out.below hb02))
      have hall : ∀ x ∈ FL ++ (ML ++ KL), 0 < x.length ∧ x.length ≤ 1000000 := fun x hx => by
        rcases List.mem_append.1 hx with h | h
        · exact HNF.out x h
        · rcases List.mem_append.1 h with h | h
          · exact hmne x h
          · exact HNK.out x h
      have hlen : (FL ++ (ML ++ KL)).length ≤ 1000000 := by rw [List.length_append, List.length_append]; omega
      have hfin : editR ls a b N p = FL ++ (ML ++ KL) := by rw [HRES.out, HT1.out, HML.out]
      obtain ⟨EL, hEL⟩ : ∃ EL, FL ++ (ML ++ KL) = EL := ⟨_, rfl⟩
      rw [hEL] at HC3 hall hlen hfin
      have HALL := Lib.hid hall
      have HFIN := Lib.hid hfin
      clear hall hfin hEL hML hmne how2 hnd2 hfp2 hb2 hb02 hCM HRES HMNE cF0 cK0
      go_wp2_with fail
      refine HC3.out.mono ?_
      rintro e w3 ⟨Q3, q3, rfl, hq3, hC3, hb3⟩
      have hb03 := HB02.out.trans (hb3.mono HB02.out.size)
      have HB03 := Lib.hid hb03
      clear hb3 HC3 cF2 cK2
      go_wp2_with fail
      refine (ropeFrom_any Q3 EL q3 _ hlen HALL.out (by exact hC3)).mono ?_
      rintro e w4 ⟨v4, fp4, rfl, how4, hnd4, hfp4, hb4⟩
      have hb04 := hb03.trans (hb4.mono hb03.size)
      have hr4 := boxed_belowAll HBR.out hb04
      have cR4 : w4.cell? ⟨w.heap.size + 1 + 1, 0, none⟩ = some (.slice none 0 0) := hr4.cell
      have gR4 : w4.frozen? ⟨w.heap.size + 1 + 1, 0, none⟩ = false := hr4.frozen
      obtain ⟨A4, c4, rfl, _, _, _⟩ := Lay.chunks_rd (Lay.chunks.read how4)
      have hK4 : w4.heap[D]? = some (.deferred (some [])) := (hb04.block D hDl).trans hK
      have hs3 := hb03.size
      have hs4 := hb4.size
      have hws := h3.size
      have HOW4 := Lib.hid how4
      have HFP4 := Lib.hid hfp4
      have HB04 := Lib.hid hb04
      clear how4 hfp4 hb04 hb4 hb03 hC3
      go_wp2
      have hK5 := (KeepsOthers.setCell w4 ⟨w.heap.size + 1 + 1, 0, none⟩ (.slice A4 EL.length c4)).same D _ hK4 rfl
      refine ⟨by simp, .inl ⟨_, _, rfl, run_takeDeferred hK5, ?_⟩⟩
      have hr5 := hr4.set (.slice A4 EL.length c4)
      have hr6 := box_kept_far hr5 (grownBy_putObj' _ D (.deferred none)) (fun r e => by cases e; exact ⟨_, hK5, rfl⟩)
      have cR6 := hr6.cell
      have how5 := Lay.chunks_setBelow HOW4.out (a := ⟨w.heap.size + 1 + 1, 0, none⟩) (fun h => by have := HFP4.out _ h; have := HBR.out.lt; simp at *; omega) (.slice A4 EL.length c4)
      have how6 := Lay.chunks.kept how5 (fun k hk => (grownBy_putObj' (w4.setCell ⟨w.heap.size + 1 + 1, 0, none⟩ (.slice A4 EL.length c4)) D (.deferred none)).block k (Lay.chunks.lt how5 k hk) (fun e => by have := HFP4.out k hk; cases e; omega)) (grownBy_putObj' _ D (.deferred none)).size
      refine ⟨.tuple #[.agg #[.slice A4 EL.length c4], .bool true], by simp [results, Tryd.results18, go_sem, cR6], ?_⟩
      rw [HB.out, HNE.out, HFIN.out]
      exact ⟨_, fp4, rfl, how6, hnd4, fun k hk => by have := HFP4.out k hk; omega, ((h3.trans (HB04.out.mono hws)).setCell (p := ⟨w.heap.size + 1 + 1, 0, none⟩) (by simp; omega) _).trans (belowK_b (w := w) (Nat.le_refl _) _ D _ _ (by omega) hK5 rfl rfl)⟩
    case stop =>
      rintro D c pre W _ _ h _
      exact h.elim
end Go.Proofs.YthnahenpnafkmaaDoor
