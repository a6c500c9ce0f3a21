/-
  Chapter 4, the program's RopeEdit: contract. Own work.
-/
import Derived.Test.YthnahenpnafkmaaDoorI07b
namespace Go.Proofs.YthnahenpnafkmaaDoor
open Go.RowKit Go.Shelf P
set_option linter.unusedVariables false
set_option linter.unusedSimpArgs false
set_option maxRecDepth 100000

/-- Is it an edit of the rope? -/
def editOk (ls : List (List UInt8)) (a m : Int) (p : List UInt8) : Bool := decide (0 ≤ m) && (isText p && ((rCut ls a && rCut ls (a + m)) && decide ((tot ls : Int) - m + p.length ≤ 400)))
def editV (ls : List (List UInt8)) (a m : Int) (p : List UInt8) : List (List UInt8) := if editOk ls a m p then editR ls a (a + m) (tot ls) p else []

theorem editOk_iff (ls : List (List UInt8)) (a m : Int) (p : List UInt8) : editOk ls a m p = true ↔ 0 ≤ m ∧ isText p = true ∧ rCut ls a = true ∧ rCut ls (a + m) = true ∧ (tot ls : Int) - m + p.length ≤ 400 := by
  unfold editOk
  simp only [Bool.and_eq_true, decide_eq_true_eq]
  constructor
  · rintro ⟨h1, h2, ⟨h3, h4⟩, h5⟩; exact ⟨h1, h2, h3, h4, h5⟩
  · rintro ⟨h1, h2, h3, h4, h5⟩; exact ⟨h1, h2, ⟨h3, h4⟩, h5⟩

theorem wrap_cut {ls : List (List UInt8)} {a m : Int} (hm : 0 ≤ m) (hm2 : m ≤ 9223372036854775807) (ha : rCut ls a = true) : isBound (chunksText ls) (IntKind.i64.wrap (a + m)) = isBound (chunksText ls) (a + m) := by
  have h := rCut_range ha
  have htot := chunksOk_tot h.1
  unfold tot at htot
  by_cases h1 : a + m ≤ 9223372036854775807
  · rw [IntWalk.i64_in _ ⟨by omega, h1⟩]
  · have hlen := chunksText_len ls
    rw [isBound_out _ (a + m) (by omega), isBound_out]
    left
    rw [IntKind.wrap_i64]
    omega

theorem givesRB_nil {w w' : World} (hb : Below w.heap.size w w') : GivesRB [] false w (.returned (.tuple #[.agg #[.slice none 0 0], .bool false])) w' :=
  ⟨.slice none 0 0, [], rfl, Lay.slice_nil _ _ _, by simp, by simp, hb⟩

set_option maxHeartbeats 4000000 in
theorem implRopeEdit_any (A : Option Addr) (ls : List (List UInt8)) (c : Nat) (a m : Int) (Ap : Option Addr) (p : List UInt8) (cp : Nat) (w : World) (hn : ls.length ≤ 1048576) (hpc : p.length ≤ cp) (hcp9 : cp ≤ 9223372036854775807) (hT : Tab w) (hC : Cs w A ls) (hP : Bs w Ap p)
    (ha : -9223372036854775808 ≤ a ∧ a ≤ 9223372036854775807) (hm : -9223372036854775808 ≤ m ∧ m ≤ 9223372036854775807) :
    Calls Tryd.prog 18 #[.agg #[.slice A ls.length c], .int .i64 a, .int .i64 m, .slice Ap p.length cp] w (GivesRB (editV ls a m p) (editOk ls a m p) w) := by
  by_cases hok : editOk ls a m p = true
  · obtain ⟨h1, h2, h3, h4, h5⟩ := (editOk_iff ls a m p).1 hok
    have ra := rCut_range h3
    have rb := rCut_range h4
    have hv : editV ls a m p = editR ls a (a + m) (tot ls) p := by unfold editV; rw [if_pos hok]
    rw [hv, hok]
    refine implRopeEdit_ok A ls c a m Ap p cp w hn hpc hcp9 hT hC hP ra.2.1 h1 (by unfold tot; exact rb.2.2) ?_ h2 h5
    unfold rCut at h3 h4
    rw [Bool.and_eq_true] at h3 h4
    simp [h3.1, h3.2, h4.2]
  · have hok0 : editOk ls a m p = false := by simpa using hok
    have hv : editV ls a m p = [] := by unfold editV; rw [if_neg hok]
    rw [hv, hok0]
    have hal : ∀ x : Int, Below w.heap.size w ((((w.alloc (.cells #[.slice A ls.length c] 26)).alloc (.cells #[.int .i64 a] 3)).alloc (.cells #[.slice none 0 0] 26)).alloc (.cells #[.int .i64 x] 3)) := fun x =>
      ((((Below.refl w.heap.size w).alloc (Nat.le_refl _) _).alloc (by simp) _).alloc (by simp; omega) _).alloc (by simp; omega) _
    obtain ⟨b, hb⟩ : ∃ b : Int, IntKind.i64.wrap (a + m) = b := ⟨_, rfl⟩
    have hal := hal b
    have bR : Boxed ((((w.alloc (.cells #[.slice A ls.length c] 26)).alloc (.cells #[.int .i64 a] 3)).alloc (.cells #[.slice none 0 0] 26)).alloc (.cells #[.int .i64 b] 3)) (w.heap.size + 1 + 1) 26 (.slice none 0 0) := by
      have := (Boxed.new ((w.alloc (.cells #[.slice A ls.length c] 26)).alloc (.cells #[.int .i64 a] 3)) 26 (.slice none 0 0)).alloc (.cells #[.int .i64 b] 3)
      simpa only [World.size_alloc] using this
    by_cases hneg : m < 0
    · clear hok hok0 hv
      have cR := bR.cell
      go_enter Tryd.func18, Tryd.ntmps18
      go_wp2
      exact bodyPost_ret (v := .tuple #[.agg #[.slice none 0 0], .bool false]) (by simp [results, Tryd.results18, go_sem, cR]) rfl (givesRB_nil hal)
    · have cA := (((Boxed.new w 26 (.slice A ls.length c)).alloc (.cells #[.int .i64 a] 3)).alloc (.cells #[.slice none 0 0] 26)).alloc (.cells #[.int .i64 b] 3)
      have bT : Boxed ((((w.alloc (.cells #[.slice A ls.length c] 26)).alloc (.cells #[.int .i64 a] 3)).alloc (.cells #[.slice none 0 0] 26)).alloc (.cells #[.int .i64 b] 3)) (w.heap.size + 1) 3 (.int .i64 a) := by
        have := ((Boxed.new (w.alloc (.cells #[.slice A ls.length c] 26)) 3 (.int .i64 a)).alloc (.cells #[.slice none 0 0] 26)).alloc (.cells #[.int .i64 b] 3)
        simpa only [World.size_alloc] using this
      have bE : Boxed ((((w.alloc (.cells #[.slice A ls.length c] 26)).alloc (.cells #[.int .i64 a] 3)).alloc (.cells #[.slice none 0 0] 26)).alloc (.cells #[.int .i64 b] 3)) (w.heap.size + 1 + 1 + 1) 3 (.int .i64 b) := by
        have := Boxed.new (((w.alloc (.cells #[.slice A ls.length c] 26)).alloc (.cells #[.int .i64 a] 3)).alloc (.cells #[.slice none 0 0] 26)) 3 (.int .i64 b)
        simpa only [World.size_alloc] using this
      obtain ⟨q, hq⟩ : ∃ q, isText p = q := ⟨_, rfl⟩
      have HQ := Lib.hid hq
      obtain ⟨r, hr⟩ : ∃ r, (chunksOk ls && [a, b].all (fun x => isBound (chunksText ls) x)) = r := ⟨_, rfl⟩
      have HR := Lib.hid hr
      have hbig : q = true → r = true → 400 < (tot ls : Int) - m + p.length ∧ chunksOk ls = true := fun h1 h2 => by
        have h3 := hr.trans h2
        rw [Bool.and_eq_true] at h3
        simp only [List.all_cons, List.all_nil, Bool.and_true, Bool.and_eq_true] at h3
        have hca : rCut ls a = true := by unfold rCut; rw [h3.1, h3.2.1]; rfl
        have hcb : rCut ls (a + m) = true := by
          have h4 := h3.2.2
          rw [← hb, wrap_cut (by omega) hm.2 hca] at h4
          unfold rCut; rw [h3.1, h4]; rfl
        refine ⟨?_, h3.1⟩
        apply Int.lt_of_not_ge
        intro h5
        exact hok ((editOk_iff ls a m p).2 ⟨by omega, hq.trans h1, hca, hcb, h5⟩)
      have HBIG := Lib.hid hbig
      have HT3 := Lib.hid (hT.below hal)
      have HP3 := Lib.hid (hP.below hal)
      clear hok hok0 hv hq hr hbig
      go_enter Tryd.func18, Tryd.ntmps18
      go_wp2_with fail
      clear hb
      generalize (((w.alloc (.cells #[.slice A ls.length c] 26)).alloc (.cells #[.int .i64 a] 3)).alloc (.cells #[.slice none 0 0] 26)).alloc (.cells #[.int .i64 b] 3) = W3 at *
      refine (textOk_any Ap p cp _ hpc hcp9 (by exact HT3.out) (by exact HP3.out)).mono ?_
      rintro e w4 ⟨rfl, n4, rfl⟩
      rw [HQ.out]
      have h4 := below_drewN (Below.refl W3.heap.size W3) n4
      have bA4 := boxed_belowAll cA h4
      have bT4 := boxed_belowAll bT h4
      have bR4 := boxed_belowAll bR h4
      have bE4 := boxed_belowAll bE h4
      have hb4 := below_drewN hal n4
      generalize W3.drewN n4 = W4 at *
      have cR4 : W4.cell? ⟨w.heap.size + 1 + 1, 0, none⟩ = some (.slice none 0 0) := bR4.cell
      have gR4 : W4.frozen? ⟨w.heap.size + 1 + 1, 0, none⟩ = false := bR4.frozen
      have hwz : w.heap.size + 1 + 1 < W4.heap.size := bR4.lt
      clear h4 hal cA bT bR bE HT3 HP3
      cases q
      · go_wp2
        exact bodyPost_ret (v := .tuple #[.agg #[.slice none 0 0], .bool false]) (by simp [results, Tryd.results18, go_sem, cR4]) rfl (givesRB_nil (by first | exact hb4 | exact hb4.setCell (p := ⟨w.heap.size + 1 + 1, 0, none⟩) (by simp; omega) _))
      · have hb5 := hb4.alloc hb4.size (.cells #[.int .i64 a, .int .i64 b] 3)
        have bO := Blk.new W4 #[.int .i64 a, .int .i64 b] 3
        have hO : ∀ k (h : k < ([a, b] : List Int).length), (W4.alloc (.cells #[.int .i64 a, .int .i64 b] 3)).cell? ⟨W4.heap.size, k, none⟩ = some (.int .i64 ([a, b] : List Int)[k]) := by
          intro k h
          match k, h with
          | 0, _ => exact bO.cell 0
          | 1, _ => exact bO.cell 1
        have hcall : Hid (Calls Tryd.prog 41 #[.agg #[.slice A ls.length c], .slice (some ⟨W4.heap.size, 0, none⟩) 2 2] (W4.alloc (.cells #[.int .i64 a, .int .i64 b] 3)) fun e w' => e = .returned (.bool r) ∧ Below (W4.alloc (.cells #[.int .i64 a, .int .i64 b] 3)).heap.size (W4.alloc (.cells #[.int .i64 a, .int .i64 b] 3)) w') := Lib.hid (by
          have := cutsOk_any A ls c W4.heap.size [a, b] 2 _ hn (hT.below hb5) (hC.below hb5) (by simp) hO (by simp)
          rw [HR.out] at this
          exact this)
        have kA4 := bA4.cell
        have kT4 := bT4.cell
        have kE4 := bE4.cell
        have bA5 := bA4.alloc (.cells #[.int .i64 a, .int .i64 b] 3)
        have bR5 := bR4.alloc (.cells #[.int .i64 a, .int .i64 b] 3)
        clear bO hO
        go_wp2_with fail
        refine hcall.out.mono ?_
        rintro e w6 ⟨rfl, hb6⟩
        have bA6 := boxed_belowAll bA5 hb6
        have bR6 := boxed_belowAll bR5 hb6
        have hb6 := below_then hb5 hb6
        have kA6 := bA6.cell
        have cR6 : w6.cell? ⟨w.heap.size + 1 + 1, 0, none⟩ = some (.slice none 0 0) := bR6.cell
        have gR6 : w6.frozen? ⟨w.heap.size + 1 + 1, 0, none⟩ = false := bR6.frozen
        clear hcall bA4 bT4 bR4 bE4 bA5 bR5 hb4 hb5 kA4 kT4 kE4 cR4 gR4
        cases r
        · go_wp2
          exact bodyPost_ret (v := .tuple #[.agg #[.slice none 0 0], .bool false]) (by simp [results, Tryd.results18, go_sem, cR6]) rfl (givesRB_nil (by first | exact hb6 | exact hb6.setCell (p := ⟨w.heap.size + 1 + 1, 0, none⟩) (by simp; omega) _))
        · obtain ⟨hbg, hck⟩ := HBIG.out (by simp) (by simp)
          have hmb : mB (chunksText ls) = (tot ls : Int) := by unfold mB; rw [chunksText_ok hck, if_pos (chunksOk_text hck)]; rfl
          have htot := chunksOk_tot hck
          obtain ⟨N, hN⟩ : ∃ N : Int, (tot ls : Int) = N := ⟨_, rfl⟩
          rw [hN] at hmb hbg
          have hN4 : 0 ≤ N ∧ N ≤ 400 := by omega
          have hp4 : p.length ≤ 400 := isText_len HQ.out
          have hm0 : 0 ≤ m := by omega
          have HMB := Lib.hid hmb
          clear hmb hN hck
          go_wp2_with fail
          refine (implRopeMeas_any A ls c _ hn (by exact hT.below hb6) (by exact hC.below hb6)).mono ?_
          rintro e w7 ⟨rfl, hb7⟩
          rw [HMB.out]
          unfold meas
          generalize mR (chunksText ls) = y7
          generalize mL (chunksText ls) = z7
          have hfd : ∀ W, (Instr.field 35 (.agg #[.int .i64 N, .int .i64 y7, .int .i64 z7]) 0).run Tryd.prog W = .ok (.int .i64 N) W := fun W => by kernel_rfl
          have bR7 := boxed_belowAll bR6 hb7
          have hb7 := below_then hb6 hb7
          have cR7 : w7.cell? ⟨w.heap.size + 1 + 1, 0, none⟩ = some (.slice none 0 0) := bR7.cell
          have gR7 : w7.frozen? ⟨w.heap.size + 1 + 1, 0, none⟩ = false := bR7.frozen
          clear bA6 bR6 hb6 kA6 cR6 gR6
          go_wp2
          exact bodyPost_ret (v := .tuple #[.agg #[.slice none 0 0], .bool false]) (by simp [results, Tryd.results18, go_sem, cR7]) rfl (givesRB_nil (by first | exact hb7 | exact hb7.setCell (p := ⟨w.heap.size + 1 + 1, 0, none⟩) (by simp; omega) _))
end Go.Proofs.YthnahenpnafkmaaDoor
