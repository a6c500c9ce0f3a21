/-
  Texts of one claim in one: Open, Open4, Cur9b, Cur9c, C04b, S07b, P05, P04b, P07b, R07, I02h, P22, WFnRopeSplit. Own work.
-/
import Derived.Test.YthnahenpnafkmaaDoorLaw
import Derived.Test.YthnahenpnafkmaaDoorOpen0
import Derived.Test.YthnahenpnafkmaaDoorC02
import Derived.Shelf.Vars
import Derived.Test.YthnahenpnafkmaaDoorCur9
import Derived.Test.YthnahenpnafkmaaDoorI06
import Derived.Deep.RegionHeld3
import Derived.Test.YthnahenpnafkmaaDoorC04
import Derived.Test.YthnahenpnafkmaaDoorS07
import Derived.Test.YthnahenpnafkmaaDoorP04
import Derived.Test.YthnahenpnafkmaaDoorP01d
import Derived.Lib.SlSplitV
import Derived.Test.YthnahenpnafkmaaDoorI07c
import Derived.Deep.DeepCutAuto
import Derived.Test.YthnahenpnafkmaaDoorI02c
import Derived.Test.YthnahenpnafkmaaDoorI05b

/-
  Chunks opened as arguments. Own work.
-/
namespace Go.Proofs.YthnahenpnafkmaaDoor
open Go.ChangeShapes Go.WideShapes Go.ChangeAt Go.RowKit Go.Deep P
set_option linter.unusedVariables false

section
variable {H : Type} {enc : TypeId × Value → H} {w : World} {base : Nat} {spare : Nat → Bool} {held : Bool}

end
end Go.Proofs.YthnahenpnafkmaaDoor

/-
  Ropes opened as arguments. Own work.
  The library's variable internal/bytealg.MaxLen holds some int when the call begins. Own work.
-/
namespace Go.Proofs.YthnahenpnafkmaaDoor
open Go.ChangeShapes Go.WideShapes Go.ChangeAt Go.RowKit Go.Deep P
set_option linter.unusedVariables false

section
variable {H : Type} {enc : TypeId × Value → H} {w : World} {base : Nat} {spare : Nat → Bool} {held : Bool}

end
end Go.Proofs.YthnahenpnafkmaaDoor

namespace Go.Proofs.YthnahenpnafkmaaDoor
open Go.ChangeShapes Go.WideShapes Go.ChangeAt Go.RowKit P
set_option linter.unusedVariables false

theorem maxLen_of {W : World} (h : W.ShapedOpen Tryd.prog) : ∃ m : Int, W.cell? ⟨0, 0, none⟩ = some (.int .i64 m) := by
  refine cell_of_shapedOpen_int (t := 3) (zero := #[.int .i64 0]) h (of_decide_eq_true (by kernel_rfl)) (by kernel_rfl) rfl (by kernel_rfl) (by kernel_rfl) Tryd.underlying3
end Go.Proofs.YthnahenpnafkmaaDoor

/-
  The draws of RopeLine, of RopeFind: contracts. Own work.
-/
namespace Go.Proofs.YthnahenpnafkmaaDoor
open Go.RowKit P
set_option linter.unusedVariables false

/-- What a draw of a rope and a place ends in. -/
def DrawsRA (w : World) (e : Ending) (w' : World) : Prop :=
  ∃ A c L a, e = .returned (.tuple #[.agg #[.slice A L.length c], .int .i64 a]) ∧ L.length ≤ c ∧ c ≤ maxLen ∧ Cs w' A L ∧ L.length ≤ 400 ∧ (∀ x ∈ L, x.length ≤ 401) ∧ (-9223372036854775808 ≤ a ∧ a ≤ 9223372036854775807) ∧ Below w.heap.size w w'

/-- What a draw of a rope, a pattern and a place ends in. -/
def DrawsRPA (w : World) (e : Ending) (w' : World) : Prop :=
  ∃ A c L B p d a, e = .returned (.tuple #[.agg #[.slice A L.length c], .slice B p.length d, .int .i64 a]) ∧ L.length ≤ c ∧ c ≤ maxLen ∧ Cs w' A L ∧ L.length ≤ 400 ∧ (∀ x ∈ L, x.length ≤ 401) ∧ p.length ≤ d ∧ d ≤ maxLen ∧ Bs w' B p ∧ p.length ≤ 401 ∧ (-9223372036854775808 ≤ a ∧ a ≤ 9223372036854775807) ∧ Below w.heap.size w w'

end Go.Proofs.YthnahenpnafkmaaDoor

/-
  The draw of RopeSplit: contract. Own work.
-/
namespace Go.Proofs.YthnahenpnafkmaaDoor
open Go.RowKit P
set_option linter.unusedVariables false

set_option maxRecDepth 100000 in
set_option maxHeartbeats 4000000 in
theorem drawRopeSplit_any (A : Option Addr) (l : List UInt8) (c : Nat) (w : World) (hl : l.length ≤ 1048576) (hA : Bs w A l) :
    Calls Tryd.prog 5 #[.slice A l.length c] w (DrawsRA w) := by
  have hal := (Below.refl w.heap.size w).alloc (Nat.le_refl _) (.cells #[.slice none 0 0] 26)
  have bR := Blk.new w #[.slice none 0 0] 26
  have hA0 := hA.below hal
  have hz0 : (w.alloc (.cells #[.slice none 0 0] 26)).heap.size = w.heap.size + 1 := by simp
  go_enter Tryd.func5, Tryd.ntmps5
  go_wp2_with fail
  generalize w.alloc (.cells #[.slice none 0 0] 26) = W0 at *
  refine (l01Open_any A l c _ hl (by exact hA0)).mono ?_
  rintro e w1 ⟨rfl, hc0, hb0⟩
  obtain ⟨g, hg⟩ : ∃ g, W0.heap.size = g := ⟨_, rfl⟩
  rw [hg] at hc0 hz0 ⊢
  have hwg : w.heap.size < g := by omega
  have bR1 := bR.below hb0
  have hb1 := hal.trans (hb0.mono (by omega))
  have hs0 := hb0.size
  have hgl := hc0.lt
  have hs1 : w.heap.size + 1 ≤ w1.heap.size := by omega
  clear hA0 hal bR hz0 hg
  go_wp2_with fail
  refine (rope_any g 0 _ (by omega) (by exact hc0)).mono ?_
  rintro e w2 ⟨A2, c2, L, rfl, hF2, hL, hLe, hc2, ho2⟩
  have bR2 := bR1.only ho2 (by omega)
  have hb2 := hb1.trans (ho2.below w.heap.size (by omega) (by omega))
  have hal2 := (Below.refl w2.heap.size w2).alloc (Nat.le_refl _) (.cells #[.slice A2 L.length c2] 26)
  have bV := Blk.new w2 #[.slice A2 L.length c2] 26
  have hF3 := hF2.below hal2
  have hc3 := hc2.only_new hal2
  have bR3 := bR2.below hal2
  have hb3 := hb2.trans (hal2.mono hb2.size)
  have hs2 := ho2.size
  have kV := bV.cell 0
  have kR := bR3.cell 0
  have kG := bR3.frozen 0
  have BV := Lib.hid bV
  have BR := Lib.hid bR3
  have hbv := bV.lt
  clear hc0 hb0 bR1 hb1 bR2 hb2 hc2 ho2 hF2 hal2 bV bR3
  go_wp2_with fail
  generalize w2.alloc (.cells #[.slice A2 L.length c2] 26) = W3 at *
  go_region_held3 (fun V => V.cell? ⟨w2.heap.size, 0, none⟩ = some (.slice A2 L.length c2)) (first | exact kV | exact kV4 | (refine (World.cell?_setCell_far _ _ _ _ (by simp; omega)).trans ?_; exact kV4)) (first
    | (go_at_call 15; refine (cutOf_any g (0 + 1000) w1.heap.size A2 L c2 _ (by omega) (by exact hc3) (by omega) (by exact hF3) hL).mono ?_; rintro e w4 ⟨x, rfl, hx0, hx1, hc4, ho4⟩; have ho4 : Only g W3 w4 := ⟨ho4.os, ho4.tape, ho4.output, ho4.size, ho4.block⟩; have bV4 := BV.out.only ho4 (by omega); have bR4 := BR.out.only ho4 (by omega); have kV4 := bV4.cell 0; have kR4 := bR4.cell 0; have kG4 := bR4.frozen 0; have hF4 := hF3.only (by omega) ho4; have HO4 := Lib.hid ho4; have hs4 := ho4.size; clear bV4 bR4 ho4 hc4))
  all_goals
    go_wp2
    refine bodyPost_ret (v := .tuple #[.agg #[.slice A2 L.length c2], .int .i64 x]) (by simp [results, Tryd.results5, go_sem, kR4]) rfl ?_
    have hF5 := hF4.setNew (b := w.heap.size) (by omega) 0 (.slice A2 L.length c2)
    exact ⟨_, _, L, x, rfl, hF5.1, hF5.2.1, hF5.cs, hL, hLe, ⟨hx0, hx1⟩, (hb3.trans (HO4.out.below w.heap.size (by omega) hb3.size)).setCell (Nat.le_refl _) _⟩

end Go.Proofs.YthnahenpnafkmaaDoor

/-
  Chapter 4, rope variables of the laws' own. Own work.
-/
namespace Go.Proofs.YthnahenpnafkmaaDoor
open Go.RowKit P
set_option linter.unusedVariables false

/-- A rope variable of the call's own: its block, and what its chunks own. -/
structure RVar (w : World) (b : Nat) (A : Option Addr) (ls : List (List UInt8)) (c : Nat) (fp : List Nat) : Prop where
  blk : Blk w b #[.slice A ls.length c] 26
  ow : Lay.chunks.ow w [.slice A ls.length c] ls fp
theorem RVar.below {w w' : World} {b : Nat} {A : Option Addr} {ls : List (List UInt8)} {c : Nat} {fp : List Nat} (h : RVar w b A ls c fp) (hb : Below w.heap.size w w') : RVar w' b A ls c fp :=
  ⟨h.blk.below hb, Lay.chunks.owBelow h.ow hb⟩
theorem RVar.keeps {w w' : World} {b : Nat} {A : Option Addr} {ls : List (List UInt8)} {c : Nat} {fp fq : List Nat} (h : RVar w b A ls c fp) (hk : Keeps fq w w') (h1 : b ∉ fq) (h2 : ∀ k ∈ fp, k ∉ fq) : RVar w' b A ls c fp :=
  ⟨h.blk.of_block (hk.block b h.blk.lt h1), Lay.chunks.keeps h.ow hk h2⟩
theorem RVar.cell {w : World} {b : Nat} {A : Option Addr} {ls : List (List UInt8)} {c : Nat} {fp : List Nat} (h : RVar w b A ls c fp) : w.cell? ⟨b, 0, none⟩ = some (.slice A ls.length c) := h.blk.cell 0
theorem RVar.cs {w : World} {b : Nat} {A : Option Addr} {ls : List (List UInt8)} {c : Nat} {fp : List Nat} (h : RVar w b A ls c fp) : Cs w A ls := by
  obtain ⟨A', c', e, _, _, hC⟩ := Lay.chunks_rd (Lay.chunks.read h.ow)
  simp only [Value.slice.injEq] at e
  rw [e.1]
  exact hC
theorem RVar.cap {w : World} {b : Nat} {A : Option Addr} {ls : List (List UInt8)} {c : Nat} {fp : List Nat} (h : RVar w b A ls c fp) : ls.length ≤ c := by
  obtain ⟨A', c', e, h1, _, _⟩ := Lay.chunks_rd (Lay.chunks.read h.ow)
  simp only [Value.slice.injEq] at e
  rw [e.2.2]
  exact h1
theorem RVar.lt {w : World} {b : Nat} {A : Option Addr} {ls : List (List UInt8)} {c : Nat} {fp : List Nat} (h : RVar w b A ls c fp) : b < w.heap.size ∧ ∀ k ∈ fp, k < w.heap.size := ⟨h.blk.lt, Lay.chunks.lt h.ow⟩
theorem RVar.new {w : World} {A : Option Addr} {ls : List (List UInt8)} {c : Nat} {fp : List Nat} (h : Lay.chunks.ow w [.slice A ls.length c] ls fp) : RVar (w.alloc (.cells #[.slice A ls.length c] 26)) w.heap.size A ls c fp :=
  ⟨Blk.new w _ _, Lay.chunks.owBelow h ((Below.refl w.heap.size w).alloc (Nat.le_refl _) _)⟩
theorem RVar.store {w : World} {b : Nat} {A : Option Addr} {ls : List (List UInt8)} {c : Nat} {fp : List Nat} {u : Value} (hq : Blk w b #[u] 26) (how : Lay.chunks.ow w [.slice A ls.length c] ls fp) (hb : b ∉ fp) : RVar (w.setCell ⟨b, 0, none⟩ (.slice A ls.length c)) b A ls c fp :=
  ⟨by simpa using hq.set 0 (.slice A ls.length c), Lay.chunks_setBelow how hb _⟩
end Go.Proofs.YthnahenpnafkmaaDoor

/-
  Chapter 4, the model's RopeEdit: contract. Own work.
-/
namespace Go.Proofs.YthnahenpnafkmaaDoor
open Go.RowKit P
set_option linter.unusedVariables false
set_option linter.unusedSimpArgs false
set_option maxRecDepth 100000

set_option maxHeartbeats 4000000 in
theorem specRopeEdit_any (A : Option Addr) (ls : List (List UInt8)) (c : Nat) (a m : Int) (Ap : Option Addr) (p : List UInt8) (cp : Nat) (w : World) (hn : ls.length ≤ 9223372036854775807) (hpc : p.length ≤ cp) (hcp9 : cp ≤ 9223372036854775807) (hC : Cs w A ls) (hP : Bs w Ap p) :
    Calls Tryd.prog 17 #[.agg #[.slice A ls.length c], .int .i64 a, .int .i64 m, .slice Ap p.length cp] w (GivesRB (editV ls a m p) (editOk ls a m p) w) := by
  by_cases hok : editOk ls a m p = true
  · have hv : editV ls a m p = editR ls a (a + m) (tot ls) p := by unfold editV; rw [if_pos hok]
    rw [hv, hok]
    exact specRopeEdit_ok A ls c a m Ap p cp w hn hpc hcp9 hC hP hok
  · have hok0 : editOk ls a m p = false := by simpa using hok
    have hv : editV ls a m p = [] := by unfold editV; rw [if_neg hok]
    rw [hv, hok0]
    have hlen := chunksText_len ls
    obtain ⟨T', hT'⟩ : ∃ T', chunksText ls = T' := ⟨_, rfl⟩
    obtain ⟨q1, hq1⟩ : ∃ q, rCut ls a = q := ⟨_, rfl⟩
    obtain ⟨q2, hq2⟩ : ∃ q, cutOk T' (a + m) = q := ⟨_, rfl⟩
    obtain ⟨q3, hq3⟩ : ∃ q, isText p = q := ⟨_, rfl⟩
    rw [hT'] at hlen
    have hrange : q1 = true → 0 ≤ a ∧ a ≤ (T'.length : Int) := fun h => by
      have h2 := rCut_range (hq1.trans h)
      rw [← chunksText_ok h2.1, hT'] at h2
      exact h2.2
    have hbig : q1 = true → 0 ≤ m → q2 = true → q3 = true → 400 < (T'.length : Int) - m + p.length := fun h1 h2 h3 h4 => by
      have hc1 := hq1.trans h1
      have hck := (rCut_range hc1).1
      have e1 : (T'.length : Int) = (tot ls : Int) := by rw [← hT', chunksText_ok hck]; rfl
      apply Int.lt_of_not_ge
      intro h5
      refine hok ((editOk_iff ls a m p).2 ⟨h2, hq3.trans h4, hc1, ?_, by rw [← e1]; exact h5⟩)
      have h6 := hq2.trans h3
      unfold cutOk at h6
      rw [Bool.and_eq_true] at h6
      unfold rCut
      rw [hck, hT', h6.2]; rfl
    have HT := Lib.hid hT'
    have HQ1 := Lib.hid hq1
    have HQ2 := Lib.hid hq2
    have HQ3 := Lib.hid hq3
    have HRG := Lib.hid hrange
    have HBG := Lib.hid hbig
    have hal := ((Below.refl w.heap.size w).alloc (Nat.le_refl _) (.cells #[.slice A ls.length c] 26)).alloc (by simp) (.cells #[.slice none 0 0] 26)
    have bA := (Boxed.new w 26 (.slice A ls.length c)).alloc (.cells #[.slice none 0 0] 26)
    have bR : Boxed ((w.alloc (.cells #[.slice A ls.length c] 26)).alloc (.cells #[.slice none 0 0] 26)) (w.heap.size + 1) 26 (.slice none 0 0) := by
      have := Boxed.new (w.alloc (.cells #[.slice A ls.length c] 26)) 26 (.slice none 0 0)
      simpa only [World.size_alloc] using this
    clear hok hok0 hv hT' hq1 hq2 hq3 hrange hbig
    go_enter Tryd.func17, Tryd.ntmps17
    go_wp2_with fail
    generalize (w.alloc (.cells #[.slice A ls.length c] 26)).alloc (.cells #[.slice none 0 0] 26) = W1 at *
    refine (specRopeText_any A ls c _ hn (by exact hC.below hal)).mono ?_
    rintro e w2 ⟨v2, rfl, hown2, hb2⟩
    rw [HT.out] at hown2
    have bA2 := boxed_belowAll bA hb2
    have bR2 := boxed_belowAll bR hb2
    obtain ⟨B2, d2, rfl, hld2, hdm2, hB2⟩ := hown2.form
    have hd29 : d2 ≤ 9223372036854775807 := by unfold maxLen at hdm2; omega
    have hb2 := below_then hal hb2
    have kA2 := bA2.cell
    clear bA bR hown2 hdm2 hal
    go_wp2_with fail
    refine (l04Cut_any A ls c a _ hn (by exact hC.below hb2)).mono ?_
    rintro e w3 ⟨rfl, hb3⟩
    rw [HQ1.out]
    have bR3 := boxed_belowAll bR2 hb3
    have hB3 := hB2.below hb3
    have hb3 := below_then hb2 hb3
    have cR3 : w3.cell? ⟨w.heap.size + 1, 0, none⟩ = some (.slice none 0 0) := bR3.cell
    have gR3 : w3.frozen? ⟨w.heap.size + 1, 0, none⟩ = false := bR3.frozen
    clear bA2 bR2 hB2 hb2 kA2
    cases q1
    · go_wp2
      exact bodyPost_ret (v := .tuple #[.agg #[.slice none 0 0], .bool false]) (by simp [results, Tryd.results17, go_sem, cR3]) rfl (givesRB_nil (by first | exact hb3 | exact hb3.setCell (p := ⟨w.heap.size + 1, 0, none⟩) (by simp) _))
    · obtain ⟨ha0, ha4⟩ := HRG.out rfl
      by_cases hneg : m < 0
      · go_wp2
        exact bodyPost_ret (v := .tuple #[.agg #[.slice none 0 0], .bool false]) (by simp [results, Tryd.results17, go_sem, cR3]) rfl (givesRB_nil (by first | exact hb3 | exact hb3.setCell (p := ⟨w.heap.size + 1, 0, none⟩) (by simp) _))
      · by_cases hover : (T'.length : Int) - a < m
        · go_wp2
          exact bodyPost_ret (v := .tuple #[.agg #[.slice none 0 0], .bool false]) (by simp [results, Tryd.results17, go_sem, cR3]) rfl (givesRB_nil (by first | exact hb3 | exact hb3.setCell (p := ⟨w.heap.size + 1, 0, none⟩) (by simp) _))
        · have hm0 : 0 ≤ m := by omega
          have ham : a + m ≤ (T'.length : Int) := by omega
          go_wp2_with fail
          refine (specCutOk_any B2 T' d2 (a + m) _ hld2 hd29 (by exact hB3)).mono ?_
          rintro e w4 ⟨rfl, hb4⟩
          rw [HQ2.out]
          have bR4 := boxed_belowAll bR3 hb4
          have hb4 := below_then hb3 hb4
          have cR4 : w4.cell? ⟨w.heap.size + 1, 0, none⟩ = some (.slice none 0 0) := bR4.cell
          have gR4 : w4.frozen? ⟨w.heap.size + 1, 0, none⟩ = false := bR4.frozen
          clear bR3 hB3 hb3 cR3 gR3
          cases q2
          · go_wp2
            exact bodyPost_ret (v := .tuple #[.agg #[.slice none 0 0], .bool false]) (by simp [results, Tryd.results17, go_sem, cR4]) rfl (givesRB_nil (by first | exact hb4 | exact hb4.setCell (p := ⟨w.heap.size + 1, 0, none⟩) (by simp) _))
          · go_wp2_with fail
            refine (specTextOk_any Ap p cp _ hpc hcp9 (by exact hP.below hb4)).mono ?_
            rintro e w5 ⟨rfl, hb5⟩
            rw [HQ3.out]
            have bR5 := boxed_belowAll bR4 hb5
            have hb5 := below_then hb4 hb5
            have cR5 : w5.cell? ⟨w.heap.size + 1, 0, none⟩ = some (.slice none 0 0) := bR5.cell
            have gR5 : w5.frozen? ⟨w.heap.size + 1, 0, none⟩ = false := bR5.frozen
            clear bR4 hb4 cR4 gR4
            cases q3
            · go_wp2
              exact bodyPost_ret (v := .tuple #[.agg #[.slice none 0 0], .bool false]) (by simp [results, Tryd.results17, go_sem, cR5]) rfl (givesRB_nil (by first | exact hb5 | exact hb5.setCell (p := ⟨w.heap.size + 1, 0, none⟩) (by simp) _))
            · have hbg := HBG.out (by simp) hm0 (by simp) (by simp)
              have hp4 := isText_len HQ3.out
              go_wp2
              exact bodyPost_ret (v := .tuple #[.agg #[.slice none 0 0], .bool false]) (by simp [results, Tryd.results17, go_sem, cR5]) rfl (givesRB_nil (by first | exact hb5 | exact hb5.setCell (p := ⟨w.heap.size + 1, 0, none⟩) (by simp) _))

theorem editV_bd (ls : List (List UInt8)) (a m : Int) (p : List UInt8) : (editV ls a m p).length + tot (editV ls a m p) ≤ 1000000 := by
  unfold editV
  split
  · rename_i h
    obtain ⟨h1, h2, h3, h4, h5⟩ := (editOk_iff ls a m p).1 h
    have hck := (rCut_range h3).1
    have htot := chunksOk_tot hck
    have hl4 := chunksOk_len hck
    have hne : ∀ k (h : k < ls.length), (ls[k]).length ≤ 400 := fun k h => Nat.le_trans (tot_mem k h) htot
    have hk := ks_length ls.length ls.length
    obtain ⟨n1, n2, n3, n4⟩ := edit_lens ls a (a + m) (tot ls) 400 hne (ks ls.length ls.length)
    have hc := chunksOf_ok (hdV ls a (a + m) (ks ls.length ls.length) ++ (p ++ tlV ls a (a + m) (tot ls) (ks ls.length ls.length)))
    have hc1 := chunksOk_tot hc
    have hc2 := chunksOk_len hc
    have hof : ∀ pre : List (Ix ls), (ofP ls pre).length = pre.length ∧ tot (ofP ls pre) ≤ pre.length * 400 := by
      intro pre
      refine ⟨by simp [ofP], ?_⟩
      induction pre with
      | nil => simp [ofP, tot]
      | cons x t ih =>
        have e : tot (ofP ls (x :: t)) = (ls[x.1]'x.2).length + tot (ofP ls t) := by simp [ofP, tot]
        have h9 := hne x.1 x.2
        rw [e, List.length_cons, Nat.succ_mul]
        omega
    have g1 := hof (frP ls a (ks ls.length ls.length))
    have g2 := hof (bkP ls a (a + m) (ks ls.length ls.length))
    unfold editR
    have htapp : ∀ x y : List (List UInt8), tot (x ++ y) = tot x + tot y := fun x y => by simp [tot]
    rw [List.length_append, List.length_append, htapp, htapp]
    omega
  · simp [tot]
end Go.Proofs.YthnahenpnafkmaaDoor

/-
  Chapter 4 in plain Lean: a text by its lines, and where a line and a column lie. Own work.
  Chapter 4 in plain Lean: the place of a line and a column. Own work.
-/
namespace Go.Proofs.YthnahenpnafkmaaDoor.P
set_option linter.unusedVariables false

def linesOf : List UInt8 → List (List UInt8)
  | [] => [[]]
  | b :: t => if b = 10 then [] :: linesOf t else match linesOf t with
    | [] => [[b]]
    | h :: r => (b :: h) :: r

theorem linesOf_cons (b : UInt8) (t : List UInt8) : linesOf (b :: t) = if b = 10 then [] :: linesOf t else match linesOf t with
    | [] => [[b]]
    | h :: r => (b :: h) :: r := rfl
theorem linesOf_ne (l : List UInt8) : linesOf l ≠ [] := by
  cases l with
  | nil => simp [linesOf]
  | cons b t =>
    unfold linesOf
    split
    · simp
    · split <;> simp
theorem linesOf_no : ∀ (l : List UInt8), (10 : UInt8) ∉ l → linesOf l = [l]
  | [], _ => rfl
  | b :: t, h => by
    have hb : b ≠ 10 := fun e => h (by simp [e])
    have ht := linesOf_no t (fun e => h (by simp [e]))
    rw [linesOf_cons, if_neg hb, ht]
theorem linesOf_app : ∀ (a t : List UInt8), (10 : UInt8) ∉ a → linesOf (a ++ 10 :: t) = a :: linesOf t
  | [], t, _ => by simp [linesOf]
  | b :: a, t, h => by
    have hb : b ≠ 10 := fun e => h (by simp [e])
    have ht := linesOf_app a t (fun e => h (by simp [e]))
    rw [List.cons_append, linesOf_cons, if_neg hb, ht]

/-- A list without newlines, or what is ahead of the first and what is behind it. -/
theorem line_cases (l : List UInt8) : (10 : UInt8) ∉ l ∨ ∃ a t, l = a ++ 10 :: t ∧ (10 : UInt8) ∉ a := by
  induction l with
  | nil => left; simp
  | cons b l ih =>
    by_cases hb : b = 10
    · exact .inr ⟨[], l, by rw [hb]; rfl, by simp⟩
    · rcases ih with h | ⟨a, t, rfl, h⟩
      · left; simp; exact ⟨fun e => hb e.symm, h⟩
      · exact .inr ⟨b :: a, t, rfl, by simp; exact ⟨fun e => hb e.symm, h⟩⟩

def startOf (ls : List (List UInt8)) (m : Nat) : Nat := ((ls.take m).map fun l => l.length + 1).sum
theorem startOf_zero (ls : List (List UInt8)) : startOf ls 0 = 0 := by simp [startOf]
theorem startOf_cons (a : List UInt8) (r : List (List UInt8)) (m : Nat) : startOf (a :: r) (m + 1) = a.length + 1 + startOf r m := by simp [startOf]
theorem startOf_succ (ls : List (List UInt8)) (m : Nat) (h : m < ls.length) : startOf ls (m + 1) = startOf ls m + (ls[m].length + 1) := by
  unfold startOf
  rw [List.take_succ_eq_append_getElem h, List.map_append, List.sum_append]
  simp

theorem lineFrom_no {l : List UInt8} (h : (10 : UInt8) ∉ l) : lineFrom l = 0 := by
  have key : ∀ k, k ≤ l.length → lineFrom (l.take k) = 0 := by
    intro k
    induction k with
    | zero => intro _; rw [List.take_zero]; rfl
    | succ k ih =>
      intro hk
      rw [lineFrom_take l k (by omega), if_neg (fun e => h (by rw [← e]; exact List.getElem_mem _))]
      exact ih (by omega)
  have := key l.length (Nat.le_refl _)
  rwa [List.take_length] at this
theorem lineFrom_nl (a u : List UInt8) : lineFrom (a ++ 10 :: u) = a.length + 1 + lineFrom u := by
  have key : ∀ k, k ≤ u.length → lineFrom (a ++ 10 :: u.take k) = a.length + 1 + lineFrom (u.take k) := by
    intro k
    induction k with
    | zero => intro _; rw [List.take_zero, lineFrom_snoc, if_pos rfl, lineFrom_nil]
    | succ k ih =>
      intro hk
      rw [List.take_succ_eq_append_getElem (by omega), show a ++ 10 :: (u.take k ++ [u[k]]) = (a ++ 10 :: u.take k) ++ [u[k]] by simp, lineFrom_snoc, lineFrom_snoc, ih (by omega)]
      split
      · simp; omega
      · rfl
  have := key u.length (Nat.le_refl _)
  rwa [List.take_length] at this
theorem count_no {l : List UInt8} (h : (10 : UInt8) ∉ l) : lines l = 0 := by unfold lines; exact List.count_eq_zero.2 h
theorem count_nl (a u : List UInt8) : lines (a ++ 10 :: u) = lines a + 1 + lines u := by
  rw [lines_app]
  unfold lines
  rw [List.count_cons]
  simp
  omega

theorem bound_nl (a t : List UInt8) (k : Nat) (hk : k ≤ a.length) : isBound (a ++ 10 :: t) (k : Int) = isBound a (k : Int) := by
  by_cases h : k < a.length
  · exact isBound_app_left a (10 :: t) k h
  · have e : k = a.length := by omega
    subst e
    rw [isBound_end]
    have := isBound_lt (a ++ 10 :: t) a.length (by simp)
    rw [this]
    simp
    rfl
theorem bound_nl2 (a t : List UInt8) (k : Nat) (hk : k ≤ t.length) : isBound (a ++ 10 :: t) ((a.length + 1 + k : Nat) : Int) = isBound t (k : Int) := by
  have h1 := isBound_app_right a (10 :: t) (1 + k) (by simp; omega)
  rw [show a.length + (1 + k) = a.length + 1 + k by omega] at h1
  rw [h1]
  have h2 := isBound_app_right [10] t k hk
  exact h2

/-- What a place of a text is in its lines. -/
def AtLine (T : List UInt8) (k : Nat) : Prop :=
  ∃ L, (linesOf T)[lines (T.take k)]? = some L ∧ lineFrom (T.take k) ≤ k ∧ k - lineFrom (T.take k) ≤ L.length ∧ (T.take k).drop (lineFrom (T.take k)) = L.take (k - lineFrom (T.take k)) ∧
    isBound T (k : Int) = isBound L ((k - lineFrom (T.take k) : Nat) : Int) ∧ lineFrom (T.take k) = startOf (linesOf T) (lines (T.take k))

theorem atLine : ∀ (n : Nat) (T : List UInt8), T.length ≤ n → ∀ k, k ≤ T.length → AtLine T k := by
  intro n
  induction n with
  | zero =>
    intro T hT k hk
    have : T = [] := List.eq_nil_of_length_eq_zero (by omega)
    subst this
    have : k = 0 := by simpa using hk
    subst this
    exact ⟨[], by simp [linesOf, lines], by simp [lineFrom], by simp, by simp, rfl, by simp [lineFrom, lines, startOf]⟩
  | succ n ih =>
    intro T hT k hk
    rcases line_cases T with h | ⟨a, t, rfl, h⟩
    · have hn : (10 : UInt8) ∉ T.take k := fun e => h (List.mem_of_mem_take e)
      refine ⟨T, ?_, ?_, ?_, ?_, ?_, ?_⟩
      · rw [count_no hn, linesOf_no T h]; rfl
      · rw [lineFrom_no hn]; omega
      · rw [lineFrom_no hn]; omega
      · rw [lineFrom_no hn, Nat.sub_zero, List.drop_zero]
      · rw [lineFrom_no hn, Nat.sub_zero]
      · rw [lineFrom_no hn, count_no hn, startOf_zero]
    · by_cases hka : k ≤ a.length
      · have ht : (a ++ 10 :: t).take k = a.take k := by rw [List.take_append_of_le_length hka]
        have hn : (10 : UInt8) ∉ a.take k := fun e => h (List.mem_of_mem_take e)
        unfold AtLine
        rw [ht, count_no hn, lineFrom_no hn, linesOf_app a t h]
        exact ⟨a, rfl, by omega, by omega, by rw [Nat.sub_zero, List.drop_zero], by rw [Nat.sub_zero]; exact bound_nl a t k hka, by rw [startOf_zero]⟩
      · obtain ⟨k', rfl⟩ : ∃ k', k = a.length + 1 + k' := ⟨k - (a.length + 1), by omega⟩
        have hl : (a ++ 10 :: t).length = a.length + 1 + t.length := by simp; omega
        have hk' : k' ≤ t.length := by omega
        obtain ⟨L, h1, h2, h3, h4, h5, h6⟩ := ih t (by omega) k' hk'
        have ht : (a ++ 10 :: t).take (a.length + 1 + k') = a ++ 10 :: t.take k' := by
          rw [List.take_append, List.take_of_length_le (by omega), show a.length + 1 + k' - a.length = k' + 1 by omega, List.take_succ_cons]
        unfold AtLine
        rw [ht, count_nl, lineFrom_nl, linesOf_app a t h, count_no h]
        have e0 : 0 + 1 + lines (t.take k') = lines (t.take k') + 1 := by omega
        rw [e0]
        have e1 : a.length + 1 + k' - (a.length + 1 + lineFrom (t.take k')) = k' - lineFrom (t.take k') := by omega
        rw [e1]
        refine ⟨L, by rw [List.getElem?_cons_succ]; exact h1, by omega, h3, ?_, ?_, ?_⟩
        · rw [← h4, List.drop_append, List.drop_of_length_le (by omega), List.nil_append, show a.length + 1 + lineFrom (t.take k') - a.length = lineFrom (t.take k') + 1 by omega, List.drop_succ_cons]
        · rw [bound_nl2 a t k' hk']; exact h5
        · rw [startOf_cons, ← h6]

theorem ofLine : ∀ (n : Nat) (T : List UInt8), T.length ≤ n → ∀ m L, (linesOf T)[m]? = some L → ∀ q, q ≤ L.length →
    startOf (linesOf T) m + q ≤ T.length ∧ lines (T.take (startOf (linesOf T) m + q)) = m ∧ lineFrom (T.take (startOf (linesOf T) m + q)) = startOf (linesOf T) m := by
  intro n
  induction n with
  | zero =>
    intro T hT m L hL q hq
    have : T = [] := List.eq_nil_of_length_eq_zero (by omega)
    subst this
    match m, hL with
    | 0, hL =>
      simp [linesOf] at hL
      subst hL
      have : q = 0 := by simpa using hq
      subst this
      simp [startOf, lines, lineFrom]
    | m + 1, hL => simp [linesOf] at hL
  | succ n ih =>
    intro T hT m L hL q hq
    rcases line_cases T with h | ⟨a, t, rfl, h⟩
    · rw [linesOf_no T h] at hL ⊢
      match m, hL with
      | 0, hL =>
        simp at hL
        subst hL
        have hn : (10 : UInt8) ∉ T.take q := fun e => h (List.mem_of_mem_take e)
        rw [startOf_zero, Nat.zero_add]
        exact ⟨hq, count_no hn, lineFrom_no hn⟩
      | m + 1, hL => simp at hL
    · have hl : (a ++ 10 :: t).length = a.length + 1 + t.length := by simp; omega
      rw [linesOf_app a t h] at hL ⊢
      match m, hL with
      | 0, hL =>
        simp at hL
        subst hL
        have ht : (a ++ 10 :: t).take q = a.take q := by rw [List.take_append_of_le_length hq]
        have hn : (10 : UInt8) ∉ a.take q := fun e => h (List.mem_of_mem_take e)
        rw [startOf_zero, Nat.zero_add, ht]
        exact ⟨by omega, count_no hn, lineFrom_no hn⟩
      | m + 1, hL =>
        rw [List.getElem?_cons_succ] at hL
        obtain ⟨h1, h2, h3⟩ := ih t (by omega) m L hL q hq
        rw [startOf_cons]
        have ht : (a ++ 10 :: t).take (a.length + 1 + startOf (linesOf t) m + q) = a ++ 10 :: t.take (startOf (linesOf t) m + q) := by
          rw [List.take_append, List.take_of_length_le (by omega), show a.length + 1 + startOf (linesOf t) m + q - a.length = (startOf (linesOf t) m + q) + 1 by omega, List.take_succ_cons]
        rw [ht, count_nl, lineFrom_nl, count_no h, h2, h3]
        exact ⟨by omega, by omega, rfl⟩

theorem linesOf_ok : ∀ (n : Nat) (T : List UInt8), T.length ≤ n → okS 0 T = true → ∀ L ∈ linesOf T, okS 0 L = true ∧ L.length ≤ T.length := by
  intro n
  induction n with
  | zero =>
    intro T hT hok L hL
    have : T = [] := List.eq_nil_of_length_eq_zero (by omega)
    subst this
    simp [linesOf] at hL
    subst hL
    exact ⟨hok, Nat.le_refl _⟩
  | succ n ih =>
    intro T hT hok L hL
    rcases line_cases T with h | ⟨a, t, rfl, h⟩
    · rw [linesOf_no T h] at hL
      simp at hL
      subst hL
      exact ⟨hok, Nat.le_refl _⟩
    · have hl : (a ++ 10 :: t).length = a.length + 1 + t.length := by simp; omega
      have hb : isBound (a ++ 10 :: t) (a.length : Int) = true := by rw [bound_nl a t a.length (Nat.le_refl _), isBound_end]
      have ha := okS_take _ (a ++ 10 :: t) a.length (Nat.le_refl _) (by omega) hok hb
      rw [List.take_left'] at ha
      · have ht := okS_of_bound hok (k := a.length) (by omega) hb
        rw [List.drop_left'] at ht
        · rw [okS_step (by simp)] at ht
          have hs : sz (10 :: t) = 1 := by unfold sz decL; rfl
          rw [hs] at ht
          simp at ht
          rw [linesOf_app a t h] at hL
          rcases List.mem_cons.1 hL with rfl | hL
          · exact ⟨ha, by omega⟩
          · have := ih t (by omega) ht L hL
            exact ⟨this.1, by omega⟩
        · rfl
      · rfl
end Go.Proofs.YthnahenpnafkmaaDoor.P

namespace Go.Proofs.YthnahenpnafkmaaDoor.P
set_option linter.unusedVariables false

theorem occ_ten (s : List UInt8) (j : Nat) : Go.Lib.occAt s [10] j = true ↔ ∃ h : j < s.length, s[j] = 10 := by
  unfold Go.Lib.occAt
  by_cases h : j < s.length
  · rw [List.drop_eq_getElem_cons h]
    simp [List.isPrefixOf, h]
    exact eq_comm
  · rw [List.drop_of_length_le (by omega)]
    simp [List.isPrefixOf]
    intro h'
    omega

theorem split_lines : ∀ (k : Nat) (l : List UInt8), lines l ≤ k → Go.Lib.splitK [10] 0 k l = linesOf l := by
  intro k
  induction k with
  | zero =>
    intro l h
    have hn : (10 : UInt8) ∉ l := by
      unfold lines at h
      exact List.count_eq_zero.1 (by omega)
    rw [linesOf_no l hn]
    rfl
  | succ k ih =>
    intro l h
    rcases line_cases l with hn | ⟨a, t, rfl, hn⟩
    · have hi : Go.Lib.index l [10] = -1 := Go.Lib.index_none (fun j hj => by
        rw [Bool.eq_false_iff]
        intro e
        obtain ⟨h1, h2⟩ := (occ_ten l j).1 e
        exact hn (by rw [← h2]; exact List.getElem_mem _))
      rw [linesOf_no l hn]
      unfold Go.Lib.splitK
      rw [if_pos (beq_iff_eq.2 hi)]
    · have hi : Go.Lib.index (a ++ 10 :: t) [10] = (a.length : Nat) := Go.Lib.index_first (by simp) ((occ_ten _ _).2 ⟨by simp, by simp⟩) (fun j hj => by
        rw [Bool.eq_false_iff]
        intro e
        obtain ⟨h1, h2⟩ := (occ_ten _ j).1 e
        rw [List.getElem_append_left hj] at h2
        exact hn (by rw [← h2]; exact List.getElem_mem _))
      have hne : ¬ (Go.Lib.index (a ++ 10 :: t) [10] == -1) = true := fun e => by have := beq_iff_eq.1 e; omega
      rw [count_nl] at h
      rw [linesOf_app a t hn, Go.Lib.splitK, if_neg hne, hi]
      have e1 : ((a.length : Nat) : Int).toNat = a.length := by omega
      rw [e1]
      congr 1
      · rw [Nat.add_zero, List.take_left']; rfl
      · rw [← ih t (by omega)]
        congr 1
        rw [show a.length + ([10] : List UInt8).length = a.length + 1 from rfl, List.drop_append, List.drop_of_length_le (by omega), List.nil_append, show a.length + 1 - a.length = 1 by omega]
        rfl

theorem runesBefore_take (l : List UInt8) (q : Nat) (hq : q ≤ l.length) : runesBefore (l.take q) q = runesBefore l q := by
  unfold runesBefore
  congr 1
  apply List.filter_congr
  intro j hj
  have hj : j < q := by simpa using hj
  have h := isBound_app_left (l.take q) (l.drop q) j (by rw [List.length_take]; omega)
  rw [List.take_append_drop] at h
  exact h.symm

theorem runeCount_take {L : List UInt8} {q : Nat} (ht : isText L = true) (hq : q ≤ L.length) (hb : isBound L (q : Int) = true) : runeCount (L.take q) = runesTo L (q : Int) := by
  rw [runeCount_is (isText_take ht hq hb), List.length_take, Nat.min_eq_left hq, runesBefore_take L q hq]
  unfold runesTo
  rw [if_pos ⟨ht, hb⟩, Int.toNat_natCast]

theorem linesOf_text {T : List UInt8} (ht : isText T = true) {m : Nat} {L : List UInt8} (h : (linesOf T)[m]? = some L) : isText L = true := by
  have hm : L ∈ linesOf T := List.mem_of_getElem? h
  have h1 := linesOf_ok T.length T (Nat.le_refl _) (isText_ok ht) L hm
  exact isText_of (by have := isText_len ht; omega) h1.1

/-- r is the place of the line and the column; -1 where there is none. -/
def IsPlace (ls : List (List UInt8)) (line col r : Int) : Prop :=
  (∃ k : Nat, r = k ∧ rCut ls (k : Int) = true ∧ ropeLine ls (k : Int) = (line, col)) ∨ (r = -1 ∧ ∀ k : Nat, rCut ls (k : Int) = true → ropeLine ls (k : Int) ≠ (line, col))

theorem place_spec {ls : List (List UInt8)} {k : Nat} {line col : Int} (hc : rCut ls (k : Int) = true) (h : ropeLine ls (k : Int) = (line, col)) :
    ∃ (m : Nat) (L : List UInt8), line = (m : Int) ∧ (linesOf (chunksText ls))[m]? = some L ∧ startOf (linesOf (chunksText ls)) m ≤ k ∧ placeOf L col = ((k - startOf (linesOf (chunksText ls)) m : Nat) : Int) := by
  obtain ⟨_, k', hk', hle, hb⟩ := rCut_true hc
  have : k' = k := by omega
  subst this
  unfold ropeLine at h
  rw [if_pos hc, Int.toNat_natCast] at h
  have ht := chunksText_isText ls
  generalize chunksText ls = T at *
  obtain ⟨L, h1, h2, h3, h4, h5, h6⟩ := atLine T.length T (Nat.le_refl _) k' hle
  rw [h4] at h
  rw [hb] at h5
  have hL := linesOf_text ht h1
  rw [runeCount_take hL h3 h5.symm] at h
  refine ⟨lines (T.take k'), L, (congrArg Prod.fst h).symm, h1, by rw [← h6]; exact h2, ?_⟩
  have hcol : runesTo L ((k' - lineFrom (T.take k') : Nat) : Int) = col := congrArg Prod.snd h
  rw [← hcol, ← h6]
  refine placeOf_runesTo L _ ?_
  unfold runesTo
  rw [if_pos ⟨hL, h5.symm⟩]
  omega

theorem placeOf_pos {L : List UInt8} {n : Int} (h : 0 ≤ placeOf L n) : ∃ q : Nat, placeOf L n = (q : Int) ∧ q ≤ L.length ∧ isBound L (q : Int) = true ∧ runesTo L (q : Int) = n := by
  by_cases ho : n < 0 ∨ ((cutsOr L).length : Int) ≤ n
  · rw [placeOf_out L n ho] at h; omega
  · have hn : n.toNat < (cutsOr L).length := by omega
    have hp := placeOf_in L n.toNat hn
    rw [show ((n.toNat : Nat) : Int) = n by omega] at hp
    have hr := runesTo_found L n.toNat hn
    rw [show ((n.toNat : Nat) : Int) = n by omega] at hr
    obtain ⟨_, k, hk, hkl, hb, _⟩ := runesTo_pos (l := L) (a := ((cutsOr L)[n.toNat] : Nat)) (by omega)
    have e : (cutsOr L)[n.toNat] = k := by omega
    exact ⟨(cutsOr L)[n.toNat], hp, by omega, by rw [e]; exact hb, hr⟩

theorem place_back {ls : List (List UInt8)} (hok : chunksOk ls = true) {m : Nat} {L : List UInt8} {col : Int} (hL : (linesOf (chunksText ls))[m]? = some L) (hp : 0 ≤ placeOf L col) :
    rCut ls (((startOf (linesOf (chunksText ls)) m + (placeOf L col).toNat : Nat)) : Int) = true ∧ ropeLine ls (((startOf (linesOf (chunksText ls)) m + (placeOf L col).toNat : Nat)) : Int) = ((m : Int), col) := by
  obtain ⟨q, hq, hql, hqb, hqr⟩ := placeOf_pos hp
  have ht := chunksText_isText ls
  have e : (placeOf L col).toNat = q := by omega
  rw [e]
  obtain ⟨h1, h2, h3⟩ := ofLine _ (chunksText ls) (Nat.le_refl _) m L hL q hql
  obtain ⟨L', g1, g2, g3, g4, g5, g6⟩ := atLine _ (chunksText ls) (Nat.le_refl _) _ h1
  rw [h2] at g1
  rw [hL] at g1
  cases g1
  rw [h3] at g3 g4 g5
  rw [Nat.add_sub_cancel_left] at g3 g4 g5
  have hc : rCut ls (((startOf (linesOf (chunksText ls)) m + q : Nat)) : Int) = true := by
    unfold rCut
    rw [hok, Bool.true_and, g5]
    exact hqb
  refine ⟨hc, ?_⟩
  unfold ropeLine
  rw [if_pos hc, Int.toNat_natCast, h2, h3, g4, runeCount_take (linesOf_text ht hL) hql hqb, hqr]

theorem IsPlace.unique {ls : List (List UInt8)} {line col r s : Int} (h : IsPlace ls line col r) (g : IsPlace ls line col s) : r = s := by
  rcases h with ⟨i, rfl, h1, h2⟩ | ⟨rfl, h⟩ <;> rcases g with ⟨j, rfl, g1, g2⟩ | ⟨rfl, g⟩
  · obtain ⟨m, L, a1, a2, a3, a4⟩ := place_spec h1 h2
    obtain ⟨m', L', b1, b2, b3, b4⟩ := place_spec g1 g2
    have : m = m' := by omega
    subst this
    rw [a2] at b2
    cases b2
    omega
  · exact absurd h2 (g i h1)
  · exact absurd g2 (h j g1)
  · rfl

theorem place_none {ls : List (List UInt8)} {line col : Int} (h : ∀ (m : Nat) (L : List UInt8), line = (m : Int) → (linesOf (chunksText ls))[m]? = some L → placeOf L col < 0) : IsPlace ls line col (-1) :=
  .inr ⟨rfl, fun k hc hr => by
    obtain ⟨m, L, h1, h2, h3, h4⟩ := place_spec hc hr
    have := h m L h1 h2
    omega⟩
theorem place_some {ls : List (List UInt8)} (hok : chunksOk ls = true) {m : Nat} {L : List UInt8} {col : Int} (hL : (linesOf (chunksText ls))[m]? = some L) (hp : 0 ≤ placeOf L col) :
    IsPlace ls (m : Int) col ((startOf (linesOf (chunksText ls)) m : Int) + placeOf L col) := by
  obtain ⟨h1, h2⟩ := place_back hok hL hp
  exact .inl ⟨_, by omega, h1, h2⟩
theorem place_bad {ls : List (List UInt8)} {line col : Int} (h : chunksOk ls = false) : IsPlace ls line col (-1) :=
  .inr ⟨rfl, fun k hc => by unfold rCut at hc; rw [h] at hc; cases hc⟩
end Go.Proofs.YthnahenpnafkmaaDoor.P

/-
  Chapter 4, plain mathematics: where a text stands in a text, the text can be cut; what is found is found again from there. Own work.
-/
namespace Go.Proofs.YthnahenpnafkmaaDoor.P

theorem okS_app_right : ∀ (n : Nat) (a b : List UInt8), a.length ≤ n → okS 0 a = true → okS 0 (a ++ b) = true → okS 0 b = true := by
  intro n
  induction n with
  | zero =>
    intro a b h1 h2 h3
    have : a = [] := List.eq_nil_of_length_eq_zero (by omega)
    subst this
    simpa using h3
  | succ n ih =>
    intro a b h1 h2 h3
    by_cases ha : a = []
    · subst ha; simpa using h3
    · rw [okS_step ha] at h2
      simp only [Bool.and_eq_true, decide_eq_true_eq] at h2
      have hne : a ++ b ≠ [] := by simp [ha]
      have hle := sz_le a
      rw [okS_step hne, sz_app h2.1, List.drop_append_of_le_length hle, decide_eq_true h2.1, Bool.true_and] at h3
      exact ih _ _ (by have := h2.1; rw [List.length_drop]; omega) h2.2 h3

theorem stands_cut {t p : List UInt8} {i : Nat} (ht : okS 0 t = true) (hp : okS 0 p = true) (h0 : 0 < p.length) (hi : i < t.length) (h : standsAt t p i) :
    i + p.length ≤ t.length ∧ isBound t (i : Int) = true ∧ isBound t ((i + p.length : Nat) : Int) = true := by
  have hle := standsAt_le h (Nat.le_of_lt hi)
  have hpre : t.drop i = p ++ t.drop (i + p.length) := by
    have h1 := (List.take_append_drop p.length (t.drop i)).symm
    unfold standsAt at h
    rw [h, List.drop_drop] at h1
    exact h1
  have hb : isBound t (i : Int) = true := by
    rw [isBound_lt t i hi]
    have hz := isBound_zero p hp
    rw [isBound_lt p 0 h0] at hz
    have e : t[i] = p[0] := by
      have h1 : (t.drop i)[0]? = (p ++ t.drop (i + p.length))[0]? := by rw [hpre]
      rw [List.getElem?_drop, List.getElem?_append_left h0, Nat.add_zero, List.getElem?_eq_getElem hi, List.getElem?_eq_getElem h0] at h1
      exact Option.some.inj h1
    rw [e]
    exact hz
  refine ⟨hle, hb, ?_⟩
  have h1 := okS_of_bound ht (Nat.le_of_lt hi) hb
  rw [hpre] at h1
  have h2 := okS_app_right _ _ _ (Nat.le_refl _) hp h1
  have h3 := isBound_zero _ h2
  rw [isBound_drop t (i + p.length) 0 hle (by omega)] at h3
  exact h3

/-- What a find ends in, where there is one. -/
theorem finds_hit {ls : List (List UInt8)} {p : List UInt8} {a r : Int} (h : FindsR ls p a r) (hr : 0 ≤ r) :
    ∃ i : Nat, r = i ∧ a ≤ r ∧ rCut ls (i : Int) = true ∧ rCut ls ((i : Int) + p.length) = true ∧ chunksOk ls = true ∧ (ls.flatten.drop i).take p.length = p ∧ i + p.length ≤ ls.flatten.length ∧ 0 < p.length ∧
      (∀ s, FindsBackR ls p (i : Int) s → s = i) ∧ (∀ s, FindsBackR ls p (ls.flatten.length : Int) s → (i : Int) ≤ s) ∧ ∀ s, FindsR ls p (i : Int) s → s = i := by
  rcases h with ⟨hc, h⟩ | ⟨_, h⟩
  · unfold canFindR at hc
    simp only [Bool.and_eq_true, decide_eq_true_eq] at hc
    obtain ⟨hcut, hpt, hp0⟩ := hc
    have hcut' := hcut
    unfold rCut at hcut'
    rw [Bool.and_eq_true] at hcut'
    have htx := chunksText_ok hcut'.1
    rw [htx] at h hcut'
    have htext := chunksOk_text hcut'.1
    have ha : 0 ≤ a ∧ a ≤ ls.flatten.length := by
      by_cases h1 : a < 0 ∨ (ls.flatten.length : Int) < a
      · have h2 := isBound_out _ a h1; rw [hcut'.2] at h2; cases h2
      · omega
    rcases h with ⟨i, rfl, h1, h2, h3, h4⟩ | ⟨h, _⟩
    · obtain ⟨c1, c2, c3⟩ := stands_cut (isText_ok htext) (isText_ok hpt) hp0 h2 h3
      have cut : ∀ k : Int, isBound ls.flatten k = true → rCut ls k = true := fun k hk => by unfold rCut; rw [htx, hcut'.1, hk]; rfl
      have can : ∀ k : Int, isBound ls.flatten k = true → canFindR ls p k = true := fun k hk => by unfold canFindR; rw [cut k hk, hpt, decide_eq_true hp0]; rfl
      refine ⟨i, rfl, by omega, cut _ c2, ?_, hcut'.1, h3, c1, hp0, ?_, ?_, ?_⟩
      · have := cut _ c3
        rwa [Int.natCast_add] at this
      · intro s hs
        rcases hs with ⟨_, hs⟩ | ⟨hs, _⟩
        · rw [htx] at hs
          rcases hs with ⟨j, rfl, g1, g2, g3⟩ | ⟨rfl, g⟩
          · by_cases hj : j < i
            · exact absurd h3 (g3 i hj (by omega))
            · omega
          · exact absurd h3 (g i (by omega))
        · rw [can _ c2] at hs; cases hs
      · intro s hs
        rcases hs with ⟨_, hs⟩ | ⟨hs, _⟩
        · rw [htx] at hs
          rcases hs with ⟨j, rfl, g1, g2, g3⟩ | ⟨rfl, g⟩
          · by_cases hj : j < i
            · exact absurd h3 (g3 i hj (by omega))
            · omega
          · exact absurd h3 (g i (by omega))
        · rw [can _ (isBound_end _)] at hs; cases hs
      · intro s hs
        rcases hs with ⟨_, hs⟩ | ⟨hs, _⟩
        · rw [htx] at hs
          rcases hs with ⟨j, rfl, g1, g2, g3, g4⟩ | ⟨rfl, g⟩
          · by_cases hj : i < j
            · exact absurd h3 (g4 i (by omega) hj)
            · omega
          · exact absurd h3 (g i (by omega) h2)
        · rw [can _ c2] at hs; cases hs
    · omega
  · omega
end Go.Proofs.YthnahenpnafkmaaDoor.P

/-
  Chapter 4, plain mathematics of RopeEdit: the text of what an edit makes. Own work.
-/
namespace Go.Proofs.YthnahenpnafkmaaDoor
open Go.RowKit P
set_option linter.unusedVariables false

theorem bk_none {ls : List (List UInt8)} {a b : Int} {k : Nat} (h : (tot (ls.take k) : Int) < b) : bkP ls a b (ks ls.length k) = [] := by
  unfold bkP
  rw [List.filter_eq_nil_iff]
  intro x hx
  have h1 := tot_mono (ls := ls) (Nat.le_of_lt (ks_lt hx))
  have h2 : ¬ b ≤ (tot (ls.take x.1) : Int) := by omega
  unfold isB
  rw [decide_eq_false h2]
  simp
theorem hd_none {ls : List (List UInt8)} {a b : Int} {k : Nat} (hk : k ≤ ls.length) (h : (tot (ls.take k) : Int) ≤ a) : hdV ls a b (ks ls.length k) = [] := by
  unfold hdV; rw [mdP_none hk h]; rfl

theorem edit_text {ls : List (List UInt8)} {a b N : Int} (hab : a ≤ b) (ha : 0 ≤ a) (hN : (tot ls : Int) ≤ N) (hne : ∀ k (h : k < ls.length), 0 < (ls[k]).length) : ∀ k, k ≤ ls.length →
    (ofP ls (frP ls a (ks ls.length k))).flatten ++ hdV ls a b (ks ls.length k) = (ls.take k).flatten.take a.toNat ∧
    tlV ls a b N (ks ls.length k) ++ (ofP ls (bkP ls a b (ks ls.length k))).flatten = (ls.take k).flatten.drop b.toNat := by
  intro k
  induction k with
  | zero =>
    intro _
    have hk : ks ls.length 0 = [] := by simp [ks]
    rw [hk]
    simp [frP, bkP, hdV, tlV, mdP, ofP, gath]
  | succ k ih =>
    intro hk1
    have hk : k < ls.length := by omega
    obtain ⟨i1, i2⟩ := ih (by omega)
    have htk := tot_take ls k hk
    have htl := tot_take_le ls (k + 1)
    obtain ⟨e1, e2, e3, e4⟩ := edit_step (b := b) (N := N) hab ha hk (by omega) (hne k hk)
    have hfl := flat_snoc ls k hk
    have hlen : ((ls.take k).flatten.length : Int) = (tot (ls.take k) : Int) := rfl
    have hd0 := hne k hk
    rw [e1, e2, e3, e4, hfl]
    generalize hs : (tot (ls.take k) : Int) = s at *
    generalize hT : (ls.take k).flatten = T at *
    constructor
    · by_cases h1 : s + ((ls[k]).length : Int) ≤ a
      · rw [if_pos h1, if_neg (fun h => h.1 h1), ofP_snoc, List.flatten_append]
        have h2 := hd_none (b := b) (Nat.le_of_lt hk) (show (tot (ls.take k) : Int) ≤ a by omega)
        rw [h2, List.append_nil] at i1
        rw [h2, i1, List.take_of_length_le (by omega), List.take_of_length_le (by rw [List.length_append]; omega)]
        simp
      · rw [if_neg h1]
        by_cases h2 : s < a
        · rw [if_pos ⟨h1, h2⟩]
          have h3 := hd_none (b := b) (Nat.le_of_lt hk) (show (tot (ls.take k) : Int) ≤ a by omega)
          rw [h3, List.append_nil] at i1
          have h4 : T.take a.toNat = T := List.take_of_length_le (by omega)
          rw [i1, h4, List.take_append, h4, show a.toNat - T.length = (a - s).toNat by omega]
        · rw [if_neg (fun h => h2 h.2), i1, List.take_append_of_le_length (by omega)]
    · by_cases h1 : b ≤ s
      · rw [if_pos h1, if_neg (fun h => h.1 h1), ofP_snoc, List.flatten_append, ← List.append_assoc, i2, List.drop_append_of_le_length (by omega)]
        simp
      · rw [if_neg h1]
        have h3 := bk_none (a := a) (show (tot (ls.take k) : Int) < b by omega)
        rw [h3] at i2 ⊢
        by_cases h2 : b < s + ((ls[k]).length : Int)
        · have h4 : T.drop b.toNat = [] := List.drop_of_length_le (by omega)
          rw [if_pos ⟨h1, h2⟩, List.drop_append, h4, show b.toNat - T.length = (b - s).toNat by omega]
          simp [ofP]
        · rw [if_neg (fun h => h2 h.2), i2, List.drop_of_length_le (by omega), List.drop_of_length_le (by rw [List.length_append]; omega)]

theorem editOk_text {ls : List (List UInt8)} {a m : Int} {p : List UInt8} (h : editOk ls a m p = true) :
    chunksOk ls = true ∧ 0 ≤ a ∧ 0 ≤ m ∧ a + m ≤ (ls.flatten.length : Int) ∧ (editV ls a m p).flatten = ls.flatten.take a.toNat ++ (p ++ ls.flatten.drop (a + m).toNat) ∧ chunksOk (editV ls a m p) = true := by
  obtain ⟨h1, h2, h3, h4, h5⟩ := (editOk_iff ls a m p).1 h
  have ra := rCut_range h3
  have rb := rCut_range h4
  have hck := ra.1
  have hne : ∀ k (h : k < ls.length), 0 < (ls[k]).length := fun k h => by have := (chunksOk_all hck).1 _ (List.getElem_mem h); exact ((chunkOk_iff _).1 this).1
  have htx := chunksText_ok hck
  have htext := isText_ok (chunksOk_text hck)
  obtain ⟨t1, t2⟩ := edit_text (b := a + m) (N := (tot ls : Int)) (by omega) ra.2.1 (Int.le_refl _) hne ls.length (Nat.le_refl _)
  rw [List.take_length] at t1 t2
  have hv : editV ls a m p = editR ls a (a + m) (tot ls) p := by unfold editV; rw [if_pos h]
  have hba : isBound ls.flatten ((a.toNat : Nat) : Int) = true := by
    rw [show ((a.toNat : Nat) : Int) = a by omega]
    unfold rCut at h3; rw [Bool.and_eq_true, htx] at h3; exact h3.2
  have hbb : isBound ls.flatten (((a + m).toNat : Nat) : Int) = true := by
    rw [show (((a + m).toNat : Nat) : Int) = a + m by omega]
    unfold rCut at h4; rw [Bool.and_eq_true, htx] at h4; exact h4.2
  have hta := okS_take _ ls.flatten a.toNat (Nat.le_refl _) (by omega) htext hba
  have htb := okS_of_bound htext (show (a + m).toNat ≤ ls.flatten.length by omega) hbb
  refine ⟨hck, ra.2.1, h1, rb.2.2, ?_⟩
  have hFo : ∀ pre : List (Ix ls), okS 0 (ofP ls pre).flatten = true := fun pre => flatten_text _ (fun c hc => by
    obtain ⟨y, _, rfl⟩ := List.mem_map.1 hc
    exact (chunksOk_all hck).1 _ (List.getElem_mem y.2))
  have hhd : okS 0 (hdV ls a (a + m) (ks ls.length ls.length)) = true := by
    rw [← t1] at hta
    exact okS_app_right _ _ _ (Nat.le_refl _) (hFo _) hta
  have htl : okS 0 (tlV ls a (a + m) (tot ls) (ks ls.length ls.length)) = true := by
    rw [← t2] at htb
    have hz := isBound_app_right (tlV ls a (a + m) (tot ls) (ks ls.length ls.length)) ((ofP ls (bkP ls a (a + m) (ks ls.length ls.length))).flatten) 0 (Nat.zero_le _)
    rw [isBound_zero _ (hFo _), Nat.add_zero] at hz
    have := okS_take _ _ (tlV ls a (a + m) (tot ls) (ks ls.length ls.length)).length (Nat.le_refl _) (by rw [List.length_append]; omega) htb hz
    rw [List.take_left] at this
    exact this
  have hl1 := congrArg List.length t1
  have hl2 := congrArg List.length t2
  rw [List.length_append, List.length_take] at hl1
  rw [List.length_append, List.length_drop] at hl2
  have htN : (tot ls : Int) = (ls.flatten.length : Int) := rfl
  have hmid : isText (hdV ls a (a + m) (ks ls.length ls.length) ++ (p ++ tlV ls a (a + m) (tot ls) (ks ls.length ls.length))) = true := by
    refine isText_of ?_ (okS_app _ _ _ (Nat.le_refl _) hhd (okS_app _ _ _ (Nat.le_refl _) (isText_ok h2) htl))
    rw [List.length_append, List.length_append]
    omega
  have hflat : (editV ls a m p).flatten = ls.flatten.take a.toNat ++ (p ++ ls.flatten.drop (a + m).toNat) := by
    rw [hv, ← t1, ← t2]
    unfold editR
    rw [List.flatten_append, List.flatten_append, chunksOf_flat hmid]
    simp [List.append_assoc]
  refine ⟨hflat, ?_⟩
  have hmk : (∀ c ∈ editV ls a m p, chunkOk c = true) → (editV ls a m p).flatten.length ≤ 400 → chunksOk (editV ls a m p) = true := fun g1 g2 => by
    unfold chunksOk
    rw [decide_eq_true g2, Bool.and_true]
    exact List.all_eq_true.2 g1
  refine hmk (fun c hc => ?_) ?_
  · rw [hv] at hc
    unfold editR at hc
    rcases List.mem_append.1 hc with h9 | h9
    · obtain ⟨y, _, rfl⟩ := List.mem_map.1 h9; exact (chunksOk_all hck).1 _ (List.getElem_mem y.2)
    · rcases List.mem_append.1 h9 with h9 | h9
      · exact chunksOf_all _ c h9
      · obtain ⟨y, _, rfl⟩ := List.mem_map.1 h9; exact (chunksOk_all hck).1 _ (List.getElem_mem y.2)
  · rw [hflat, List.length_append, List.length_append, List.length_take, List.length_drop]
    omega
end Go.Proofs.YthnahenpnafkmaaDoor

/-
  Chapter 4, RopeSplit in the model and in the program: contracts. Own work.
  Chapter 4, RopeSplit in the model: contract. Own work.
-/
namespace Go.Proofs.YthnahenpnafkmaaDoor
open Go.RowKit P
set_option linter.unusedVariables false
set_option linter.unusedSimpArgs false
set_option maxRecDepth 100000

/-- The parts of a rope that is cut at a. -/
def spA (ls : List (List UInt8)) (a : Int) : List (List UInt8) := if rCut ls a = true then editV ls a ((tot ls : Int) - a) [] else []
def spB (ls : List (List UInt8)) (a : Int) : List (List UInt8) := if rCut ls a = true then editV ls 0 a [] else []
theorem cut_facts {ls : List (List UInt8)} {a : Int} (h : rCut ls a = true) : chunksOk ls = true ∧ chunksText ls = ls.flatten ∧ 0 ≤ a ∧ a ≤ (tot ls : Int) ∧ tot ls ≤ 400 := by
  obtain ⟨h1, k, rfl, h2, _⟩ := rCut_true h
  have h3 := chunksText_ok h1
  have h4 := isText_len (chunksText_isText ls)
  rw [h3] at h2 h4
  unfold tot
  exact ⟨h1, h3, by omega, by omega, h4⟩
theorem editOk_back (ls : List (List UInt8)) (a : Int) : editOk ls 0 a [] = rCut ls a := by
  cases h : rCut ls a
  · cases h2 : editOk ls 0 a []
    · rfl
    · obtain ⟨_, _, _, h4, _⟩ := (editOk_iff ls 0 a []).1 h2
      rw [Int.zero_add, h] at h4
      cases h4
  · obtain ⟨h1, h3, h4, h5, h6⟩ := cut_facts h
    rw [editOk_iff]
    refine ⟨h4, isText_nil, ?_, by rw [Int.zero_add]; exact h, by simp; omega⟩
    unfold rCut
    rw [h1, Bool.true_and]
    have h7 := chunksText_isText ls
    exact isBound_zero _ (isText_ok h7)
theorem editOk_front {ls : List (List UInt8)} {a : Int} (h : rCut ls a = true) : editOk ls a ((tot ls : Int) - a) [] = true := by
  obtain ⟨h1, h3, h4, h5, h6⟩ := cut_facts h
  rw [editOk_iff]
  refine ⟨by omega, isText_nil, h, ?_, by simp; omega⟩
  rw [show a + ((tot ls : Int) - a) = (tot ls : Int) by omega]
  unfold rCut
  rw [h1, Bool.true_and, h3]
  exact isBound_end _
theorem editV_cut {ls : List (List UInt8)} {a m : Int} (h : rCut ls a = false) : editV ls a m [] = [] := by
  unfold editV
  rw [if_neg]
  intro h2
  obtain ⟨_, _, h3, _, _⟩ := (editOk_iff ls a m []).1 h2
  rw [h] at h3
  cases h3
theorem editV_back (ls : List (List UInt8)) (a : Int) : editV ls 0 a [] = spB ls a := by
  unfold spB
  split
  · rfl
  · rename_i h
    unfold editV
    rw [editOk_back, if_neg h]

theorem editV_800 {ls : List (List UInt8)} {a m : Int} {p : List UInt8} (h : editOk ls a m p = true) : (editV ls a m p).length + tot (editV ls a m p) ≤ 800 := by
  obtain ⟨_, _, _, _, _, h6⟩ := editOk_text h
  have h7 := chunksOk_len h6
  have h8 := isText_len (chunksOk_text h6)
  unfold tot
  omega
theorem spA_bd (ls : List (List UInt8)) (a : Int) : (spA ls a).length + tot (spA ls a) ≤ 800 := by
  unfold spA; split
  · rename_i h; exact editV_800 (editOk_front h)
  · simp [tot]
theorem spB_bd (ls : List (List UInt8)) (a : Int) : (spB ls a).length + tot (spB ls a) ≤ 800 := by
  unfold spB; split
  · rename_i h; exact editV_800 (by rw [editOk_back]; exact h)
  · simp [tot]

def Splits (ls : List (List UInt8)) (a : Int) (w : World) (e : Ending) (w' : World) : Prop :=
  ∃ A1 c1 A2 c2 f1 f2, e = .returned (.tuple #[.agg #[.slice A1 (spA ls a).length c1], .agg #[.slice A2 (spB ls a).length c2], .bool (rCut ls a)]) ∧ Lay.chunks.ow w' [.slice A1 (spA ls a).length c1] (spA ls a) f1 ∧ Lay.chunks.ow w' [.slice A2 (spB ls a).length c2] (spB ls a) f2 ∧
    f1.Nodup ∧ f2.Nodup ∧ (∀ k ∈ f1, w.heap.size ≤ k) ∧ (∀ k ∈ f2, w.heap.size ≤ k) ∧ (∀ k ∈ f1, k ∉ f2) ∧ Below w.heap.size w w'
set_option maxHeartbeats 8000000 in
theorem implRopeSplit_any (A : Option Addr) (ls : List (List UInt8)) (c : Nat) (a : Int) (w : World) (hl2 : ls.length ≤ 1048576) (hT : Tab w) (hC : Cs w A ls) (ha : -9223372036854775808 ≤ a ∧ a ≤ 9223372036854775807) :
    Calls Tryd.prog 7 #[.agg #[.slice A ls.length c], .int .i64 a] w (Splits ls a w) := by
  obtain ⟨SA, hSA⟩ : ∃ x, spA ls a = x := ⟨_, rfl⟩
  obtain ⟨SB, hSB⟩ : ∃ x, spB ls a = x := ⟨_, rfl⟩
  obtain ⟨ok, hok⟩ : ∃ x, rCut ls a = x := ⟨_, rfl⟩
  unfold Splits
  rw [hSA, hSB, hok]
  obtain ⟨N, hN⟩ : ∃ x, mB (chunksText ls) = x := ⟨_, rfl⟩
  obtain ⟨m, hm⟩ : ∃ m, IntKind.i64.wrap (N - a) = m := ⟨_, rfl⟩
  have hmr : -9223372036854775808 ≤ m ∧ m ≤ 9223372036854775807 := by rw [← hm, IntKind.wrap_i64]; omega
  have hV1 : editV ls a m [] = SA := by
    rw [← hSA]
    unfold spA
    split
    · rename_i h
      obtain ⟨h1, h3, h4, h5, h6⟩ := cut_facts h
      have hN2 : N = (tot ls : Int) := by
        rw [← hN]
        unfold mB
        rw [chunksText_isText, if_pos rfl, h3]
        rfl
      rw [← hm, hN2, IntWalk.i64_in _ (by omega)]
    · rename_i h
      exact editV_cut (by simpa using h)
  have hV2 : editV ls 0 a [] = SB := by rw [editV_back, hSB]
  have hE2 : editOk ls 0 a [] = ok := by rw [editOk_back, hok]
  have hfd : ∀ y z W, (Instr.field 35 (meas N y z) 0).run Tryd.prog W = .ok (.int .i64 N) W := fun y z W => by kernel_rfl
  have HV1 := Lib.hid hV1
  have HV2 := Lib.hid hV2
  have HE2 := Lib.hid hE2
  have HN := Lib.hid hN
  clear hSA hSB hok hV1 hV2 hE2 hN
  have hb0 := ((((Below.refl w.heap.size w).alloc (Nat.le_refl _) (.cells #[.slice A ls.length c] 26)).alloc (by simp) (.cells #[.slice none 0 0] 26)).alloc (by simp; omega) (.cells #[.slice none 0 0] 26))
  have hb1 : Blk (((w.alloc (.cells #[.slice A ls.length c] 26)).alloc (.cells #[.slice none 0 0] 26)).alloc (.cells #[.slice none 0 0] 26)) w.heap.size #[.slice A ls.length c] 26 := ((Blk.new w #[.slice A ls.length c] 26).alloc (.cells #[.slice none 0 0] 26)).alloc (.cells #[.slice none 0 0] 26)
  have hb2 : Blk (((w.alloc (.cells #[.slice A ls.length c] 26)).alloc (.cells #[.slice none 0 0] 26)).alloc (.cells #[.slice none 0 0] 26)) (w.heap.size + 1) #[.slice none 0 0] 26 := by
    have h9 := (Blk.new (w.alloc (.cells #[.slice A ls.length c] 26)) #[.slice none 0 0] 26).alloc (.cells #[.slice none 0 0] 26)
    simpa using h9
  have hb3 : Blk (((w.alloc (.cells #[.slice A ls.length c] 26)).alloc (.cells #[.slice none 0 0] 26)).alloc (.cells #[.slice none 0 0] 26)) (w.heap.size + 2) #[.slice none 0 0] 26 := by
    have h9 := Blk.new ((w.alloc (.cells #[.slice A ls.length c] 26)).alloc (.cells #[.slice none 0 0] 26)) #[.slice none 0 0] 26
    simpa using h9
  have hC0 := hC.below hb0
  have p0 := hb1.cell 0
  have hT0 := hT.below hb0
  go_enter Tryd.func7, Tryd.ntmps7
  go_wp2_with fail
  generalize ((w.alloc (.cells #[.slice A ls.length c] 26)).alloc (.cells #[.slice none 0 0] 26)).alloc (.cells #[.slice none 0 0] 26) = W0 at *
  have BB1 := Lib.hid hb1
  have BB2 := Lib.hid hb2
  have BB3 := Lib.hid hb3
  have HC := Lib.hid hC0
  have HT := Lib.hid hT0
  have HB0 := Lib.hid hb0
  clear hb1 hb2 hb3 hC0 hT0 hb0 hC hT
  go_upto_region 1 with fail
  go_cut [7] (fun p wx => ∃ (b : Nat) (A1 : Option Addr) (c1 : Nat) (f1 : List Nat), p = .pointer (some ⟨b, 0, none⟩) ∧ Blk wx b #[.slice A1 SA.length c1] 26 ∧ Lay.chunks.ow wx [.slice A1 SA.length c1] SA f1 ∧ f1.Nodup ∧ (∀ k ∈ f1, W0.heap.size ≤ k) ∧ b ∉ f1 ∧ W0.heap.size ≤ b ∧ Below W0.heap.size W0 wx)
  case first =>
    have nH0 : Hid (Below W0.heap.size W0 W0.drew) := Lib.hid (Below.refl W0.heap.size W0).drew
    have nz0 : W0.drew.heap.size = W0.heap.size := World.size_drew W0
    refine wp_region_noPanic ?_
    refine wp_region_held_drew (S := (fun V => V.cell? ⟨w.heap.size, 0, none⟩ = some (.slice A ls.length c))) (by kernel_rfl) (by exact p0) (fun hHeld => ?_)
    refine wpAnyH_take (i := 0) (oi := ?_) (v := ?_) ?_ ?_ ?_ ?_ ?_ ?_ (by exact hHeld) ?_
    rotate_left 2
    · (simp only [List.getElem?_toArray, List.getElem?_cons_zero]; try rfl)
    · kernel_rfl
    · kernel_rfl
    · kernel_rfl
    · exact fun _ _ _ h => h
    · refine Or.inl ⟨by rfl, ?_⟩
      (intro V hSV; (try dsimp only at hSV); have q0 := hSV; go_simp; try with_reducible rfl)
    (try simp only [Act.put, List.setIfInBounds_toArray, List.set_cons_zero, List.set_cons_succ])
    refine wpAnyH_take (i := 1) (oi := ?_) (v := ?_) ?_ ?_ ?_ ?_ ?_ ?_ (by exact hHeld) ?_
    rotate_left 2
    · (simp only [List.getElem?_toArray, List.getElem?_cons_zero, List.getElem?_cons_succ]; try rfl)
    · kernel_rfl
    · kernel_rfl
    · kernel_rfl
    · exact fun _ _ _ h => h
    · refine Or.inl ⟨by rfl, ?_⟩
      (intro V hSV; (try dsimp only at hSV); have q0 := hSV; go_simp; try with_reducible rfl)
    (try simp only [Act.put, List.setIfInBounds_toArray, List.set_cons_zero, List.set_cons_succ])
    refine wpAnyH_take (i := 2) (oi := ?_) (v := ?_) ?_ ?_ ?_ ?_ ?_ ?_ (by exact hHeld) ?_
    rotate_left 2
    · (simp only [List.getElem?_toArray, List.getElem?_cons_zero, List.getElem?_cons_succ]; try rfl)
    · kernel_rfl
    · kernel_rfl
    · kernel_rfl
    · exact fun _ _ _ h => h
    · refine Or.inl ⟨by rfl, ?_⟩
      (intro V hSV; (try dsimp only at hSV); have q0 := hSV; go_simp; try with_reducible rfl)
    (try simp only [Act.put, List.setIfInBounds_toArray, List.set_cons_zero, List.set_cons_succ])
    refine wpAnyH_take (i := 5) (oi := ?_) (v := ?_) ?_ ?_ ?_ ?_ ?_ ?_ (by exact hHeld) ?_
    rotate_left 2
    · (simp only [List.getElem?_toArray, List.getElem?_cons_zero, List.getElem?_cons_succ]; try rfl)
    · kernel_rfl
    · kernel_rfl
    · kernel_rfl
    · exact fun _ _ _ h => h
    · refine Or.inl ⟨by rfl, ?_⟩
      (intro V hSV; (try dsimp only at hSV); have q0 := hSV; go_simp; try with_reducible rfl)
    (try simp only [Act.put, List.setIfInBounds_toArray, List.set_cons_zero, List.set_cons_succ])
    refine wpAnyH_ready (rs := [3, 11]) (by kernel_rfl) (by simp) ?_
    refine AllReadyH.cons (o := ?_) ?_ (fun K hK => ?_) ?_
    rotate_left 1
    · (simp only [List.getElem?_toArray, List.getElem?_cons_zero, List.getElem?_cons_succ]; try rfl)
    · go_simp
      refine (implRopeMeas_any A ls c _ hl2 (by exact HT.out.below nH0.out) (by exact HC.out.below nH0.out)).mono ?_
      rintro e ny1 ⟨rfl, hb⟩
      rw [HN.out]
      have zY1 := nH0.out.size
      have nH1 := Lib.hid (below_then nH0.out hb)
      clear hb
      go_wp2_with fail
      refine hK.out _ _ (by exact (BB1.out.below nH1.out).cell 0) (fun hHeld => ?_)
      clear hK K
      (try simp only [Act.put, List.setIfInBounds_toArray, List.set_cons_zero, List.set_cons_succ])
      refine wpAnyH_take (i := 4) (oi := ?_) (v := ?_) ?_ ?_ ?_ ?_ ?_ ?_ (by exact hHeld) ?_
      rotate_left 2
      · (simp only [List.getElem?_toArray, List.getElem?_cons_zero, List.getElem?_cons_succ]; try rfl)
      · kernel_rfl
      · kernel_rfl
      · kernel_rfl
      · exact fun _ _ _ h => h
      · refine Or.inl ⟨by rfl, ?_⟩
        (intro V hSV; (try dsimp only at hSV); have q0 := hSV; go_simp; try with_reducible rfl)
      (try simp only [Act.put, List.setIfInBounds_toArray, List.set_cons_zero, List.set_cons_succ])
      refine wpAnyH_take (i := 6) (oi := ?_) (v := ?_) ?_ ?_ ?_ ?_ ?_ ?_ (by exact hHeld) ?_
      rotate_left 2
      · (simp only [List.getElem?_toArray, List.getElem?_cons_zero, List.getElem?_cons_succ]; try rfl)
      · kernel_rfl
      · kernel_rfl
      · kernel_rfl
      · exact fun _ _ _ h => h
      · refine Or.inl ⟨by rfl, ?_⟩
        (intro V hSV; (try dsimp only at hSV); have q0 := hSV; go_simp; try with_reducible rfl)
      (try simp only [Act.put, List.setIfInBounds_toArray, List.set_cons_zero, List.set_cons_succ])
      refine wpAnyH_ready (rs := [7, 11]) (by kernel_rfl) (by simp) ?_
      refine AllReadyH.cons (o := ?_) ?_ (fun K hK => ?_) ?_
      rotate_left 1
      · (simp only [List.getElem?_toArray, List.getElem?_cons_zero, List.getElem?_cons_succ]; try rfl)
      · go_simp
        (try (have zBX := BX.out.lt))
        have zP1 := (nH1.out).size
        refine (implRopeEdit_any A ls c a m none [] 0 _ hl2 (Nat.le_refl _) (by decide) (by exact HT.out.below nH1.out) (by exact HC.out.below nH1.out) (fun k hk => absurd hk (Nat.not_lt_zero _)) ha hmr).mono ?_
        rintro e ny2 ⟨v1, f1, rfl, how1, hnd1, hfp1, hb⟩
        rw [HV1.out] at how1
        obtain ⟨A1, c1, rfl, _, _, _⟩ := Lay.chunks_rd (Lay.chunks.read how1)
        have HOW1 := Lib.hid how1
        have HND1 := Lib.hid hnd1
        have HFP1 := Lib.hid hfp1
        clear how1 hnd1 hfp1
        have zY2 := nH1.out.size
        have nH2 := Lib.hid (below_then nH1.out hb)
        clear hb
        go_wp2_with fail
        refine hK.out _ _ (by exact (BB1.out.below nH2.out).cell 0) (fun hHeld => ?_)
        clear hK K
        (try simp only [Act.put, List.setIfInBounds_toArray, List.set_cons_zero, List.set_cons_succ])
        refine wpAnyH_take (i := 8) (oi := ?_) (v := ?_) ?_ ?_ ?_ ?_ ?_ ?_ (by exact hHeld) ?_
        rotate_left 2
        · (simp only [List.getElem?_toArray, List.getElem?_cons_zero, List.getElem?_cons_succ]; try rfl)
        · kernel_rfl
        · kernel_rfl
        · kernel_rfl
        · exact fun _ _ _ h => h
        · refine Or.inl ⟨by rfl, ?_⟩
          (intro V hSV; (try dsimp only at hSV); have q0 := hSV; go_simp; try with_reducible rfl)
        (try simp only [Act.put, List.setIfInBounds_toArray, List.set_cons_zero, List.set_cons_succ])
        refine wpAnyH_take (i := 9) (oi := ?_) (v := ?_) ?_ ?_ ?_ ?_ ?_ ?_ (by exact hHeld) ?_
        rotate_left 2
        · (simp only [List.getElem?_toArray, List.getElem?_cons_zero, List.getElem?_cons_succ]; try rfl)
        · kernel_rfl
        · kernel_rfl
        · kernel_rfl
        · exact fun _ _ _ h => h
        · refine Or.inl ⟨by rfl, ?_⟩
          (intro V hSV; (try dsimp only at hSV); have q0 := hSV; go_simp; try with_reducible rfl)
        (try simp only [Act.put, List.setIfInBounds_toArray, List.set_cons_zero, List.set_cons_succ])
        refine wpAnyH_take (i := 10) (oi := ?_) (v := ?_) ?_ ?_ ?_ ?_ ?_ ?_ (by exact hHeld) ?_
        rotate_left 2
        · (simp only [List.getElem?_toArray, List.getElem?_cons_zero, List.getElem?_cons_succ]; try rfl)
        · kernel_rfl
        · kernel_rfl
        · kernel_rfl
        · exact fun _ _ _ h => h
        · refine Or.inl ⟨by rfl, ?_⟩
          (intro V hSV; (try dsimp only at hSV); have q0 := hSV; go_simp; try with_reducible rfl)
        (try simp only [Act.put, List.setIfInBounds_toArray, List.set_cons_zero, List.set_cons_succ])
        refine wpAnyH_ready (rs := [11]) (by kernel_rfl) (by simp) ?_
        refine AllReadyH.cons (o := ?_) ?_ (fun K hK => ?_) AllReadyH.nil
        rotate_left 1
        · (simp only [List.getElem?_toArray, List.getElem?_cons_zero, List.getElem?_cons_succ]; try rfl)
        have zA := nH2.out.size
        have nH3 := Lib.hid (nH2.out.alloc nH2.out.size (.cells #[.slice none 0 0] 26))
        go_simp
        refine hK.out _ _ (by exact (BB1.out.below nH3.out).cell 0) (fun hHeld => ?_)
        clear hK K
        (try simp only [Act.put, List.setIfInBounds_toArray, List.set_cons_zero, List.set_cons_succ])
        refine wpAnyH_ready (rs := [12]) (by kernel_rfl) (by simp) ?_
        refine AllReadyH.cons (o := ?_) ?_ (fun K hK => ?_) AllReadyH.nil
        rotate_left 1
        · (simp only [List.getElem?_toArray, List.getElem?_cons_zero, List.getElem?_cons_succ]; try rfl)
        have HF := Lib.hid (nH2.out.alloc nH2.out.size (.cells #[.slice A1 SA.length c1] 26))
        go_simp
        refine hK.out _ _ (by exact (BB1.out.below HF.out).cell 0) (fun hHeld => ?_)
        clear hK K
        (try simp only [Act.put, List.setIfInBounds_toArray, List.set_cons_zero, List.set_cons_succ])
        refine wpAnyH_take (i := 13) (oi := ?_) (v := ?_) ?_ ?_ ?_ ?_ ?_ ?_ (by exact hHeld) ?_
        rotate_left 2
        · (simp only [List.getElem?_toArray, List.getElem?_cons_zero, List.getElem?_cons_succ]; try rfl)
        · kernel_rfl
        · kernel_rfl
        · kernel_rfl
        · exact fun _ _ _ h => h
        · refine Or.inl ⟨by rfl, ?_⟩
          (intro V hSV; (try dsimp only at hSV); have q0 := hSV; go_simp; try with_reducible rfl)
        (try simp only [Act.put, List.setIfInBounds_toArray, List.set_cons_zero, List.set_cons_succ])
        refine wpAnyH_done (by kernel_rfl) ?_ _
        refine NoPanic.normal ?_
        go_wp2_with fail
        go_meet
        have BF := Lib.hid (Blk.new ny2 #[.slice A1 SA.length c1] 26)
        have zF := nH2.out.size
        exact ⟨ny2.heap.size, A1, c1, f1, rfl, BF.out, Lay.chunks.owBelow HOW1.out ((Below.refl _ _).alloc (Nat.le_refl _) _), HND1.out, (fun k hk => by have h1 := HFP1.out k hk; omega), (fun hm => by have h1 := Lay.chunks.lt HOW1.out _ hm; omega), by omega, HF.out⟩
      refine AllReadyH.cons (o := ?_) ?_ (fun K hK => ?_) AllReadyH.nil
      rotate_left 1
      · (simp only [List.getElem?_toArray, List.getElem?_cons_zero, List.getElem?_cons_succ]; try rfl)
      have zA := nH1.out.size
      have nH2 := Lib.hid (nH1.out.alloc nH1.out.size (.cells #[.slice none 0 0] 26))
      have BX := Lib.hid (Blk.new (ny1) #[.slice none 0 0] 26)
      go_simp
      refine hK.out _ _ (by exact (BB1.out.below nH2.out).cell 0) (fun hHeld => ?_)
      clear hK K
      (try simp only [Act.put, List.setIfInBounds_toArray, List.set_cons_zero, List.set_cons_succ])
      refine wpAnyH_ready (rs := [7]) (by kernel_rfl) (by simp) ?_
      refine AllReadyH.cons (o := ?_) ?_ (fun K hK => ?_) AllReadyH.nil
      rotate_left 1
      · (simp only [List.getElem?_toArray, List.getElem?_cons_zero, List.getElem?_cons_succ]; try rfl)
      go_simp
      (try (have zBX := BX.out.lt))
      have zP1 := (nH2.out).size
      refine (implRopeEdit_any A ls c a m none [] 0 _ hl2 (Nat.le_refl _) (by decide) (by exact HT.out.below nH2.out) (by exact HC.out.below nH2.out) (fun k hk => absurd hk (Nat.not_lt_zero _)) ha hmr).mono ?_
      rintro e ny2 ⟨v1, f1, rfl, how1, hnd1, hfp1, hb⟩
      rw [HV1.out] at how1
      obtain ⟨A1, c1, rfl, _, _, _⟩ := Lay.chunks_rd (Lay.chunks.read how1)
      have HOW1 := Lib.hid how1
      have HND1 := Lib.hid hnd1
      have HFP1 := Lib.hid hfp1
      clear how1 hnd1 hfp1
      have zY3 := nH2.out.size
      have nH3 := Lib.hid (below_then nH2.out hb)
      have BX := Lib.hid (BX.out.below hb)
      clear hb
      go_wp2_with fail
      refine hK.out _ _ (by exact (BB1.out.below nH3.out).cell 0) (fun hHeld => ?_)
      clear hK K
      (try simp only [Act.put, List.setIfInBounds_toArray, List.set_cons_zero, List.set_cons_succ])
      refine wpAnyH_take (i := 8) (oi := ?_) (v := ?_) ?_ ?_ ?_ ?_ ?_ ?_ (by exact hHeld) ?_
      rotate_left 2
      · (simp only [List.getElem?_toArray, List.getElem?_cons_zero, List.getElem?_cons_succ]; try rfl)
      · kernel_rfl
      · kernel_rfl
      · kernel_rfl
      · exact fun _ _ _ h => h
      · refine Or.inl ⟨by rfl, ?_⟩
        (intro V hSV; (try dsimp only at hSV); have q0 := hSV; go_simp; try with_reducible rfl)
      (try simp only [Act.put, List.setIfInBounds_toArray, List.set_cons_zero, List.set_cons_succ])
      refine wpAnyH_take (i := 9) (oi := ?_) (v := ?_) ?_ ?_ ?_ ?_ ?_ ?_ (by exact hHeld) ?_
      rotate_left 2
      · (simp only [List.getElem?_toArray, List.getElem?_cons_zero, List.getElem?_cons_succ]; try rfl)
      · kernel_rfl
      · kernel_rfl
      · kernel_rfl
      · exact fun _ _ _ h => h
      · refine Or.inl ⟨by rfl, ?_⟩
        (intro V hSV; (try dsimp only at hSV); have q0 := hSV; go_simp; try with_reducible rfl)
      (try simp only [Act.put, List.setIfInBounds_toArray, List.set_cons_zero, List.set_cons_succ])
      refine wpAnyH_take (i := 10) (oi := ?_) (v := ?_) ?_ ?_ ?_ ?_ ?_ ?_ (by exact hHeld) ?_
      rotate_left 2
      · (simp only [List.getElem?_toArray, List.getElem?_cons_zero, List.getElem?_cons_succ]; try rfl)
      · kernel_rfl
      · kernel_rfl
      · kernel_rfl
      · exact fun _ _ _ h => h
      · refine Or.inl ⟨by rfl, ?_⟩
        (intro V hSV; (try dsimp only at hSV); have q0 := hSV; go_simp; try with_reducible rfl)
      (try simp only [Act.put, List.setIfInBounds_toArray, List.set_cons_zero, List.set_cons_succ])
      have zB := BX.out.lt
      have nb0 := BB1.out.lt
      have g0 := BX.out.cell 0
      have f0 := BX.out.frozen 0
      have zz9 : W0.heap.size ≤ ny1.heap.size := by first | exact Nat.le_refl _ | omega
      have BF : Hid (Blk ((ny2.setCell ⟨ny1.heap.size, 0, none⟩ (.slice A1 SA.length c1))) ny1.heap.size #[.slice A1 SA.length c1] 26) := Lib.hid (by simpa using (BX.out.set 0 (.slice A1 SA.length c1)))
      have HF : Hid (Below W0.heap.size W0 ((ny2.setCell ⟨ny1.heap.size, 0, none⟩ (.slice A1 SA.length c1)))) := Lib.hid (nH3.out.setCell (p := ⟨ny1.heap.size, 0, none⟩) (by omega) (.slice A1 SA.length c1))
      refine wpAnyH_ready (rs := [12]) (by kernel_rfl) (by simp) ?_
      refine AllReadyH.cons (o := ?_) ?_ (fun K hK => ?_) AllReadyH.nil
      rotate_left 1
      · (simp only [List.getElem?_toArray, List.getElem?_cons_zero, List.getElem?_cons_succ]; try rfl)
      go_simp
      refine hK.out _ _ (by exact (BB1.out.below HF.out).cell 0) (fun hHeld => ?_)
      clear hK K
      (try simp only [Act.put, List.setIfInBounds_toArray, List.set_cons_zero, List.set_cons_succ])
      refine wpAnyH_take (i := 13) (oi := ?_) (v := ?_) ?_ ?_ ?_ ?_ ?_ ?_ (by exact hHeld) ?_
      rotate_left 2
      · (simp only [List.getElem?_toArray, List.getElem?_cons_zero, List.getElem?_cons_succ]; try rfl)
      · kernel_rfl
      · kernel_rfl
      · kernel_rfl
      · exact fun _ _ _ h => h
      · refine Or.inl ⟨by rfl, ?_⟩
        (intro V hSV; (try dsimp only at hSV); have q0 := hSV; go_simp; try with_reducible rfl)
      (try simp only [Act.put, List.setIfInBounds_toArray, List.set_cons_zero, List.set_cons_succ])
      refine wpAnyH_done (by kernel_rfl) ?_ _
      refine NoPanic.normal ?_
      go_wp2_with fail
      go_meet
      exact ⟨ny1.heap.size, A1, c1, f1, rfl, BF.out, Lay.chunks_setBelow HOW1.out (a := ⟨ny1.heap.size, 0, none⟩) (fun hm => by have h1 := HFP1.out _ hm; simp only at h1; omega) _, HND1.out, (fun k hk => by have h1 := HFP1.out k hk; omega), (fun hm => by have h1 := HFP1.out _ hm; omega), by omega, HF.out⟩
    refine AllReadyH.cons (o := ?_) ?_ (fun K hK => ?_) AllReadyH.nil
    rotate_left 1
    · (simp only [List.getElem?_toArray, List.getElem?_cons_zero, List.getElem?_cons_succ]; try rfl)
    have zA := nH0.out.size
    have nH1 := Lib.hid (nH0.out.alloc nH0.out.size (.cells #[.slice none 0 0] 26))
    have BX := Lib.hid (Blk.new (W0.drew) #[.slice none 0 0] 26)
    have BX := Lib.hid (show Blk (W0.drew.alloc (.cells #[.slice none 0 0] 26)) W0.heap.size #[.slice none 0 0] 26 from by have h9 := BX.out; rw [World.size_drew] at h9; exact h9)
    go_simp
    refine hK.out _ _ (by exact (BB1.out.below nH1.out).cell 0) (fun hHeld => ?_)
    clear hK K
    (try simp only [Act.put, List.setIfInBounds_toArray, List.set_cons_zero, List.set_cons_succ])
    refine wpAnyH_ready (rs := [3]) (by kernel_rfl) (by simp) ?_
    refine AllReadyH.cons (o := ?_) ?_ (fun K hK => ?_) AllReadyH.nil
    rotate_left 1
    · (simp only [List.getElem?_toArray, List.getElem?_cons_zero, List.getElem?_cons_succ]; try rfl)
    go_simp
    refine (implRopeMeas_any A ls c _ hl2 (by exact HT.out.below nH1.out) (by exact HC.out.below nH1.out)).mono ?_
    rintro e ny1 ⟨rfl, hb⟩
    rw [HN.out]
    have zY2 := nH1.out.size
    have nH2 := Lib.hid (below_then nH1.out hb)
    have BX := Lib.hid (BX.out.below hb)
    clear hb
    go_wp2_with fail
    refine hK.out _ _ (by exact (BB1.out.below nH2.out).cell 0) (fun hHeld => ?_)
    clear hK K
    (try simp only [Act.put, List.setIfInBounds_toArray, List.set_cons_zero, List.set_cons_succ])
    refine wpAnyH_take (i := 4) (oi := ?_) (v := ?_) ?_ ?_ ?_ ?_ ?_ ?_ (by exact hHeld) ?_
    rotate_left 2
    · (simp only [List.getElem?_toArray, List.getElem?_cons_zero, List.getElem?_cons_succ]; try rfl)
    · kernel_rfl
    · kernel_rfl
    · kernel_rfl
    · exact fun _ _ _ h => h
    · refine Or.inl ⟨by rfl, ?_⟩
      (intro V hSV; (try dsimp only at hSV); have q0 := hSV; go_simp; try with_reducible rfl)
    (try simp only [Act.put, List.setIfInBounds_toArray, List.set_cons_zero, List.set_cons_succ])
    refine wpAnyH_take (i := 6) (oi := ?_) (v := ?_) ?_ ?_ ?_ ?_ ?_ ?_ (by exact hHeld) ?_
    rotate_left 2
    · (simp only [List.getElem?_toArray, List.getElem?_cons_zero, List.getElem?_cons_succ]; try rfl)
    · kernel_rfl
    · kernel_rfl
    · kernel_rfl
    · exact fun _ _ _ h => h
    · refine Or.inl ⟨by rfl, ?_⟩
      (intro V hSV; (try dsimp only at hSV); have q0 := hSV; go_simp; try with_reducible rfl)
    (try simp only [Act.put, List.setIfInBounds_toArray, List.set_cons_zero, List.set_cons_succ])
    refine wpAnyH_ready (rs := [7]) (by kernel_rfl) (by simp) ?_
    refine AllReadyH.cons (o := ?_) ?_ (fun K hK => ?_) AllReadyH.nil
    rotate_left 1
    · (simp only [List.getElem?_toArray, List.getElem?_cons_zero, List.getElem?_cons_succ]; try rfl)
    go_simp
    (try (have zBX := BX.out.lt))
    have zP1 := (nH2.out).size
    refine (implRopeEdit_any A ls c a m none [] 0 _ hl2 (Nat.le_refl _) (by decide) (by exact HT.out.below nH2.out) (by exact HC.out.below nH2.out) (fun k hk => absurd hk (Nat.not_lt_zero _)) ha hmr).mono ?_
    rintro e ny2 ⟨v1, f1, rfl, how1, hnd1, hfp1, hb⟩
    rw [HV1.out] at how1
    obtain ⟨A1, c1, rfl, _, _, _⟩ := Lay.chunks_rd (Lay.chunks.read how1)
    have HOW1 := Lib.hid how1
    have HND1 := Lib.hid hnd1
    have HFP1 := Lib.hid hfp1
    clear how1 hnd1 hfp1
    have zY3 := nH2.out.size
    have nH3 := Lib.hid (below_then nH2.out hb)
    have BX := Lib.hid (BX.out.below hb)
    clear hb
    go_wp2_with fail
    refine hK.out _ _ (by exact (BB1.out.below nH3.out).cell 0) (fun hHeld => ?_)
    clear hK K
    (try simp only [Act.put, List.setIfInBounds_toArray, List.set_cons_zero, List.set_cons_succ])
    refine wpAnyH_take (i := 8) (oi := ?_) (v := ?_) ?_ ?_ ?_ ?_ ?_ ?_ (by exact hHeld) ?_
    rotate_left 2
    · (simp only [List.getElem?_toArray, List.getElem?_cons_zero, List.getElem?_cons_succ]; try rfl)
    · kernel_rfl
    · kernel_rfl
    · kernel_rfl
    · exact fun _ _ _ h => h
    · refine Or.inl ⟨by rfl, ?_⟩
      (intro V hSV; (try dsimp only at hSV); have q0 := hSV; go_simp; try with_reducible rfl)
    (try simp only [Act.put, List.setIfInBounds_toArray, List.set_cons_zero, List.set_cons_succ])
    refine wpAnyH_take (i := 9) (oi := ?_) (v := ?_) ?_ ?_ ?_ ?_ ?_ ?_ (by exact hHeld) ?_
    rotate_left 2
    · (simp only [List.getElem?_toArray, List.getElem?_cons_zero, List.getElem?_cons_succ]; try rfl)
    · kernel_rfl
    · kernel_rfl
    · kernel_rfl
    · exact fun _ _ _ h => h
    · refine Or.inl ⟨by rfl, ?_⟩
      (intro V hSV; (try dsimp only at hSV); have q0 := hSV; go_simp; try with_reducible rfl)
    (try simp only [Act.put, List.setIfInBounds_toArray, List.set_cons_zero, List.set_cons_succ])
    refine wpAnyH_take (i := 10) (oi := ?_) (v := ?_) ?_ ?_ ?_ ?_ ?_ ?_ (by exact hHeld) ?_
    rotate_left 2
    · (simp only [List.getElem?_toArray, List.getElem?_cons_zero, List.getElem?_cons_succ]; try rfl)
    · kernel_rfl
    · kernel_rfl
    · kernel_rfl
    · exact fun _ _ _ h => h
    · refine Or.inl ⟨by rfl, ?_⟩
      (intro V hSV; (try dsimp only at hSV); have q0 := hSV; go_simp; try with_reducible rfl)
    (try simp only [Act.put, List.setIfInBounds_toArray, List.set_cons_zero, List.set_cons_succ])
    have zB := BX.out.lt
    have nb0 := BB1.out.lt
    have g0 := BX.out.cell 0
    have f0 := BX.out.frozen 0
    have zz9 : W0.heap.size ≤ W0.heap.size := by first | exact Nat.le_refl _ | omega
    have BF : Hid (Blk ((ny2.setCell ⟨W0.heap.size, 0, none⟩ (.slice A1 SA.length c1))) W0.heap.size #[.slice A1 SA.length c1] 26) := Lib.hid (by simpa using (BX.out.set 0 (.slice A1 SA.length c1)))
    have HF : Hid (Below W0.heap.size W0 ((ny2.setCell ⟨W0.heap.size, 0, none⟩ (.slice A1 SA.length c1)))) := Lib.hid (nH3.out.setCell (p := ⟨W0.heap.size, 0, none⟩) (by omega) (.slice A1 SA.length c1))
    refine wpAnyH_ready (rs := [12]) (by kernel_rfl) (by simp) ?_
    refine AllReadyH.cons (o := ?_) ?_ (fun K hK => ?_) AllReadyH.nil
    rotate_left 1
    · (simp only [List.getElem?_toArray, List.getElem?_cons_zero, List.getElem?_cons_succ]; try rfl)
    go_simp
    refine hK.out _ _ (by exact (BB1.out.below HF.out).cell 0) (fun hHeld => ?_)
    clear hK K
    (try simp only [Act.put, List.setIfInBounds_toArray, List.set_cons_zero, List.set_cons_succ])
    refine wpAnyH_take (i := 13) (oi := ?_) (v := ?_) ?_ ?_ ?_ ?_ ?_ ?_ (by exact hHeld) ?_
    rotate_left 2
    · (simp only [List.getElem?_toArray, List.getElem?_cons_zero, List.getElem?_cons_succ]; try rfl)
    · kernel_rfl
    · kernel_rfl
    · kernel_rfl
    · exact fun _ _ _ h => h
    · refine Or.inl ⟨by rfl, ?_⟩
      (intro V hSV; (try dsimp only at hSV); have q0 := hSV; go_simp; try with_reducible rfl)
    (try simp only [Act.put, List.setIfInBounds_toArray, List.set_cons_zero, List.set_cons_succ])
    refine wpAnyH_done (by kernel_rfl) ?_ _
    refine NoPanic.normal ?_
    go_wp2_with fail
    go_meet
    exact ⟨W0.heap.size, A1, c1, f1, rfl, BF.out, Lay.chunks_setBelow HOW1.out (a := ⟨W0.heap.size, 0, none⟩) (fun hm => by have h1 := HFP1.out _ hm; simp only at h1; omega) _, HND1.out, (fun k hk => by have h1 := HFP1.out k hk; omega), (fun hm => by have h1 := HFP1.out _ hm; omega), by omega, HF.out⟩
  case rest =>
    obtain ⟨ob, A1, c1, f1, rfl, hOB, hO1, hn1, hf1, hob, zob, hb⟩ := hcut
    have OB1 := Lib.hid hOB
    have HO1 := Lib.hid hO1
    have HN1 := Lib.hid hn1
    have HF1 := Lib.hid hf1
    have HOB1 := Lib.hid hob
    have HB1 := Lib.hid hb
    have B1 := Lib.hid (BB1.out.below hb)
    have B2 := Lib.hid (BB2.out.below hb)
    have B3 := Lib.hid (BB3.out.below hb)
    have zc := hb.size
    have HL9 := Lib.hid (Lay.chunks.lt hO1)
    clear hOB hO1 hn1 hf1 hob hb p0
    have p0 := B1.out.cell 0
    go_wp2_with fail
    (try (have zBX := BX.out.lt))
    have zP2 := (HB1.out).size
    refine (implRopeEdit_any A ls c 0 a none [] 0 _ hl2 (Nat.le_refl _) (by decide) (by exact HT.out.below HB1.out) (by exact HC.out.below HB1.out) (fun k hk => absurd hk (Nat.not_lt_zero _)) (by omega) ha).mono ?_
    rintro e y2 ⟨v2, f2, rfl, how2, hnd2, hfp2, hb⟩
    rw [HV2.out] at how2
    obtain ⟨A2, c2, rfl, _, _, _⟩ := Lay.chunks_rd (Lay.chunks.read how2)
    have HOW2 := Lib.hid how2
    have HND2 := Lib.hid hnd2
    have HFP2 := Lib.hid hfp2
    clear how2 hnd2 hfp2
    have zy2 := hb.size
    have hal := (Below.refl y2.heap.size y2).alloc (Nat.le_refl _) (.cells #[.slice A2 SB.length c2] 26)
    have hb5 := below_then hb hal
    have OB1 := Lib.hid (OB1.out.below hb5)
    have HO1 := Lib.hid (Lay.chunks.owBelow HO1.out hb5)
    have B2 := Lib.hid (B2.out.below hb5)
    have B3 := Lib.hid (B3.out.below hb5)
    have HB2 := Lib.hid (below_then HB1.out hb5)
    have OB2 := Lib.hid (Blk.new y2 #[.slice A2 SB.length c2] 26)
    have HO2 := Lib.hid (Lay.chunks.owBelow HOW2.out hal)
    have hL1 := Lib.hid (fun k hk => (Lay.chunks.lt HO1.out k hk))
    have g1 := OB1.out.cell 0
    have g2 := OB2.out.cell 0
    have g3 := B2.out.cell 0
    have g4 := B3.out.cell 0
    have z3 := B3.out.lt
    have z2 := B2.out.lt
    have f3 := B2.out.frozen 0
    have f4 := B3.out.frozen 0
    have hzz : w.heap.size + 2 < W0.heap.size := BB3.out.lt
    clear hb hb5 hal p0
    go_wp2_with fail
    generalize y2.alloc (.cells #[.slice A2 SB.length c2] 26) = Y at *
    go_region
    all_goals go_wp2
    have q4 : Blk (Y.setCell ⟨w.heap.size + 1, 0, none⟩ (.slice A1 SA.length c1)) (w.heap.size + 1) #[.slice A1 SA.length c1] 26 := by simpa using B2.out.set 0 (.slice A1 SA.length c1)
    have q4b := q4.setOther (a := ⟨w.heap.size + 1 + 1, 0, none⟩) (by show w.heap.size + 1 ≠ w.heap.size + 1 + 1; omega) (.slice A2 SB.length c2)
    have r4 : ((Y.setCell ⟨w.heap.size + 1, 0, none⟩ (.slice A1 SA.length c1)).setCell ⟨w.heap.size + 1 + 1, 0, none⟩ (.slice A2 SB.length c2)).cell? ⟨w.heap.size + 1, 0, none⟩ = some (.slice A1 SA.length c1) := q4b.cell 0
    have B3' : Blk Y (w.heap.size + 1 + 1) #[.slice none 0 0] 26 := B3.out
    have q5 := B3'.setOther (a := ⟨w.heap.size + 1, 0, none⟩) (by show w.heap.size + 1 + 1 ≠ w.heap.size + 1; omega) (.slice A1 SA.length c1)
    have q5b : Blk ((Y.setCell ⟨w.heap.size + 1, 0, none⟩ (.slice A1 SA.length c1)).setCell ⟨w.heap.size + 1 + 1, 0, none⟩ (.slice A2 SB.length c2)) (w.heap.size + 1 + 1) #[.slice A2 SB.length c2] 26 := by simpa using q5.set 0 (.slice A2 SB.length c2)
    have r5 : ((Y.setCell ⟨w.heap.size + 1, 0, none⟩ (.slice A1 SA.length c1)).setCell ⟨w.heap.size + 1 + 1, 0, none⟩ (.slice A2 SB.length c2)).cell? ⟨w.heap.size + 1 + 1, 0, none⟩ = some (.slice A2 SB.length c2) := q5b.cell 0
    have n1 : ∀ k ∈ f1, W0.heap.size ≤ k := HF1.out
    have n2 : ∀ k ∈ f2, wc.heap.size ≤ k := HFP2.out
    have o1 := Lay.chunks_setBelow (Lay.chunks_setBelow HO1.out (a := ⟨w.heap.size + 1, 0, none⟩) (fun hm => by have h9 := n1 _ hm; simp only at h9; omega) (.slice A1 SA.length c1)) (a := ⟨w.heap.size + 1 + 1, 0, none⟩) (fun hm => by have h9 := n1 _ hm; simp only at h9; omega) (.slice A2 SB.length c2)
    have o2 := Lay.chunks_setBelow (Lay.chunks_setBelow HO2.out (a := ⟨w.heap.size + 1, 0, none⟩) (fun hm => by have h9 := n2 _ hm; simp only at h9; omega) (.slice A1 SA.length c1)) (a := ⟨w.heap.size + 1 + 1, 0, none⟩) (fun hm => by have h9 := n2 _ hm; simp only at h9; omega) (.slice A2 SB.length c2)
    have hbf := ((below_then HB0.out HB2.out).setCell (p := ⟨w.heap.size + 1, 0, none⟩) (by show w.heap.size ≤ w.heap.size + 1; omega) (.slice A1 SA.length c1)).setCell (p := ⟨w.heap.size + 1 + 1, 0, none⟩) (by show w.heap.size ≤ w.heap.size + 1 + 1; omega) (.slice A2 SB.length c2)
    have HE9 := HE2.out
    refine bodyPost_ret (v := .tuple #[.agg #[.slice A1 SA.length c1], .agg #[.slice A2 SB.length c2], .bool ok]) (by
      have r4' : (((Y.setCell ⟨w.heap.size + 1, 0, none⟩ (.slice A1 SA.length c1)).setCell ⟨w.heap.size + 1 + 1, 0, none⟩ (.slice A2 SB.length c2)).drew).cell? ⟨w.heap.size + 1, 0, none⟩ = some (.slice A1 SA.length c1) := r4
      have r5' : (((Y.setCell ⟨w.heap.size + 1, 0, none⟩ (.slice A1 SA.length c1)).setCell ⟨w.heap.size + 1 + 1, 0, none⟩ (.slice A2 SB.length c2)).drew).cell? ⟨w.heap.size + 1 + 1, 0, none⟩ = some (.slice A2 SB.length c2) := r5
      clear r4 r5 q4 q4b q5 q5b B3' o1 o2 hbf
      simp [results, Tryd.results7, go_sem, r4', r5', HE9]) rfl ?_
    exact ⟨A1, c1, A2, c2, f1, f2, rfl, o1, o2, HN1.out, HND2.out, fun k hk => by have h9 := n1 k hk; omega, fun k hk => by have h9 := n2 k hk; omega, fun k hk hk2 => by have h9 := HL9.out k hk; have h8 := n2 k hk2; omega, ⟨hbf.os, hbf.tape, hbf.output, hbf.size, hbf.block⟩⟩
end Go.Proofs.YthnahenpnafkmaaDoor

namespace Go.Proofs.YthnahenpnafkmaaDoor
open Go.RowKit P
set_option linter.unusedVariables false
set_option linter.unusedSimpArgs false
set_option maxRecDepth 100000

set_option maxHeartbeats 8000000 in
theorem specRopeSplit_any (A : Option Addr) (ls : List (List UInt8)) (c : Nat) (a : Int) (w : World) (hn9 : ls.length ≤ 9223372036854775807) (hC : Cs w A ls) (ha : -9223372036854775808 ≤ a ∧ a ≤ 9223372036854775807) :
    Calls Tryd.prog 6 #[.agg #[.slice A ls.length c], .int .i64 a] w (Splits ls a w) := by
  obtain ⟨SA, hSA⟩ : ∃ x, spA ls a = x := ⟨_, rfl⟩
  obtain ⟨SB, hSB⟩ : ∃ x, spB ls a = x := ⟨_, rfl⟩
  obtain ⟨ok, hok⟩ : ∃ x, rCut ls a = x := ⟨_, rfl⟩
  unfold Splits
  rw [hSA, hSB, hok]
  obtain ⟨tx, htx⟩ : ∃ x, chunksText ls = x := ⟨_, rfl⟩
  obtain ⟨m, hm⟩ : ∃ m, IntKind.i64.wrap ((tx.length : Int) - a) = m := ⟨_, rfl⟩
  have htl : tx.length ≤ 400 := by rw [← htx]; exact chunksText_len ls
  have hV1 : ok = true → editV ls a m [] = SA := by
    intro h9
    rw [h9] at hok
    rw [← hSA]
    unfold spA
    rw [if_pos hok]
    obtain ⟨h1, h3, h4, h5, h6⟩ := cut_facts hok
    have hN2 : (tx.length : Int) = (tot ls : Int) := by rw [← htx, h3]; rfl
    rw [← hm, hN2, IntWalk.i64_in _ (by omega)]
  have hV2 : editV ls 0 a [] = SB := by rw [editV_back, hSB]
  have hE2 : editOk ls 0 a [] = ok := by rw [editOk_back, hok]
  have hno : ok = false → SA = [] ∧ SB = [] := by
    intro h9
    rw [h9] at hok
    rw [← hSA, ← hSB]
    unfold spA spB
    rw [hok]
    exact ⟨rfl, rfl⟩
  have HNO := Lib.hid hno
  have HV1' := Lib.hid hV1
  have HV2 := Lib.hid hV2
  have HOK := Lib.hid hok
  have HTX := Lib.hid htx
  clear hSA hSB hok hV1 hV2 hE2 htx hno
  have hb0 := ((((Below.refl w.heap.size w).alloc (Nat.le_refl _) (.cells #[.slice A ls.length c] 26)).alloc (by simp) (.cells #[.slice none 0 0] 26)).alloc (by simp; omega) (.cells #[.slice none 0 0] 26))
  have hb1 : Blk (((w.alloc (.cells #[.slice A ls.length c] 26)).alloc (.cells #[.slice none 0 0] 26)).alloc (.cells #[.slice none 0 0] 26)) w.heap.size #[.slice A ls.length c] 26 := ((Blk.new w #[.slice A ls.length c] 26).alloc (.cells #[.slice none 0 0] 26)).alloc (.cells #[.slice none 0 0] 26)
  have hb2 : Blk (((w.alloc (.cells #[.slice A ls.length c] 26)).alloc (.cells #[.slice none 0 0] 26)).alloc (.cells #[.slice none 0 0] 26)) (w.heap.size + 1) #[.slice none 0 0] 26 := by
    have h9 := (Blk.new (w.alloc (.cells #[.slice A ls.length c] 26)) #[.slice none 0 0] 26).alloc (.cells #[.slice none 0 0] 26)
    simpa using h9
  have hb3 : Blk (((w.alloc (.cells #[.slice A ls.length c] 26)).alloc (.cells #[.slice none 0 0] 26)).alloc (.cells #[.slice none 0 0] 26)) (w.heap.size + 2) #[.slice none 0 0] 26 := by
    have h9 := Blk.new ((w.alloc (.cells #[.slice A ls.length c] 26)).alloc (.cells #[.slice none 0 0] 26)) #[.slice none 0 0] 26
    simpa using h9
  have hC0 := hC.below hb0
  have p0 := hb1.cell 0
  have hcut0 := l04Cut_any A ls c a (((w.alloc (.cells #[.slice A ls.length c] 26)).alloc (.cells #[.slice none 0 0] 26)).alloc (.cells #[.slice none 0 0] 26)) hn9 hC0
  go_enter Tryd.func6, Tryd.ntmps6
  go_wp2_with fail
  generalize ((w.alloc (.cells #[.slice A ls.length c] 26)).alloc (.cells #[.slice none 0 0] 26)).alloc (.cells #[.slice none 0 0] 26) = W9 at *
  refine hcut0.mono ?_
  rintro e W0 ⟨rfl, hbc⟩
  rw [HOK.out]
  have BB1 := Lib.hid (hb1.below hbc)
  have BB2 := Lib.hid (hb2.below hbc)
  have BB3 := Lib.hid (hb3.below hbc)
  have HC := Lib.hid (hC0.below hbc)
  have HB0 := Lib.hid (below_then hb0 hbc)
  clear hb1 hb2 hb3 hC0 hb0 hC hbc hcut0 p0
  cases ok
  · obtain ⟨rfl, rfl⟩ := HNO.out rfl
    have g3 := BB2.out.cell 0
    have g4 := BB3.out.cell 0
    have f3 := BB2.out.frozen 0
    have f4 := BB3.out.frozen 0
    have V1 : Blk (W0.setCell ⟨w.heap.size + 1, 0, none⟩ (.slice none 0 0)) (w.heap.size + 1) #[.slice none 0 0] 26 := by simpa using BB2.out.set 0 (.slice none 0 0)
    have q4b := V1.setOther (a := ⟨w.heap.size + 1 + 1, 0, none⟩) (by show w.heap.size + 1 ≠ w.heap.size + 1 + 1; omega) (.slice none 0 0)
    have r4 := q4b.cell 0
    have B3' : Blk W0 (w.heap.size + 1 + 1) #[.slice none 0 0] 26 := BB3.out
    have q5 := B3'.setOther (a := ⟨w.heap.size + 1, 0, none⟩) (by show w.heap.size + 1 + 1 ≠ w.heap.size + 1; omega) (.slice none 0 0)
    have q5b : Blk ((W0.setCell ⟨w.heap.size + 1, 0, none⟩ (.slice none 0 0)).setCell ⟨w.heap.size + 1 + 1, 0, none⟩ (.slice none 0 0)) (w.heap.size + 1 + 1) #[.slice none 0 0] 26 := by simpa using q5.set 0 (.slice none 0 0)
    have r5 := q5b.cell 0
    have hbf := ((HB0.out).setCell (p := ⟨w.heap.size + 1, 0, none⟩) (by show w.heap.size ≤ w.heap.size + 1; omega) (.slice none 0 0)).setCell (p := ⟨w.heap.size + 1 + 1, 0, none⟩) (by show w.heap.size ≤ w.heap.size + 1 + 1; omega) (.slice none 0 0)
    have R4 := Lib.hid r4
    have R5 := Lib.hid r5
    have HBF := Lib.hid hbf
    clear V1 q4b q5 q5b B3' r4 r5 hbf
    go_wp2
    refine bodyPost_ret (v := .tuple #[.agg #[.slice none 0 0], .agg #[.slice none 0 0], .bool false]) (by
      have r4' := R4.out
      have r5' := R5.out
      simp [results, Tryd.results6, go_sem, r4', r5']) rfl ?_
    exact ⟨none, 0, none, 0, [], [], rfl, Lay.slice_nil _ _ _, Lay.slice_nil _ _ _, List.nodup_nil, List.nodup_nil, (fun k hk => nomatch hk), (fun k hk => nomatch hk), (fun k hk => nomatch hk), HBF.out⟩
  have HV1 := Lib.hid (HV1'.out rfl)
  have p0 := BB1.out.cell 0
  go_upto_region 3 with fail
  go_cut [7] (fun p wx => ∃ (b : Nat) (A1 : Option Addr) (c1 : Nat) (f1 : List Nat), p = .pointer (some ⟨b, 0, none⟩) ∧ Blk wx b #[.slice A1 SA.length c1] 26 ∧ Lay.chunks.ow wx [.slice A1 SA.length c1] SA f1 ∧ f1.Nodup ∧ (∀ k ∈ f1, W0.heap.size ≤ k) ∧ b ∉ f1 ∧ W0.heap.size ≤ b ∧ Below W0.heap.size W0 wx)
  case first =>
    have nH0 : Hid (Below W0.heap.size W0 W0.drew) := Lib.hid (Below.refl W0.heap.size W0).drew
    have nz0 : W0.drew.heap.size = W0.heap.size := World.size_drew W0
    refine wp_region_noPanic ?_
    refine wp_region_held_drew (S := (fun V => V.cell? ⟨w.heap.size, 0, none⟩ = some (.slice A ls.length c))) (by kernel_rfl) (by exact p0) (fun hHeld => ?_)
    refine wpAnyH_take (i := 0) (oi := ?_) (v := ?_) ?_ ?_ ?_ ?_ ?_ ?_ (by exact hHeld) ?_
    rotate_left 2
    · (simp only [List.getElem?_toArray, List.getElem?_cons_zero]; try rfl)
    · kernel_rfl
    · kernel_rfl
    · kernel_rfl
    · exact fun _ _ _ h => h
    · refine Or.inl ⟨by rfl, ?_⟩
      (intro V hSV; (try dsimp only at hSV); have q0 := hSV; go_simp; try with_reducible rfl)
    (try simp only [Act.put, List.setIfInBounds_toArray, List.set_cons_zero, List.set_cons_succ])
    refine wpAnyH_take (i := 1) (oi := ?_) (v := ?_) ?_ ?_ ?_ ?_ ?_ ?_ (by exact hHeld) ?_
    rotate_left 2
    · (simp only [List.getElem?_toArray, List.getElem?_cons_zero, List.getElem?_cons_succ]; try rfl)
    · kernel_rfl
    · kernel_rfl
    · kernel_rfl
    · exact fun _ _ _ h => h
    · refine Or.inl ⟨by rfl, ?_⟩
      (intro V hSV; (try dsimp only at hSV); have q0 := hSV; go_simp; try with_reducible rfl)
    (try simp only [Act.put, List.setIfInBounds_toArray, List.set_cons_zero, List.set_cons_succ])
    refine wpAnyH_take (i := 2) (oi := ?_) (v := ?_) ?_ ?_ ?_ ?_ ?_ ?_ (by exact hHeld) ?_
    rotate_left 2
    · (simp only [List.getElem?_toArray, List.getElem?_cons_zero, List.getElem?_cons_succ]; try rfl)
    · kernel_rfl
    · kernel_rfl
    · kernel_rfl
    · exact fun _ _ _ h => h
    · refine Or.inl ⟨by rfl, ?_⟩
      (intro V hSV; (try dsimp only at hSV); have q0 := hSV; go_simp; try with_reducible rfl)
    (try simp only [Act.put, List.setIfInBounds_toArray, List.set_cons_zero, List.set_cons_succ])
    refine wpAnyH_take (i := 5) (oi := ?_) (v := ?_) ?_ ?_ ?_ ?_ ?_ ?_ (by exact hHeld) ?_
    rotate_left 2
    · (simp only [List.getElem?_toArray, List.getElem?_cons_zero, List.getElem?_cons_succ]; try rfl)
    · kernel_rfl
    · kernel_rfl
    · kernel_rfl
    · exact fun _ _ _ h => h
    · refine Or.inl ⟨by rfl, ?_⟩
      (intro V hSV; (try dsimp only at hSV); have q0 := hSV; go_simp; try with_reducible rfl)
    (try simp only [Act.put, List.setIfInBounds_toArray, List.set_cons_zero, List.set_cons_succ])
    refine wpAnyH_ready (rs := [3, 11]) (by kernel_rfl) (by simp) ?_
    refine AllReadyH.cons (o := ?_) ?_ (fun K hK => ?_) ?_
    rotate_left 1
    · (simp only [List.getElem?_toArray, List.getElem?_cons_zero, List.getElem?_cons_succ]; try rfl)
    · go_simp
      refine (specRopeText_any A ls c _ hn9 (by exact HC.out.below nH0.out)).mono ?_
      rintro e ny1 ⟨v7, rfl, hown7, hb⟩
      rw [HTX.out] at hown7
      obtain ⟨A7, c7, rfl, _, _, _⟩ := hown7.form
      clear hown7
      have zY1 := nH0.out.size
      have nH1 := Lib.hid (below_then nH0.out hb)
      clear hb
      go_wp2_with fail
      refine hK.out _ _ (by exact (BB1.out.below nH1.out).cell 0) (fun hHeld => ?_)
      clear hK K
      (try simp only [Act.put, List.setIfInBounds_toArray, List.set_cons_zero, List.set_cons_succ])
      refine wpAnyH_take (i := 4) (oi := ?_) (v := ?_) ?_ ?_ ?_ ?_ ?_ ?_ (by exact hHeld) ?_
      rotate_left 2
      · (simp only [List.getElem?_toArray, List.getElem?_cons_zero, List.getElem?_cons_succ]; try rfl)
      · kernel_rfl
      · kernel_rfl
      · kernel_rfl
      · exact fun _ _ _ h => h
      · refine Or.inl ⟨by rfl, ?_⟩
        (intro V hSV; (try dsimp only at hSV); have q0 := hSV; go_simp; try with_reducible rfl)
      (try simp only [Act.put, List.setIfInBounds_toArray, List.set_cons_zero, List.set_cons_succ])
      refine wpAnyH_take (i := 6) (oi := ?_) (v := ?_) ?_ ?_ ?_ ?_ ?_ ?_ (by exact hHeld) ?_
      rotate_left 2
      · (simp only [List.getElem?_toArray, List.getElem?_cons_zero, List.getElem?_cons_succ]; try rfl)
      · kernel_rfl
      · kernel_rfl
      · kernel_rfl
      · exact fun _ _ _ h => h
      · refine Or.inl ⟨by rfl, ?_⟩
        (intro V hSV; (try dsimp only at hSV); have q0 := hSV; go_simp; try with_reducible rfl)
      (try simp only [Act.put, List.setIfInBounds_toArray, List.set_cons_zero, List.set_cons_succ])
      refine wpAnyH_ready (rs := [7, 11]) (by kernel_rfl) (by simp) ?_
      refine AllReadyH.cons (o := ?_) ?_ (fun K hK => ?_) ?_
      rotate_left 1
      · (simp only [List.getElem?_toArray, List.getElem?_cons_zero, List.getElem?_cons_succ]; try rfl)
      · go_simp
        (try (have zBX := BX.out.lt))
        have zP1 := (nH1.out).size
        refine (specRopeEdit_any A ls c a m none [] 0 _ hn9 (Nat.le_refl _) (by decide) (by exact HC.out.below nH1.out) (fun k hk => absurd hk (Nat.not_lt_zero _))).mono ?_
        rintro e ny2 ⟨v1, f1, rfl, how1, hnd1, hfp1, hb⟩
        rw [HV1.out] at how1
        obtain ⟨A1, c1, rfl, _, _, _⟩ := Lay.chunks_rd (Lay.chunks.read how1)
        have HOW1 := Lib.hid how1
        have HND1 := Lib.hid hnd1
        have HFP1 := Lib.hid hfp1
        clear how1 hnd1 hfp1
        have zY2 := nH1.out.size
        have nH2 := Lib.hid (below_then nH1.out hb)
        clear hb
        go_wp2_with fail
        refine hK.out _ _ (by exact (BB1.out.below nH2.out).cell 0) (fun hHeld => ?_)
        clear hK K
        (try simp only [Act.put, List.setIfInBounds_toArray, List.set_cons_zero, List.set_cons_succ])
        refine wpAnyH_take (i := 8) (oi := ?_) (v := ?_) ?_ ?_ ?_ ?_ ?_ ?_ (by exact hHeld) ?_
        rotate_left 2
        · (simp only [List.getElem?_toArray, List.getElem?_cons_zero, List.getElem?_cons_succ]; try rfl)
        · kernel_rfl
        · kernel_rfl
        · kernel_rfl
        · exact fun _ _ _ h => h
        · refine Or.inl ⟨by rfl, ?_⟩
          (intro V hSV; (try dsimp only at hSV); have q0 := hSV; go_simp; try with_reducible rfl)
        (try simp only [Act.put, List.setIfInBounds_toArray, List.set_cons_zero, List.set_cons_succ])
        refine wpAnyH_take (i := 9) (oi := ?_) (v := ?_) ?_ ?_ ?_ ?_ ?_ ?_ (by exact hHeld) ?_
        rotate_left 2
        · (simp only [List.getElem?_toArray, List.getElem?_cons_zero, List.getElem?_cons_succ]; try rfl)
        · kernel_rfl
        · kernel_rfl
        · kernel_rfl
        · exact fun _ _ _ h => h
        · refine Or.inl ⟨by rfl, ?_⟩
          (intro V hSV; (try dsimp only at hSV); have q0 := hSV; go_simp; try with_reducible rfl)
        (try simp only [Act.put, List.setIfInBounds_toArray, List.set_cons_zero, List.set_cons_succ])
        refine wpAnyH_take (i := 10) (oi := ?_) (v := ?_) ?_ ?_ ?_ ?_ ?_ ?_ (by exact hHeld) ?_
        rotate_left 2
        · (simp only [List.getElem?_toArray, List.getElem?_cons_zero, List.getElem?_cons_succ]; try rfl)
        · kernel_rfl
        · kernel_rfl
        · kernel_rfl
        · exact fun _ _ _ h => h
        · refine Or.inl ⟨by rfl, ?_⟩
          (intro V hSV; (try dsimp only at hSV); have q0 := hSV; go_simp; try with_reducible rfl)
        (try simp only [Act.put, List.setIfInBounds_toArray, List.set_cons_zero, List.set_cons_succ])
        refine wpAnyH_ready (rs := [11]) (by kernel_rfl) (by simp) ?_
        refine AllReadyH.cons (o := ?_) ?_ (fun K hK => ?_) AllReadyH.nil
        rotate_left 1
        · (simp only [List.getElem?_toArray, List.getElem?_cons_zero, List.getElem?_cons_succ]; try rfl)
        have zA := nH2.out.size
        have nH3 := Lib.hid (nH2.out.alloc nH2.out.size (.cells #[.slice none 0 0] 26))
        go_simp
        refine hK.out _ _ (by exact (BB1.out.below nH3.out).cell 0) (fun hHeld => ?_)
        clear hK K
        (try simp only [Act.put, List.setIfInBounds_toArray, List.set_cons_zero, List.set_cons_succ])
        refine wpAnyH_ready (rs := [12]) (by kernel_rfl) (by simp) ?_
        refine AllReadyH.cons (o := ?_) ?_ (fun K hK => ?_) AllReadyH.nil
        rotate_left 1
        · (simp only [List.getElem?_toArray, List.getElem?_cons_zero, List.getElem?_cons_succ]; try rfl)
        have HF := Lib.hid (nH2.out.alloc nH2.out.size (.cells #[.slice A1 SA.length c1] 26))
        go_simp
        refine hK.out _ _ (by exact (BB1.out.below HF.out).cell 0) (fun hHeld => ?_)
        clear hK K
        (try simp only [Act.put, List.setIfInBounds_toArray, List.set_cons_zero, List.set_cons_succ])
        refine wpAnyH_take (i := 13) (oi := ?_) (v := ?_) ?_ ?_ ?_ ?_ ?_ ?_ (by exact hHeld) ?_
        rotate_left 2
        · (simp only [List.getElem?_toArray, List.getElem?_cons_zero, List.getElem?_cons_succ]; try rfl)
        · kernel_rfl
        · kernel_rfl
        · kernel_rfl
        · exact fun _ _ _ h => h
        · refine Or.inl ⟨by rfl, ?_⟩
          (intro V hSV; (try dsimp only at hSV); have q0 := hSV; go_simp; try with_reducible rfl)
        (try simp only [Act.put, List.setIfInBounds_toArray, List.set_cons_zero, List.set_cons_succ])
        refine wpAnyH_done (by kernel_rfl) ?_ _
        refine NoPanic.normal ?_
        go_wp2_with fail
        go_meet
        have BF := Lib.hid (Blk.new ny2 #[.slice A1 SA.length c1] 26)
        have zF := nH2.out.size
        exact ⟨ny2.heap.size, A1, c1, f1, rfl, BF.out, Lay.chunks.owBelow HOW1.out ((Below.refl _ _).alloc (Nat.le_refl _) _), HND1.out, (fun k hk => by have h1 := HFP1.out k hk; omega), (fun hm => by have h1 := Lay.chunks.lt HOW1.out _ hm; omega), by omega, HF.out⟩
      refine AllReadyH.cons (o := ?_) ?_ (fun K hK => ?_) AllReadyH.nil
      rotate_left 1
      · (simp only [List.getElem?_toArray, List.getElem?_cons_zero, List.getElem?_cons_succ]; try rfl)
      have zA := nH1.out.size
      have nH2 := Lib.hid (nH1.out.alloc nH1.out.size (.cells #[.slice none 0 0] 26))
      have BX := Lib.hid (Blk.new (ny1) #[.slice none 0 0] 26)
      go_simp
      refine hK.out _ _ (by exact (BB1.out.below nH2.out).cell 0) (fun hHeld => ?_)
      clear hK K
      (try simp only [Act.put, List.setIfInBounds_toArray, List.set_cons_zero, List.set_cons_succ])
      refine wpAnyH_ready (rs := [7]) (by kernel_rfl) (by simp) ?_
      refine AllReadyH.cons (o := ?_) ?_ (fun K hK => ?_) AllReadyH.nil
      rotate_left 1
      · (simp only [List.getElem?_toArray, List.getElem?_cons_zero, List.getElem?_cons_succ]; try rfl)
      go_simp
      (try (have zBX := BX.out.lt))
      have zP1 := (nH2.out).size
      refine (specRopeEdit_any A ls c a m none [] 0 _ hn9 (Nat.le_refl _) (by decide) (by exact HC.out.below nH2.out) (fun k hk => absurd hk (Nat.not_lt_zero _))).mono ?_
      rintro e ny2 ⟨v1, f1, rfl, how1, hnd1, hfp1, hb⟩
      rw [HV1.out] at how1
      obtain ⟨A1, c1, rfl, _, _, _⟩ := Lay.chunks_rd (Lay.chunks.read how1)
      have HOW1 := Lib.hid how1
      have HND1 := Lib.hid hnd1
      have HFP1 := Lib.hid hfp1
      clear how1 hnd1 hfp1
      have zY3 := nH2.out.size
      have nH3 := Lib.hid (below_then nH2.out hb)
      have BX := Lib.hid (BX.out.below hb)
      clear hb
      go_wp2_with fail
      refine hK.out _ _ (by exact (BB1.out.below nH3.out).cell 0) (fun hHeld => ?_)
      clear hK K
      (try simp only [Act.put, List.setIfInBounds_toArray, List.set_cons_zero, List.set_cons_succ])
      refine wpAnyH_take (i := 8) (oi := ?_) (v := ?_) ?_ ?_ ?_ ?_ ?_ ?_ (by exact hHeld) ?_
      rotate_left 2
      · (simp only [List.getElem?_toArray, List.getElem?_cons_zero, List.getElem?_cons_succ]; try rfl)
      · kernel_rfl
      · kernel_rfl
      · kernel_rfl
      · exact fun _ _ _ h => h
      · refine Or.inl ⟨by rfl, ?_⟩
        (intro V hSV; (try dsimp only at hSV); have q0 := hSV; go_simp; try with_reducible rfl)
      (try simp only [Act.put, List.setIfInBounds_toArray, List.set_cons_zero, List.set_cons_succ])
      refine wpAnyH_take (i := 9) (oi := ?_) (v := ?_) ?_ ?_ ?_ ?_ ?_ ?_ (by exact hHeld) ?_
      rotate_left 2
      · (simp only [List.getElem?_toArray, List.getElem?_cons_zero, List.getElem?_cons_succ]; try rfl)
      · kernel_rfl
      · kernel_rfl
      · kernel_rfl
      · exact fun _ _ _ h => h
      · refine Or.inl ⟨by rfl, ?_⟩
        (intro V hSV; (try dsimp only at hSV); have q0 := hSV; go_simp; try with_reducible rfl)
      (try simp only [Act.put, List.setIfInBounds_toArray, List.set_cons_zero, List.set_cons_succ])
      refine wpAnyH_take (i := 10) (oi := ?_) (v := ?_) ?_ ?_ ?_ ?_ ?_ ?_ (by exact hHeld) ?_
      rotate_left 2
      · (simp only [List.getElem?_toArray, List.getElem?_cons_zero, List.getElem?_cons_succ]; try rfl)
      · kernel_rfl
      · kernel_rfl
      · kernel_rfl
      · exact fun _ _ _ h => h
      · refine Or.inl ⟨by rfl, ?_⟩
        (intro V hSV; (try dsimp only at hSV); have q0 := hSV; go_simp; try with_reducible rfl)
      (try simp only [Act.put, List.setIfInBounds_toArray, List.set_cons_zero, List.set_cons_succ])
      have zB := BX.out.lt
      have nb0 := BB1.out.lt
      have g0 := BX.out.cell 0
      have f0 := BX.out.frozen 0
      have zz9 : W0.heap.size ≤ ny1.heap.size := by first | exact Nat.le_refl _ | omega
      have BF : Hid (Blk ((ny2.setCell ⟨ny1.heap.size, 0, none⟩ (.slice A1 SA.length c1))) ny1.heap.size #[.slice A1 SA.length c1] 26) := Lib.hid (by simpa using (BX.out.set 0 (.slice A1 SA.length c1)))
      have HF : Hid (Below W0.heap.size W0 ((ny2.setCell ⟨ny1.heap.size, 0, none⟩ (.slice A1 SA.length c1)))) := Lib.hid (nH3.out.setCell (p := ⟨ny1.heap.size, 0, none⟩) (by omega) (.slice A1 SA.length c1))
      refine wpAnyH_ready (rs := [12]) (by kernel_rfl) (by simp) ?_
      refine AllReadyH.cons (o := ?_) ?_ (fun K hK => ?_) AllReadyH.nil
      rotate_left 1
      · (simp only [List.getElem?_toArray, List.getElem?_cons_zero, List.getElem?_cons_succ]; try rfl)
      go_simp
      refine hK.out _ _ (by exact (BB1.out.below HF.out).cell 0) (fun hHeld => ?_)
      clear hK K
      (try simp only [Act.put, List.setIfInBounds_toArray, List.set_cons_zero, List.set_cons_succ])
      refine wpAnyH_take (i := 13) (oi := ?_) (v := ?_) ?_ ?_ ?_ ?_ ?_ ?_ (by exact hHeld) ?_
      rotate_left 2
      · (simp only [List.getElem?_toArray, List.getElem?_cons_zero, List.getElem?_cons_succ]; try rfl)
      · kernel_rfl
      · kernel_rfl
      · kernel_rfl
      · exact fun _ _ _ h => h
      · refine Or.inl ⟨by rfl, ?_⟩
        (intro V hSV; (try dsimp only at hSV); have q0 := hSV; go_simp; try with_reducible rfl)
      (try simp only [Act.put, List.setIfInBounds_toArray, List.set_cons_zero, List.set_cons_succ])
      refine wpAnyH_done (by kernel_rfl) ?_ _
      refine NoPanic.normal ?_
      go_wp2_with fail
      go_meet
      exact ⟨ny1.heap.size, A1, c1, f1, rfl, BF.out, Lay.chunks_setBelow HOW1.out (a := ⟨ny1.heap.size, 0, none⟩) (fun hm => by have h1 := HFP1.out _ hm; simp only at h1; omega) _, HND1.out, (fun k hk => by have h1 := HFP1.out k hk; omega), (fun hm => by have h1 := HFP1.out _ hm; omega), by omega, HF.out⟩
    refine AllReadyH.cons (o := ?_) ?_ (fun K hK => ?_) AllReadyH.nil
    rotate_left 1
    · (simp only [List.getElem?_toArray, List.getElem?_cons_zero, List.getElem?_cons_succ]; try rfl)
    have zA := nH0.out.size
    have nH1 := Lib.hid (nH0.out.alloc nH0.out.size (.cells #[.slice none 0 0] 26))
    have BX := Lib.hid (Blk.new (W0.drew) #[.slice none 0 0] 26)
    have BX := Lib.hid (show Blk (W0.drew.alloc (.cells #[.slice none 0 0] 26)) W0.heap.size #[.slice none 0 0] 26 from by have h9 := BX.out; rw [World.size_drew] at h9; exact h9)
    go_simp
    refine hK.out _ _ (by exact (BB1.out.below nH1.out).cell 0) (fun hHeld => ?_)
    clear hK K
    (try simp only [Act.put, List.setIfInBounds_toArray, List.set_cons_zero, List.set_cons_succ])
    refine wpAnyH_ready (rs := [3]) (by kernel_rfl) (by simp) ?_
    refine AllReadyH.cons (o := ?_) ?_ (fun K hK => ?_) AllReadyH.nil
    rotate_left 1
    · (simp only [List.getElem?_toArray, List.getElem?_cons_zero, List.getElem?_cons_succ]; try rfl)
    go_simp
    refine (specRopeText_any A ls c _ hn9 (by exact HC.out.below nH1.out)).mono ?_
    rintro e ny1 ⟨v7, rfl, hown7, hb⟩
    rw [HTX.out] at hown7
    obtain ⟨A7, c7, rfl, _, _, _⟩ := hown7.form
    clear hown7
    have zY2 := nH1.out.size
    have nH2 := Lib.hid (below_then nH1.out hb)
    have BX := Lib.hid (BX.out.below hb)
    clear hb
    go_wp2_with fail
    refine hK.out _ _ (by exact (BB1.out.below nH2.out).cell 0) (fun hHeld => ?_)
    clear hK K
    (try simp only [Act.put, List.setIfInBounds_toArray, List.set_cons_zero, List.set_cons_succ])
    refine wpAnyH_take (i := 4) (oi := ?_) (v := ?_) ?_ ?_ ?_ ?_ ?_ ?_ (by exact hHeld) ?_
    rotate_left 2
    · (simp only [List.getElem?_toArray, List.getElem?_cons_zero, List.getElem?_cons_succ]; try rfl)
    · kernel_rfl
    · kernel_rfl
    · kernel_rfl
    · exact fun _ _ _ h => h
    · refine Or.inl ⟨by rfl, ?_⟩
      (intro V hSV; (try dsimp only at hSV); have q0 := hSV; go_simp; try with_reducible rfl)
    (try simp only [Act.put, List.setIfInBounds_toArray, List.set_cons_zero, List.set_cons_succ])
    refine wpAnyH_take (i := 6) (oi := ?_) (v := ?_) ?_ ?_ ?_ ?_ ?_ ?_ (by exact hHeld) ?_
    rotate_left 2
    · (simp only [List.getElem?_toArray, List.getElem?_cons_zero, List.getElem?_cons_succ]; try rfl)
    · kernel_rfl
    · kernel_rfl
    · kernel_rfl
    · exact fun _ _ _ h => h
    · refine Or.inl ⟨by rfl, ?_⟩
      (intro V hSV; (try dsimp only at hSV); have q0 := hSV; go_simp; try with_reducible rfl)
    (try simp only [Act.put, List.setIfInBounds_toArray, List.set_cons_zero, List.set_cons_succ])
    refine wpAnyH_ready (rs := [7]) (by kernel_rfl) (by simp) ?_
    refine AllReadyH.cons (o := ?_) ?_ (fun K hK => ?_) AllReadyH.nil
    rotate_left 1
    · (simp only [List.getElem?_toArray, List.getElem?_cons_zero, List.getElem?_cons_succ]; try rfl)
    go_simp
    (try (have zBX := BX.out.lt))
    have zP1 := (nH2.out).size
    refine (specRopeEdit_any A ls c a m none [] 0 _ hn9 (Nat.le_refl _) (by decide) (by exact HC.out.below nH2.out) (fun k hk => absurd hk (Nat.not_lt_zero _))).mono ?_
    rintro e ny2 ⟨v1, f1, rfl, how1, hnd1, hfp1, hb⟩
    rw [HV1.out] at how1
    obtain ⟨A1, c1, rfl, _, _, _⟩ := Lay.chunks_rd (Lay.chunks.read how1)
    have HOW1 := Lib.hid how1
    have HND1 := Lib.hid hnd1
    have HFP1 := Lib.hid hfp1
    clear how1 hnd1 hfp1
    have zY3 := nH2.out.size
    have nH3 := Lib.hid (below_then nH2.out hb)
    have BX := Lib.hid (BX.out.below hb)
    clear hb
    go_wp2_with fail
    refine hK.out _ _ (by exact (BB1.out.below nH3.out).cell 0) (fun hHeld => ?_)
    clear hK K
    (try simp only [Act.put, List.setIfInBounds_toArray, List.set_cons_zero, List.set_cons_succ])
    refine wpAnyH_take (i := 8) (oi := ?_) (v := ?_) ?_ ?_ ?_ ?_ ?_ ?_ (by exact hHeld) ?_
    rotate_left 2
    · (simp only [List.getElem?_toArray, List.getElem?_cons_zero, List.getElem?_cons_succ]; try rfl)
    · kernel_rfl
    · kernel_rfl
    · kernel_rfl
    · exact fun _ _ _ h => h
    · refine Or.inl ⟨by rfl, ?_⟩
      (intro V hSV; (try dsimp only at hSV); have q0 := hSV; go_simp; try with_reducible rfl)
    (try simp only [Act.put, List.setIfInBounds_toArray, List.set_cons_zero, List.set_cons_succ])
    refine wpAnyH_take (i := 9) (oi := ?_) (v := ?_) ?_ ?_ ?_ ?_ ?_ ?_ (by exact hHeld) ?_
    rotate_left 2
    · (simp only [List.getElem?_toArray, List.getElem?_cons_zero, List.getElem?_cons_succ]; try rfl)
    · kernel_rfl
    · kernel_rfl
    · kernel_rfl
    · exact fun _ _ _ h => h
    · refine Or.inl ⟨by rfl, ?_⟩
      (intro V hSV; (try dsimp only at hSV); have q0 := hSV; go_simp; try with_reducible rfl)
    (try simp only [Act.put, List.setIfInBounds_toArray, List.set_cons_zero, List.set_cons_succ])
    refine wpAnyH_take (i := 10) (oi := ?_) (v := ?_) ?_ ?_ ?_ ?_ ?_ ?_ (by exact hHeld) ?_
    rotate_left 2
    · (simp only [List.getElem?_toArray, List.getElem?_cons_zero, List.getElem?_cons_succ]; try rfl)
    · kernel_rfl
    · kernel_rfl
    · kernel_rfl
    · exact fun _ _ _ h => h
    · refine Or.inl ⟨by rfl, ?_⟩
      (intro V hSV; (try dsimp only at hSV); have q0 := hSV; go_simp; try with_reducible rfl)
    (try simp only [Act.put, List.setIfInBounds_toArray, List.set_cons_zero, List.set_cons_succ])
    have zB := BX.out.lt
    have nb0 := BB1.out.lt
    have g0 := BX.out.cell 0
    have f0 := BX.out.frozen 0
    have zz9 : W0.heap.size ≤ W0.heap.size := by first | exact Nat.le_refl _ | omega
    have BF : Hid (Blk ((ny2.setCell ⟨W0.heap.size, 0, none⟩ (.slice A1 SA.length c1))) W0.heap.size #[.slice A1 SA.length c1] 26) := Lib.hid (by simpa using (BX.out.set 0 (.slice A1 SA.length c1)))
    have HF : Hid (Below W0.heap.size W0 ((ny2.setCell ⟨W0.heap.size, 0, none⟩ (.slice A1 SA.length c1)))) := Lib.hid (nH3.out.setCell (p := ⟨W0.heap.size, 0, none⟩) (by omega) (.slice A1 SA.length c1))
    refine wpAnyH_ready (rs := [12]) (by kernel_rfl) (by simp) ?_
    refine AllReadyH.cons (o := ?_) ?_ (fun K hK => ?_) AllReadyH.nil
    rotate_left 1
    · (simp only [List.getElem?_toArray, List.getElem?_cons_zero, List.getElem?_cons_succ]; try rfl)
    go_simp
    refine hK.out _ _ (by exact (BB1.out.below HF.out).cell 0) (fun hHeld => ?_)
    clear hK K
    (try simp only [Act.put, List.setIfInBounds_toArray, List.set_cons_zero, List.set_cons_succ])
    refine wpAnyH_take (i := 13) (oi := ?_) (v := ?_) ?_ ?_ ?_ ?_ ?_ ?_ (by exact hHeld) ?_
    rotate_left 2
    · (simp only [List.getElem?_toArray, List.getElem?_cons_zero, List.getElem?_cons_succ]; try rfl)
    · kernel_rfl
    · kernel_rfl
    · kernel_rfl
    · exact fun _ _ _ h => h
    · refine Or.inl ⟨by rfl, ?_⟩
      (intro V hSV; (try dsimp only at hSV); have q0 := hSV; go_simp; try with_reducible rfl)
    (try simp only [Act.put, List.setIfInBounds_toArray, List.set_cons_zero, List.set_cons_succ])
    refine wpAnyH_done (by kernel_rfl) ?_ _
    refine NoPanic.normal ?_
    go_wp2_with fail
    go_meet
    exact ⟨W0.heap.size, A1, c1, f1, rfl, BF.out, Lay.chunks_setBelow HOW1.out (a := ⟨W0.heap.size, 0, none⟩) (fun hm => by have h1 := HFP1.out _ hm; simp only at h1; omega) _, HND1.out, (fun k hk => by have h1 := HFP1.out k hk; omega), (fun hm => by have h1 := HFP1.out _ hm; omega), by omega, HF.out⟩
  case rest =>
    obtain ⟨ob, A1, c1, f1, rfl, hOB, hO1, hn1, hf1, hob, zob, hb⟩ := hcut
    have OB1 := Lib.hid hOB
    have HO1 := Lib.hid hO1
    have HN1 := Lib.hid hn1
    have HF1 := Lib.hid hf1
    have HOB1 := Lib.hid hob
    have HB1 := Lib.hid hb
    have B1 := Lib.hid (BB1.out.below hb)
    have B2 := Lib.hid (BB2.out.below hb)
    have B3 := Lib.hid (BB3.out.below hb)
    have zc := hb.size
    have HL9 := Lib.hid (Lay.chunks.lt hO1)
    clear hOB hO1 hn1 hf1 hob hb p0
    have p0 := B1.out.cell 0
    go_wp2_with fail
    (try (have zBX := BX.out.lt))
    have zP2 := (HB1.out).size
    refine (specRopeEdit_any A ls c 0 a none [] 0 _ hn9 (Nat.le_refl _) (by decide) (by exact HC.out.below HB1.out) (fun k hk => absurd hk (Nat.not_lt_zero _))).mono ?_
    rintro e y2 ⟨v2, f2, rfl, how2, hnd2, hfp2, hb⟩
    rw [HV2.out] at how2
    obtain ⟨A2, c2, rfl, _, _, _⟩ := Lay.chunks_rd (Lay.chunks.read how2)
    have HOW2 := Lib.hid how2
    have HND2 := Lib.hid hnd2
    have HFP2 := Lib.hid hfp2
    clear how2 hnd2 hfp2
    have zy2 := hb.size
    have hal := (Below.refl y2.heap.size y2).alloc (Nat.le_refl _) (.cells #[.slice A2 SB.length c2] 26)
    have hb5 := below_then hb hal
    have OB1 := Lib.hid (OB1.out.below hb5)
    have HO1 := Lib.hid (Lay.chunks.owBelow HO1.out hb5)
    have B2 := Lib.hid (B2.out.below hb5)
    have B3 := Lib.hid (B3.out.below hb5)
    have HB2 := Lib.hid (below_then HB1.out hb5)
    have OB2 := Lib.hid (Blk.new y2 #[.slice A2 SB.length c2] 26)
    have HO2 := Lib.hid (Lay.chunks.owBelow HOW2.out hal)
    have hL1 := Lib.hid (fun k hk => (Lay.chunks.lt HO1.out k hk))
    have g1 := OB1.out.cell 0
    have g2 := OB2.out.cell 0
    have g3 := B2.out.cell 0
    have g4 := B3.out.cell 0
    have z3 := B3.out.lt
    have z2 := B2.out.lt
    have f3 := B2.out.frozen 0
    have f4 := B3.out.frozen 0
    have hzz : w.heap.size + 2 < W0.heap.size := BB3.out.lt
    clear hb hb5 hal p0
    go_wp2_with fail
    generalize y2.alloc (.cells #[.slice A2 SB.length c2] 26) = Y at *
    go_region
    all_goals go_wp2
    have q4 : Blk (Y.setCell ⟨w.heap.size + 1, 0, none⟩ (.slice A1 SA.length c1)) (w.heap.size + 1) #[.slice A1 SA.length c1] 26 := by simpa using B2.out.set 0 (.slice A1 SA.length c1)
    have q4b := q4.setOther (a := ⟨w.heap.size + 1 + 1, 0, none⟩) (by show w.heap.size + 1 ≠ w.heap.size + 1 + 1; omega) (.slice A2 SB.length c2)
    have r4 : ((Y.setCell ⟨w.heap.size + 1, 0, none⟩ (.slice A1 SA.length c1)).setCell ⟨w.heap.size + 1 + 1, 0, none⟩ (.slice A2 SB.length c2)).cell? ⟨w.heap.size + 1, 0, none⟩ = some (.slice A1 SA.length c1) := q4b.cell 0
    have B3' : Blk Y (w.heap.size + 1 + 1) #[.slice none 0 0] 26 := B3.out
    have q5 := B3'.setOther (a := ⟨w.heap.size + 1, 0, none⟩) (by show w.heap.size + 1 + 1 ≠ w.heap.size + 1; omega) (.slice A1 SA.length c1)
    have q5b : Blk ((Y.setCell ⟨w.heap.size + 1, 0, none⟩ (.slice A1 SA.length c1)).setCell ⟨w.heap.size + 1 + 1, 0, none⟩ (.slice A2 SB.length c2)) (w.heap.size + 1 + 1) #[.slice A2 SB.length c2] 26 := by simpa using q5.set 0 (.slice A2 SB.length c2)
    have r5 : ((Y.setCell ⟨w.heap.size + 1, 0, none⟩ (.slice A1 SA.length c1)).setCell ⟨w.heap.size + 1 + 1, 0, none⟩ (.slice A2 SB.length c2)).cell? ⟨w.heap.size + 1 + 1, 0, none⟩ = some (.slice A2 SB.length c2) := q5b.cell 0
    have n1 : ∀ k ∈ f1, W0.heap.size ≤ k := HF1.out
    have n2 : ∀ k ∈ f2, wc.heap.size ≤ k := HFP2.out
    have o1 := Lay.chunks_setBelow (Lay.chunks_setBelow HO1.out (a := ⟨w.heap.size + 1, 0, none⟩) (fun hm => by have h9 := n1 _ hm; simp only at h9; omega) (.slice A1 SA.length c1)) (a := ⟨w.heap.size + 1 + 1, 0, none⟩) (fun hm => by have h9 := n1 _ hm; simp only at h9; omega) (.slice A2 SB.length c2)
    have o2 := Lay.chunks_setBelow (Lay.chunks_setBelow HO2.out (a := ⟨w.heap.size + 1, 0, none⟩) (fun hm => by have h9 := n2 _ hm; simp only at h9; omega) (.slice A1 SA.length c1)) (a := ⟨w.heap.size + 1 + 1, 0, none⟩) (fun hm => by have h9 := n2 _ hm; simp only at h9; omega) (.slice A2 SB.length c2)
    have hbf := ((below_then HB0.out HB2.out).setCell (p := ⟨w.heap.size + 1, 0, none⟩) (by show w.heap.size ≤ w.heap.size + 1; omega) (.slice A1 SA.length c1)).setCell (p := ⟨w.heap.size + 1 + 1, 0, none⟩) (by show w.heap.size ≤ w.heap.size + 1 + 1; omega) (.slice A2 SB.length c2)
    have HE9 := (rfl : true = true)
    refine bodyPost_ret (v := .tuple #[.agg #[.slice A1 SA.length c1], .agg #[.slice A2 SB.length c2], .bool true]) (by
      have r4' : (((Y.setCell ⟨w.heap.size + 1, 0, none⟩ (.slice A1 SA.length c1)).setCell ⟨w.heap.size + 1 + 1, 0, none⟩ (.slice A2 SB.length c2)).drew).cell? ⟨w.heap.size + 1, 0, none⟩ = some (.slice A1 SA.length c1) := r4
      have r5' : (((Y.setCell ⟨w.heap.size + 1, 0, none⟩ (.slice A1 SA.length c1)).setCell ⟨w.heap.size + 1 + 1, 0, none⟩ (.slice A2 SB.length c2)).drew).cell? ⟨w.heap.size + 1 + 1, 0, none⟩ = some (.slice A2 SB.length c2) := r5
      clear r4 r5 q4 q4b q5 q5b B3' o1 o2 hbf
      simp [results, Tryd.results6, go_sem, r4', r5', HE9]) rfl ?_
    exact ⟨A1, c1, A2, c2, f1, f2, rfl, o1, o2, HN1.out, HND2.out, fun k hk => by have h9 := n1 k hk; omega, fun k hk => by have h9 := n2 k hk; omega, fun k hk hk2 => by have h9 := HL9.out k hk; have h8 := n2 k hk2; omega, ⟨hbf.os, hbf.tape, hbf.output, hbf.size, hbf.block⟩⟩
end Go.Proofs.YthnahenpnafkmaaDoor

/-
  Chapter 2, MeasAdd of the program: contract (beside the texts' functions). Own work.
-/
namespace Go.Proofs.YthnahenpnafkmaaDoor
open Go.RowKit P
set_option linter.unusedVariables false

def mAdd (a b c x y z : Int) (k : Int) : Int := if mFits a b c = true ∧ mFits x y z = true then k else 0

theorem mFits_iff (a b c : Int) : mFits a b c = true ↔ 0 ≤ a ∧ a ≤ 400 ∧ 0 ≤ b ∧ b ≤ 400 ∧ 0 ≤ c ∧ c ≤ 400 := by
  unfold mFits; simp [and_assoc]

set_option maxHeartbeats 2000000 in
theorem implMeasAdd_any (a b c x y z : Int) (w : World) : Calls Tryd.prog 11 #[meas a b c, meas x y z] w fun e w' => e = .returned (meas (mAdd a b c x y z (a + x)) (mAdd a b c x y z (b + y)) (mAdd a b c x y z (c + z))) ∧ Below w.heap.size w w' := by
  have hsum := fun b' w' => measSum_any b' a b c x y z 2 w'
  have hf1 := fun w' => measFits_any a b c w'
  have hf2 := fun w' => measFits_any x y z w'
  have i1 := mFits_iff a b c
  have i2 := mFits_iff x y z
  have hal := ((((Below.refl w.heap.size w).alloc (Nat.le_refl _) (.cells #[.int .i64 a, .int .i64 b, .int .i64 c] 35)).alloc (by simp) (.cells #[.int .i64 x, .int .i64 y, .int .i64 z] 35)).alloc (by simp; omega) (.cells #[.int .i64 0, .int .i64 0, .int .i64 0] 35))
  have hB2 := (Blk.new w #[.int .i64 a, .int .i64 b, .int .i64 c] 35)
  have hB2' := (hB2.alloc (.cells #[.int .i64 x, .int .i64 y, .int .i64 z] 35)).alloc (.cells #[.int .i64 0, .int .i64 0, .int .i64 0] 35)
  have hB3 := (Blk.new (w.alloc (.cells #[.int .i64 a, .int .i64 b, .int .i64 c] 35)) #[.int .i64 x, .int .i64 y, .int .i64 z] 35).alloc (.cells #[.int .i64 0, .int .i64 0, .int .i64 0] 35)
  have hB4 := (Blk.new ((w.alloc (.cells #[.int .i64 a, .int .i64 b, .int .i64 c] 35)).alloc (.cells #[.int .i64 x, .int .i64 y, .int .i64 z] 35)) #[.int .i64 0, .int .i64 0, .int .i64 0] 35)
  unfold meas at hsum hf1 hf2 ⊢
  generalize hq1 : mFits a b c = q1 at *
  generalize hq2 : mFits x y z = q2 at *
  have hz : ∀ k, mAdd a b c x y z k = if q1 = true ∧ q2 = true then k else 0 := fun k => by unfold mAdd; rw [hq1, hq2]
  have HZ := Lib.hid hz
  have HS := Lib.hid hsum
  have HF1 := Lib.hid hf1
  have HF2 := Lib.hid hf2
  clear hq1 hq2 hz hsum hf1 hf2 hB2
  cases q1
  · clear i1 i2 HF2 HS
    go_enter Tryd.func11, Tryd.ntmps11
    go_wp2_with fail
    refine (HF1.out _).mono ?_
    rintro e w1 ⟨rfl, hb1⟩
    have hr := hB4.below hb1
    rw [show ((w.alloc (.cells #[.int .i64 a, .int .i64 b, .int .i64 c] 35)).alloc (.cells #[.int .i64 x, .int .i64 y, .int .i64 z] 35)).heap.size = w.heap.size + 1 + 1 by simp] at hr
    have d0 : w1.cell? ⟨w.heap.size + 1 + 1, 0, none⟩ = some (.int .i64 0) := hr.cell 0
    have d1 : w1.cell? ⟨w.heap.size + 1 + 1, 1, none⟩ = some (.int .i64 0) := hr.cell 1
    have d2 : w1.cell? ⟨w.heap.size + 1 + 1, 2, none⟩ = some (.int .i64 0) := hr.cell 2
    have f0 := hr.frozen 0
    have f1 := hr.frozen 1
    have f2 := hr.frozen 2
    have hb2 := hal.trans (hb1.mono (by simp; omega))
    go_wp2
    refine bodyPost_ret (v := .agg #[.int .i64 0, .int .i64 0, .int .i64 0]) (by simp [results, Tryd.results11, go_sem, d0, d1, d2]) rfl ⟨by simp [HZ.out], ?_⟩
    (repeat (first | exact Below.refl _ _ | assumption | refine Below.setCell ?_ (by first | (simp; done) | (simp; omega) | omega) _ | refine Below.drew ?_ | refine below_drewN ?_ _ | refine Below.alloc ?_ (by first | (simp; done) | (simp; omega) | omega) _))
  · cases q2
    · clear i1 i2 HS
      go_enter Tryd.func11, Tryd.ntmps11
      go_wp2_with fail
      refine (HF1.out _).mono ?_
      rintro e w1 ⟨rfl, hb1⟩
      have hr := hB4.below hb1
      have hx := hB3.below hb1
      rw [show ((w.alloc (.cells #[.int .i64 a, .int .i64 b, .int .i64 c] 35)).alloc (.cells #[.int .i64 x, .int .i64 y, .int .i64 z] 35)).heap.size = w.heap.size + 1 + 1 by simp] at hr
      rw [show (w.alloc (.cells #[.int .i64 a, .int .i64 b, .int .i64 c] 35)).heap.size = w.heap.size + 1 by simp] at hx
      have x0 : w1.cell? ⟨w.heap.size + 1, 0, none⟩ = some (.int .i64 x) := hx.cell 0
      have x1 : w1.cell? ⟨w.heap.size + 1, 1, none⟩ = some (.int .i64 y) := hx.cell 1
      have x2 : w1.cell? ⟨w.heap.size + 1, 2, none⟩ = some (.int .i64 z) := hx.cell 2
      have hb2 := hal.trans (hb1.mono (by simp; omega))
      go_wp2_with fail
      refine (HF2.out _).mono ?_
      rintro e w2 ⟨rfl, hb3⟩
      have hr := hr.below hb3
      have d0 : w2.cell? ⟨w.heap.size + 1 + 1, 0, none⟩ = some (.int .i64 0) := hr.cell 0
      have d1 : w2.cell? ⟨w.heap.size + 1 + 1, 1, none⟩ = some (.int .i64 0) := hr.cell 1
      have d2 : w2.cell? ⟨w.heap.size + 1 + 1, 2, none⟩ = some (.int .i64 0) := hr.cell 2
      have f0 := hr.frozen 0
      have f1 := hr.frozen 1
      have f2 := hr.frozen 2
      have hb4 := below_then hb2 hb3
      go_wp2
      refine bodyPost_ret (v := .agg #[.int .i64 0, .int .i64 0, .int .i64 0]) (by simp [results, Tryd.results11, go_sem, d0, d1, d2]) rfl ⟨by simp [HZ.out], ?_⟩
      (repeat (first | exact Below.refl _ _ | assumption | refine Below.setCell ?_ (by first | (simp; done) | (simp; omega) | omega) _ | refine Below.drew ?_ | refine below_drewN ?_ _ | refine Below.alloc ?_ (by first | (simp; done) | (simp; omega) | omega) _))
    · obtain ⟨g0, g1, g2, g3, g4, g5⟩ := i1.1 rfl
      obtain ⟨k0, k1, k2, k3, k4, k5⟩ := i2.1 rfl
      clear i1 i2
      go_enter Tryd.func11, Tryd.ntmps11
      go_wp2_with fail
      refine (HF1.out _).mono ?_
      rintro e w1 ⟨rfl, hb1⟩
      have hr := hB4.below hb1
      have hx := hB3.below hb1
      have ha := hB2'.below hb1
      rw [show ((w.alloc (.cells #[.int .i64 a, .int .i64 b, .int .i64 c] 35)).alloc (.cells #[.int .i64 x, .int .i64 y, .int .i64 z] 35)).heap.size = w.heap.size + 1 + 1 by simp] at hr
      rw [show (w.alloc (.cells #[.int .i64 a, .int .i64 b, .int .i64 c] 35)).heap.size = w.heap.size + 1 by simp] at hx
      have x0 : w1.cell? ⟨w.heap.size + 1, 0, none⟩ = some (.int .i64 x) := hx.cell 0
      have x1 : w1.cell? ⟨w.heap.size + 1, 1, none⟩ = some (.int .i64 y) := hx.cell 1
      have x2 : w1.cell? ⟨w.heap.size + 1, 2, none⟩ = some (.int .i64 z) := hx.cell 2
      have hb2 := hal.trans (hb1.mono (by simp; omega))
      go_wp2_with fail
      refine (HF2.out _).mono ?_
      rintro e w2 ⟨rfl, hb3⟩
      have hr := hr.below hb3
      have hx := hx.below hb3
      have ha := ha.below hb3
      have x0 : w2.cell? ⟨w.heap.size + 1, 0, none⟩ = some (.int .i64 x) := hx.cell 0
      have x1 : w2.cell? ⟨w.heap.size + 1, 1, none⟩ = some (.int .i64 y) := hx.cell 1
      have x2 : w2.cell? ⟨w.heap.size + 1, 2, none⟩ = some (.int .i64 z) := hx.cell 2
      have a0 : w2.cell? ⟨w.heap.size, 0, none⟩ = some (.int .i64 a) := ha.cell 0
      have a1 : w2.cell? ⟨w.heap.size, 1, none⟩ = some (.int .i64 b) := ha.cell 1
      have a2 : w2.cell? ⟨w.heap.size, 2, none⟩ = some (.int .i64 c) := ha.cell 2
      have hb4 := below_then hb2 hb3
      go_wp2_with fail
      refine (HS.out _ _ (by simp) ⟨by omega, by omega⟩ ⟨by omega, by omega⟩ ⟨by omega, by omega⟩ ⟨by omega, by omega⟩ ⟨by omega, by omega⟩ ⟨by omega, by omega⟩ (by exact Blk.new _ _ _)).mono ?_
      rintro e w3 ⟨rfl, hb5⟩
      have hr := (hr.alloc (.cells #[.int .i64 a, .int .i64 b, .int .i64 c, .int .i64 x, .int .i64 y, .int .i64 z] 35)).below hb5
      have d0 : w3.cell? ⟨w.heap.size + 1 + 1, 0, none⟩ = some (.int .i64 0) := hr.cell 0
      have d1 : w3.cell? ⟨w.heap.size + 1 + 1, 1, none⟩ = some (.int .i64 0) := hr.cell 1
      have d2 : w3.cell? ⟨w.heap.size + 1 + 1, 2, none⟩ = some (.int .i64 0) := hr.cell 2
      have f0 := hr.frozen 0
      have f1 := hr.frozen 1
      have f2 := hr.frozen 2
      have hb6 := below_then hb4 (((Below.refl _ _).alloc (Nat.le_refl _) (.cells #[.int .i64 a, .int .i64 b, .int .i64 c, .int .i64 x, .int .i64 y, .int .i64 z] 35)).trans (hb5.mono (by simp)))
      go_wp2
      refine bodyPost_ret (v := .agg #[.int .i64 (a + x), .int .i64 (b + y), .int .i64 (c + z)]) (by simp [results, Tryd.results11, go_sem, d0, d1, d2]) rfl ⟨by simp [HZ.out], ?_⟩
      (repeat (first | exact Below.refl _ _ | assumption | refine Below.setCell ?_ (by first | (simp; done) | (simp; omega) | omega) _ | refine Below.drew ?_ | refine below_drewN ?_ _ | refine Below.alloc ?_ (by first | (simp; done) | (simp; omega) | omega) _))


theorem m_app {a b : List UInt8} (ha : isText a = true) (hb : isText b = true) (hab : isText (a ++ b) = true) : mB (a ++ b) = mB a + mB b ∧ mR (a ++ b) = mR a + mR b ∧ mL (a ++ b) = mL a + mL b := by
  unfold mB mR mL
  rw [if_pos ha, if_pos hb, if_pos hab, if_pos ha, if_pos hb, if_pos hab, if_pos ha, if_pos hb, if_pos hab, runeCount_app ha hb hab, lines_app, List.length_append]
  refine ⟨by omega, rfl, by omega⟩

theorem mAdd_fits {a b c x y z : Int} (h1 : 0 ≤ a ∧ a ≤ 400 ∧ 0 ≤ b ∧ b ≤ 400 ∧ 0 ≤ c ∧ c ≤ 400) (h2 : 0 ≤ x ∧ x ≤ 400 ∧ 0 ≤ y ∧ y ≤ 400 ∧ 0 ≤ z ∧ z ≤ 400) (k : Int) : mAdd a b c x y z k = k := by
  unfold mAdd
  rw [if_pos ⟨(mFits_iff a b c).2 h1, (mFits_iff x y z).2 h2⟩]
end Go.Proofs.YthnahenpnafkmaaDoor

/-
  Splitting a rope and joining its parts, plain mathematics: texts and measures. Own work.
-/
namespace Go.Proofs.YthnahenpnafkmaaDoor
open Go.RowKit P
set_option linter.unusedVariables false
set_option linter.unusedSimpArgs false

theorem spA_text {ls : List (List UInt8)} {a : Int} (h : rCut ls a = true) : chunksText (spA ls a) = (chunksText ls).take a.toNat ∧ chunksOk (spA ls a) = true := by
  obtain ⟨h1, h2, h3, h4, h5⟩ := cut_facts h
  obtain ⟨_, _, _, _, e5, e6⟩ := editOk_text (editOk_front h)
  have hs : spA ls a = editV ls a ((tot ls : Int) - a) [] := by unfold spA; rw [if_pos h]
  rw [hs]
  refine ⟨?_, e6⟩
  rw [chunksText_ok e6, e5, h2]
  have hd : ls.flatten.drop (a + ((tot ls : Int) - a)).toNat = [] := List.drop_eq_nil_of_le (by unfold tot; omega)
  rw [hd]
  simp
theorem spB_text {ls : List (List UInt8)} {a : Int} (h : rCut ls a = true) : chunksText (spB ls a) = (chunksText ls).drop a.toNat ∧ chunksOk (spB ls a) = true := by
  obtain ⟨h1, h2, h3, h4, h5⟩ := cut_facts h
  obtain ⟨_, _, _, _, e5, e6⟩ := editOk_text (by rw [editOk_back]; exact h : editOk ls 0 a [] = true)
  have hs : spB ls a = editV ls 0 a [] := by unfold spB; rw [if_pos h]
  rw [hs]
  refine ⟨?_, e6⟩
  rw [chunksText_ok e6, e5, h2]
  simp
theorem split_join {ls : List (List UInt8)} {a : Int} (h : rCut ls a = true) : joinOk (spA ls a) (spB ls a) = true ∧ chunksText (joinR (spA ls a) (spB ls a)) = chunksText ls := by
  obtain ⟨h1, h2, h3, h4, h5⟩ := cut_facts h
  obtain ⟨e1, e2⟩ := spA_text h
  obtain ⟨e3, e4⟩ := spB_text h
  have hj : joinOk (spA ls a) (spB ls a) = true := by
    unfold joinOk
    rw [e2, e4, e1, e3, h2]
    simp only [Bool.true_and, decide_eq_true_eq, List.length_take, List.length_drop]
    unfold tot at h5
    omega
  refine ⟨hj, ?_⟩
  have hr : joinR (spA ls a) (spB ls a) = spA ls a ++ spB ls a := by unfold joinR; rw [if_pos hj]
  have hok : chunksOk (spA ls a ++ spB ls a) = true := by rw [← joinOk_app]; exact hj
  rw [hr, chunksText_ok hok, List.flatten_append]
  rw [chunksText_ok e2] at e1
  rw [chunksText_ok e4] at e3
  rw [e1, e3, List.take_append_drop]
theorem m_parts {L : List UInt8} {k : Nat} (h1 : isText L = true) (h2 : isText (L.take k) = true) (h3 : isText (L.drop k) = true) :
    mB (L.take k) + mB (L.drop k) = mB L ∧ mR (L.take k) + mR (L.drop k) = mR L ∧ mL (L.take k) + mL (L.drop k) = mL L := by
  have e := List.take_append_drop k L
  unfold mB mR mL
  rw [if_pos h1, if_pos h2, if_pos h3, if_pos h1, if_pos h2, if_pos h3, if_pos h1, if_pos h2, if_pos h3]
  refine ⟨?_, ?_, ?_⟩
  · have := congrArg List.length e
    rw [List.length_append] at this
    omega
  · have := runeCount_app h2 h3 (by rw [e]; exact h1)
    rw [e] at this
    omega
  · have : lines L = lines (L.take k) + lines (L.drop k) := by
      unfold lines
      rw [← List.count_append, e]
    omega
theorem m_fits (l : List UInt8) : mFits (mB l) (mR l) (mL l) = true := by
  unfold mFits mB mR mL
  by_cases h : isText l = true
  · have h1 := isText_len h
    have h2 := runeCount_bd h
    have h3 : lines l ≤ l.length := by unfold lines; exact List.count_le_length
    rw [if_pos h, if_pos h, if_pos h]
    simp only [Bool.and_eq_true, decide_eq_true_eq]
    omega
  · rw [if_neg h, if_neg h, if_neg h]
    decide
/-- The measure of a rope is the sum of its parts' measures. -/
theorem split_meas {ls : List (List UInt8)} {a : Int} (h : rCut ls a = true) (k : Int) :
    mAdd (mB (chunksText (spA ls a))) (mR (chunksText (spA ls a))) (mL (chunksText (spA ls a))) (mB (chunksText (spB ls a))) (mR (chunksText (spB ls a))) (mL (chunksText (spB ls a))) k = k ∧
    mB (chunksText (spA ls a)) + mB (chunksText (spB ls a)) = mB (chunksText ls) ∧ mR (chunksText (spA ls a)) + mR (chunksText (spB ls a)) = mR (chunksText ls) ∧ mL (chunksText (spA ls a)) + mL (chunksText (spB ls a)) = mL (chunksText ls) := by
  obtain ⟨h1, h2, h3, h4, h5⟩ := cut_facts h
  obtain ⟨e1, e2⟩ := spA_text h
  obtain ⟨e3, e4⟩ := spB_text h
  have t1 := chunksOk_text h1
  have t2 := chunksOk_text e2
  have t3 := chunksOk_text e4
  rw [← chunksText_ok e2, e1] at t2
  rw [← chunksText_ok e4, e3] at t3
  rw [← chunksText_ok h1] at t1
  refine ⟨by unfold mAdd; rw [if_pos ⟨m_fits _, m_fits _⟩], ?_⟩
  rw [e1, e3]
  exact m_parts t1 t2 t3
end Go.Proofs.YthnahenpnafkmaaDoor

/-
  FnRopeSplit, its walk. Own work.
-/
namespace Go.Proofs.YthnahenpnafkmaaDoor.fnRopeSplit
open Go.ChangeShapes Go.WideShapes Go.ChangeAt Go.RowKit P
set_option linter.unusedVariables false
set_option maxRecDepth 100000

theorem two_vars {w : World} {A1 A2 : Option Addr} {c1 c2 : Nat} {R S : List (List UInt8)} {f1 f2 : List Nat} (h1 : Lay.chunks.ow w [.slice A1 R.length c1] R f1) (h2 : Lay.chunks.ow w [.slice A2 S.length c2] S f2) :
    RVar ((w.alloc (.cells #[.slice A1 R.length c1] 26)).alloc (.cells #[.slice A2 S.length c2] 26)) w.heap.size A1 R c1 f1 ∧
    RVar ((w.alloc (.cells #[.slice A1 R.length c1] 26)).alloc (.cells #[.slice A2 S.length c2] 26)) (w.heap.size + 1) A2 S c2 f2 ∧
    Below w.heap.size w ((w.alloc (.cells #[.slice A1 R.length c1] 26)).alloc (.cells #[.slice A2 S.length c2] 26)) := by
  have hal := (Below.refl w.heap.size w).alloc (Nat.le_refl _) (.cells #[.slice A1 R.length c1] 26)
  have hal2 := (Below.refl (w.alloc (.cells #[.slice A1 R.length c1] 26)).heap.size (w.alloc (.cells #[.slice A1 R.length c1] 26))).alloc (Nat.le_refl _) (.cells #[.slice A2 S.length c2] 26)
  refine ⟨(RVar.new h1).below hal2, ?_, below_then hal hal2⟩
  have h9 := RVar.new (Lay.chunks.owBelow h2 hal)
  rw [World.size_alloc] at h9
  exact h9

set_option maxHeartbeats 8000000 in
theorem walk (A : Option Addr) (l : List UInt8) (c : Nat) (hc : l.length ≤ c) (hm : c ≤ maxLen) (w : World) (hB : Bs w A l) (hT : Tab w) :
    Calls Tryd.prog 3 #[.slice A l.length c] w fun e w' => e = .returned (.bool true) ∧ Below w.heap.size w w' := by
  by_cases hbig : 1048576 < l.length
  · have hb : decide (1048576 < l.length) = true := decide_eq_true hbig
    have HBG := Lib.hid hb
    clear hb hbig
    go_enter Tryd.func3, Tryd.ntmps3
    go_wp2_with (go_at_call 4; refine (big_any _ _ _ _).mono ?_; rintro e w' ⟨rfl, rfl⟩; rw [HBG.out])
    go_ret
    exact ⟨rfl, Below.refl _ _⟩
  have hl : l.length ≤ 1048576 := by omega
  have hb : decide (1048576 < l.length) = false := decide_eq_false hbig
  have HBG := Lib.hid hb
  clear hb hbig hc hm
  go_enter Tryd.func3, Tryd.ntmps3
  go_wp2_with fail
  refine (big_any _ _ _ _).mono ?_
  rintro e w0 ⟨rfl, rfl⟩
  rw [HBG.out]
  go_wp2_with fail
  refine (drawRopeSplit_any A l c _ hl (by exact hB)).mono ?_
  rintro e w1 ⟨A1, c1, L, a, rfl, hLc, hcm, hC1, hL4, hLe, ha, hb1⟩
  have hal := (Below.refl w1.heap.size w1).alloc (Nat.le_refl _) (.cells #[.slice A1 L.length c1] 26)
  have BV := Lib.hid (Blk.new w1 #[.slice A1 L.length c1] 26)
  have hC2 := hC1.below hal
  have HB := Lib.hid (below_then hb1 hal)
  have kV := BV.out.cell 0
  have hL9 : L.length ≤ 1048576 := by omega
  have hn9 : L.length ≤ 9223372036854775807 := by omega
  obtain ⟨R, hRe⟩ : ∃ R, spA L a = R := ⟨_, rfl⟩
  obtain ⟨S, hSe⟩ : ∃ R, spB L a = R := ⟨_, rfl⟩
  obtain ⟨z, hze⟩ : ∃ z, rCut L a = z := ⟨_, rfl⟩
  have hRb : R.length + tot R ≤ 800 := by rw [← hRe]; exact spA_bd L a
  have hSb : S.length + tot S ≤ 800 := by rw [← hSe]; exact spB_bd L a
  have HRE := Lib.hid hRe
  have HSE := Lib.hid hSe
  have HZE := Lib.hid hze
  have hzz : (z != z) = false := by simp
  clear HBG hC1 hb1 hal hcm hRe hSe hze
  go_wp2_with fail
  generalize w1.alloc (.cells #[.slice A1 L.length c1] 26) = W2 at *
  refine (specRopeSplit_any A1 L c1 a _ hn9 (by exact hC2) ha).mono ?_
  rintro e w3 ⟨Ax, cx, Ay, cy, fx, fy, rfl, how3, hov3, _, _, _, _, _, hb3⟩
  rw [HRE.out] at how3
  rw [HSE.out] at hov3
  rw [HRE.out, HSE.out, HZE.out]
  obtain ⟨_, _, hal⟩ := two_vars how3 hov3
  have hb3' := below_then hb3 hal
  have BV := Lib.hid (BV.out.below hb3')
  have hC3 := hC2.below hb3'
  have HB := Lib.hid (below_then HB.out hb3')
  clear hC2 hb3 hb3' kV how3 hov3 hal
  have kV := BV.out.cell 0
  go_wp2_with fail
  generalize (w3.alloc (.cells #[.slice Ax R.length cx] 26)).alloc (.cells #[.slice Ay S.length cy] 26) = W3 at *
  refine (implRopeSplit_any A1 L c1 a _ hL9 (by exact hT.below HB.out) (by exact hC3) ha).mono ?_
  rintro e w4 ⟨Ag, cg, Ah, ch, fg, fh, rfl, how4, hov4, hng, hnh, hfg, hfh, hdg, hb4⟩
  rw [HRE.out] at how4
  rw [HSE.out] at hov4
  rw [HRE.out, HSE.out, HZE.out]
  obtain ⟨_, _, e9, hgc, _, _⟩ := Lay.chunks_rd (Lay.chunks.read how4)
  cases e9
  obtain ⟨_, _, e9, hhc, _, _⟩ := Lay.chunks_rd (Lay.chunks.read hov4)
  cases e9
  obtain ⟨rg4, rh4, hal⟩ := two_vars how4 hov4
  have RG := Lib.hid rg4
  have RH := Lib.hid rh4
  have hb4' := below_then hb4 hal
  have BV := Lib.hid (BV.out.below hb4')
  have hC4 := hC3.below hb4'
  have HB := Lib.hid (below_then HB.out hb4')
  clear how4 hov4 hng hnh hfg hfh hdg hb4 hb4' hal rg4 rh4 hC3 kV
  cases z
  · go_wp2
    go_ret
    exact ⟨rfl, HB.out⟩
  -- the mathematics
  obtain ⟨hj1, hj2⟩ := split_join HZE.out
  rw [HRE.out, HSE.out] at hj1 hj2
  have hp1 := (spA_text HZE.out).1
  rw [HRE.out] at hp1
  obtain ⟨-, hm1, hm2, hm3⟩ := split_meas HZE.out 0
  have hm0 := fun k => (split_meas HZE.out k).1
  rw [HRE.out, HSE.out] at hm0 hm1 hm2 hm3
  obtain ⟨t, ht⟩ : ∃ t, chunksText L = t := ⟨_, rfl⟩
  have hal9 : 0 ≤ a ∧ a ≤ (t.length : Int) ∧ t.length ≤ 400 := by
    obtain ⟨h1, h2, h3, h4, h5⟩ := cut_facts HZE.out
    rw [← ht, h2]
    unfold tot at h4 h5
    exact ⟨h3, h4, h5⟩
  rw [ht] at hj2 hp1 hm1 hm2 hm3
  obtain ⟨p, hpa⟩ : ∃ p : Nat, a = (p : Int) := ⟨a.toNat, by omega⟩
  subst hpa
  simp only [Int.toNat_natCast] at hp1
  obtain ⟨J, hJ⟩ : ∃ J, joinR R S = J := ⟨_, rfl⟩
  rw [hJ] at hj2
  have HJ := Lib.hid hJ
  have HJO := Lib.hid hj1
  have HJT := Lib.hid hj2
  have HPT := Lib.hid hp1
  have HT9 := Lib.hid ht
  have HM0 := Lib.hid hm0
  have HM1 := Lib.hid hm1
  have HM2 := Lib.hid hm2
  have HM3 := Lib.hid hm3
  clear hj1 hj2 hp1 hm0 hm1 hm2 hm3 hJ ht HZE HRE HSE
  have kG := RG.out.cell
  have kH := RH.out.cell
  go_wp2_with fail
  generalize (w4.alloc (.cells #[.slice Ag R.length cg] 26)).alloc (.cells #[.slice Ah S.length ch] 26) = W4 at *
  refine (implRopeJoin_any Ag Ah R S cg ch _ hgc hhc (by omega) (by exact hT.below HB.out) (by exact RG.out.cs) (by exact RH.out.cs)).mono ?_
  rintro e w5 ⟨v5, fp5, rfl, how5, _, _, hb5⟩
  rw [HJ.out] at how5
  rw [HJO.out]
  obtain ⟨Aj, cj, rfl, hjc, _, hCj⟩ := Lay.chunks_rd (Lay.chunks.read how5)
  have hal := (Below.refl w5.heap.size w5).alloc (Nat.le_refl _) (.cells #[.slice Aj J.length cj] 26)
  have BJ := Lib.hid (Blk.new w5 #[.slice Aj J.length cj] 26)
  have hb5' := below_then hb5 hal
  have HCJ := Lib.hid (hCj.below hal)
  have BV := Lib.hid (BV.out.below hb5')
  have RG := Lib.hid (RG.out.below hb5')
  have RH := Lib.hid (RH.out.below hb5')
  have HC := Lib.hid (hC4.below hb5')
  have HB := Lib.hid (below_then HB.out hb5')
  clear how5 hCj hb5 hb5' hal hC4 kG kH
  have kV := BV.out.cell 0
  go_wp2_with fail
  generalize w5.alloc (.cells #[.slice Aj J.length cj] 26) = W5 at *
  refine (specRopeText_any A1 L c1 _ hn9 (by exact HC.out)).mono ?_
  rintro e w6 ⟨v6, rfl, hown6, hb6⟩
  rw [HT9.out] at hown6
  obtain ⟨At, ct, rfl, htc, _, hBt⟩ := hown6.form
  have BJ := Lib.hid (BJ.out.below hb6)
  have HCJ := Lib.hid (HCJ.out.below hb6)
  have BV := Lib.hid (BV.out.below hb6)
  have RG := Lib.hid (RG.out.below hb6)
  have RH := Lib.hid (RH.out.below hb6)
  have HC := Lib.hid (HC.out.below hb6)
  have HB := Lib.hid (below_then HB.out hb6)
  clear hown6 hb6 kV
  obtain ⟨u, hu⟩ : ∃ u, t.take p = u := ⟨_, rfl⟩
  have hul : p = u.length := by rw [← hu, List.length_take]; omega
  have hBu : Bs w6 At u := by rw [← hu]; exact hBt.head p (by omega)
  have hpt : p ≤ t.length := by omega
  have hpc : p ≤ ct := by omega
  have HBt := Lib.hid hBt
  have HBu := Lib.hid hBu
  have HUL := Lib.hid hul
  have HU : Hid (chunksText R = u) := Lib.hid (by rw [HPT.out]; exact hu)
  have hJ9 : J.length ≤ 1048576 := by
    have h1 := congrArg List.length HJ.out
    unfold joinR at h1
    rw [if_pos HJO.out, List.length_append] at h1
    omega
  have hR9 : R.length ≤ 1048576 := by omega
  have hS9 : S.length ≤ 1048576 := by omega
  have heq1 : (t == t) = true := by simp
  have heq2 : (u == u) = true := by simp
  clear hu hul hBt hBu HPT HJ HJO
  have kJ := BJ.out.cell 0
  have kG := RG.out.cell
  have kH := RH.out.cell
  have kV := BV.out.cell 0
  have zJ := BJ.out.lt
  have zG := RG.out.lt.1
  have zH := RH.out.lt.1
  have zV := BV.out.lt
  obtain ⟨b1, hB1⟩ : ∃ q, mB (chunksText R) = q := ⟨_, rfl⟩
  obtain ⟨r1, hR1⟩ : ∃ q, mR (chunksText R) = q := ⟨_, rfl⟩
  obtain ⟨l1, hL1⟩ : ∃ q, mL (chunksText R) = q := ⟨_, rfl⟩
  obtain ⟨b2, hB2⟩ : ∃ q, mB (chunksText S) = q := ⟨_, rfl⟩
  obtain ⟨r2, hR2⟩ : ∃ q, mR (chunksText S) = q := ⟨_, rfl⟩
  obtain ⟨l2, hL2⟩ : ∃ q, mL (chunksText S) = q := ⟨_, rfl⟩
  obtain ⟨b3, hB3⟩ : ∃ q, mB (chunksText L) = q := ⟨_, rfl⟩
  obtain ⟨r3, hR3⟩ : ∃ q, mR (chunksText L) = q := ⟨_, rfl⟩
  obtain ⟨l3, hL3⟩ : ∃ q, mL (chunksText L) = q := ⟨_, rfl⟩
  have hm0 := HM0.out
  have hm1 := HM1.out
  have hm2 := HM2.out
  have hm3 := HM3.out
  rw [← HT9.out] at hm1 hm2 hm3
  rw [hB1, hR1, hL1, hB2, hR2, hL2] at hm0
  rw [hB1, hB2, hB3] at hm1
  rw [hR1, hR2, hR3] at hm2
  rw [hL1, hL2, hL3] at hm3
  have HM0 := Lib.hid hm0
  have HM1 := Lib.hid hm1
  have HM2 := Lib.hid hm2
  have HM3 := Lib.hid hm3
  have EB1 := Lib.hid hB1
  have ER1 := Lib.hid hR1
  have EL1 := Lib.hid hL1
  have EB2 := Lib.hid hB2
  have ER2 := Lib.hid hR2
  have EL2 := Lib.hid hL2
  have EB3 := Lib.hid hB3
  have ER3 := Lib.hid hR3
  have EL3 := Lib.hid hL3
  have hq1 : (b3 == b3) = true := by simp
  have hq2 : (r3 == r3) = true := by simp
  have hq3 : (l3 == l3) = true := by simp
  clear hm0 hm1 hm2 hm3 hB1 hR1 hL1 hB2 hR2 hL2 hB3 hR3 hL3
  have hcv1 := run_conv_bs ct t.length rfl (HBt.out.below (Below.refl w6.heap.size w6).drew)
  have hcv2 := run_conv_bs ct p HUL.out (HBu.out.below (Below.refl w6.heap.size w6).drew)
  go_upto_region 10 with fail
  refine wp_region_held_drew (S := (fun V => V.cell? ⟨w5.heap.size, 0, none⟩ = some (.slice Aj J.length cj) ∧ V.cell? ⟨w4.heap.size, 0, none⟩ = some (.slice Ag R.length cg) ∧ V.cell? ⟨w4.heap.size + 1, 0, none⟩ = some (.slice Ah S.length ch) ∧ V.cell? ⟨w1.heap.size, 0, none⟩ = some (.slice A1 L.length c1) ∧ Sem.run Tryd.prog (convert 22 9 (.slice At t.length ct)) V = .ok (.string ⟨t.toArray⟩) V ∧ Sem.run Tryd.prog (convert 22 9 (.slice At p ct)) V = .ok (.string ⟨u.toArray⟩) V)) (by kernel_rfl) (by exact ⟨kJ, kG, kH, kV, hcv1, hcv2⟩) (fun hHeld => ?_)
  refine wpAnyH_take (i := 0) (oi := ?_) (v := ?_) ?_ ?_ ?_ ?_ ?_ ?_ (by exact hHeld) ?_
  rotate_left 2
  · (simp only [List.getElem?_toArray, List.getElem?_cons_zero]; try rfl)
  · kernel_rfl
  · kernel_rfl
  · kernel_rfl
  · exact fun _ _ _ h => h
  · refine Or.inl ⟨by rfl, ?_⟩
    (intro V hSV; (try dsimp only at hSV); obtain ⟨q0, q1, q2, q3, q4, q5⟩ := hSV; go_simp; try with_reducible rfl)
  (try simp only [Act.put, List.setIfInBounds_toArray, List.set_cons_zero, List.set_cons_succ])
  refine wpAnyH_take (i := 1) (oi := ?_) (v := ?_) ?_ ?_ ?_ ?_ ?_ ?_ (by exact hHeld) ?_
  rotate_left 2
  · (simp only [List.getElem?_toArray, List.getElem?_cons_zero, List.getElem?_cons_succ]; try rfl)
  · kernel_rfl
  · kernel_rfl
  · kernel_rfl
  · exact fun _ _ _ h => h
  · refine Or.inl ⟨by rfl, ?_⟩
    (intro V hSV; (try dsimp only at hSV); obtain ⟨q0, q1, q2, q3, q4, q5⟩ := hSV; go_simp; try with_reducible rfl)
  (try simp only [Act.put, List.setIfInBounds_toArray, List.set_cons_zero, List.set_cons_succ])
  refine wpAnyH_take (i := 2) (oi := ?_) (v := ?_) ?_ ?_ ?_ ?_ ?_ ?_ (by exact hHeld) ?_
  rotate_left 2
  · (simp only [List.getElem?_toArray, List.getElem?_cons_zero, List.getElem?_cons_succ]; try rfl)
  · kernel_rfl
  · kernel_rfl
  · kernel_rfl
  · exact fun _ _ _ h => h
  · refine Or.inl ⟨by rfl, ?_⟩
    (intro V hSV; (try dsimp only at hSV); obtain ⟨q0, q1, q2, q3, q4, q5⟩ := hSV; go_simp; try with_reducible rfl)
  (try simp only [Act.put, List.setIfInBounds_toArray, List.set_cons_zero, List.set_cons_succ])
  refine wpAnyH_take (i := 5) (oi := ?_) (v := ?_) ?_ ?_ ?_ ?_ ?_ ?_ (by exact hHeld) ?_
  rotate_left 2
  · (simp only [List.getElem?_toArray, List.getElem?_cons_zero, List.getElem?_cons_succ]; try rfl)
  · kernel_rfl
  · kernel_rfl
  · kernel_rfl
  · exact fun _ _ _ h => h
  · refine Or.inl ⟨by rfl, ?_⟩
    (intro V hSV; (try dsimp only at hSV); obtain ⟨q0, q1, q2, q3, q4, q5⟩ := hSV; go_simp; try with_reducible rfl)
  (try simp only [Act.put, List.setIfInBounds_toArray, List.set_cons_zero, List.set_cons_succ])
  refine wpAnyH_take (i := 6) (oi := ?_) (v := ?_) ?_ ?_ ?_ ?_ ?_ ?_ (by exact hHeld) ?_
  rotate_left 2
  · (simp only [List.getElem?_toArray, List.getElem?_cons_zero, List.getElem?_cons_succ]; try rfl)
  · kernel_rfl
  · kernel_rfl
  · kernel_rfl
  · exact fun _ _ _ h => h
  · refine Or.inl ⟨by rfl, ?_⟩
    (intro V hSV; (try dsimp only at hSV); obtain ⟨q0, q1, q2, q3, q4, q5⟩ := hSV; go_simp; try with_reducible rfl)
  (try simp only [Act.put, List.setIfInBounds_toArray, List.set_cons_zero, List.set_cons_succ])
  refine wpAnyH_ready (rs := [3]) (by kernel_rfl) (by simp) ?_
  refine AllReadyH.cons rfl (fun K hK => ?_) AllReadyH.nil
  go_simp
  refine (implRopeText_any Aj J cj _ hJ9 (by exact hT.below HB.out.drew) (by exact HCJ.out)).mono ?_
  rintro e v1 ⟨x1, rfl, hown, hb⟩
  rw [HJT.out] at hown
  obtain ⟨D1, d1, rfl, _, _, hB1⟩ := hown.form
  have hd1 := run_conv_bs d1 _ rfl hB1
  clear hown hB1
  have hb : Below w6.heap.size w6 v1 := ⟨hb.os, hb.tape, hb.output, hb.size, hb.block⟩
  have H1 := Lib.hid hb
  clear hb
  go_wp2_with fail
  refine hK.out _ _ (by exact ⟨((H1.out).cell (p := ⟨w5.heap.size, 0, none⟩) zJ).trans kJ, ((H1.out).cell (p := ⟨w4.heap.size, 0, none⟩) zG).trans kG, ((H1.out).cell (p := ⟨w4.heap.size + 1, 0, none⟩) zH).trans kH, ((H1.out).cell (p := ⟨w1.heap.size, 0, none⟩) zV).trans kV, run_conv_bs ct t.length rfl (HBt.out.below H1.out), run_conv_bs ct p HUL.out (HBu.out.below H1.out)⟩) (fun hHeld => ?_)
  clear hK K
  (try simp only [Act.put, List.setIfInBounds_toArray, List.set_cons_zero, List.set_cons_succ])
  refine wpAnyH_ready (rs := [4]) (by kernel_rfl) (by simp) ?_
  refine AllReadyH.cons (o := ?_) ?_ (fun K hK => ?_) AllReadyH.nil
  rotate_left 1
  · (simp only [List.getElem?_toArray, List.getElem?_cons_zero, List.getElem?_cons_succ]; try rfl)
  go_simp
  refine hK.out _ _ (by exact ⟨((H1.out).cell (p := ⟨w5.heap.size, 0, none⟩) zJ).trans kJ, ((H1.out).cell (p := ⟨w4.heap.size, 0, none⟩) zG).trans kG, ((H1.out).cell (p := ⟨w4.heap.size + 1, 0, none⟩) zH).trans kH, ((H1.out).cell (p := ⟨w1.heap.size, 0, none⟩) zV).trans kV, run_conv_bs ct t.length rfl (HBt.out.below H1.out), run_conv_bs ct p HUL.out (HBu.out.below H1.out)⟩) (fun hHeld => ?_)
  clear hK K
  (try simp only [Act.put, List.setIfInBounds_toArray, List.set_cons_zero, List.set_cons_succ])
  refine wpAnyH_take (i := 7) (oi := ?_) (v := ?_) ?_ ?_ ?_ ?_ ?_ ?_ (by exact hHeld) ?_
  rotate_left 2
  · (simp only [List.getElem?_toArray, List.getElem?_cons_zero, List.getElem?_cons_succ]; try rfl)
  · kernel_rfl
  · kernel_rfl
  · kernel_rfl
  · exact fun _ _ _ h => h
  · refine Or.inl ⟨by rfl, ?_⟩
    (intro V hSV; (try dsimp only at hSV); obtain ⟨q0, q1, q2, q3, q4, q5⟩ := hSV; go_simp; try with_reducible rfl)
  (try simp only [Act.put, List.setIfInBounds_toArray, List.set_cons_zero, List.set_cons_succ])
  refine wpAnyH_take (i := 8) (oi := ?_) (v := ?_) ?_ ?_ ?_ ?_ ?_ ?_ (by exact hHeld) ?_
  rotate_left 2
  · (simp only [List.getElem?_toArray, List.getElem?_cons_zero, List.getElem?_cons_succ]; try rfl)
  · kernel_rfl
  · kernel_rfl
  · kernel_rfl
  · exact fun _ _ _ h => h
  · refine Or.inl ⟨by rfl, ?_⟩
    (intro V hSV; (try dsimp only at hSV); obtain ⟨q0, q1, q2, q3, q4, q5⟩ := hSV; go_simp; try with_reducible rfl)
  (try simp only [Act.put, List.setIfInBounds_toArray, List.set_cons_zero, List.set_cons_succ])
  refine wpAnyH_take (i := 9) (oi := ?_) (v := ?_) ?_ ?_ ?_ ?_ ?_ ?_ (by exact hHeld) ?_
  rotate_left 2
  · (simp only [List.getElem?_toArray, List.getElem?_cons_zero, List.getElem?_cons_succ]; try rfl)
  · kernel_rfl
  · kernel_rfl
  · kernel_rfl
  · exact fun _ _ _ h => h
  · refine Or.inl ⟨by rfl, ?_⟩
    (intro V hSV; (try dsimp only at hSV); obtain ⟨q0, q1, q2, q3, q4, q5⟩ := hSV; go_simp; try with_reducible rfl)
  (try simp only [Act.put, List.setIfInBounds_toArray, List.set_cons_zero, List.set_cons_succ])
  refine wpAnyH_take (i := 10) (oi := ?_) (v := ?_) ?_ ?_ ?_ ?_ ?_ ?_ (by exact hHeld) ?_
  rotate_left 2
  · (simp only [List.getElem?_toArray, List.getElem?_cons_zero, List.getElem?_cons_succ]; try rfl)
  · kernel_rfl
  · kernel_rfl
  · kernel_rfl
  · exact fun _ _ _ h => h
  · refine Or.inl ⟨by rfl, ?_⟩
    (intro V hSV; (try dsimp only at hSV); obtain ⟨q0, q1, q2, q3, q4, q5⟩ := hSV; go_simp; try with_reducible rfl)
  (try simp only [Act.put, List.setIfInBounds_toArray, List.set_cons_zero, List.set_cons_succ])
  refine wpAnyH_take (i := 13) (oi := ?_) (v := ?_) ?_ ?_ ?_ ?_ ?_ ?_ (by exact hHeld) ?_
  rotate_left 2
  · (simp only [List.getElem?_toArray, List.getElem?_cons_zero, List.getElem?_cons_succ]; try rfl)
  · kernel_rfl
  · kernel_rfl
  · kernel_rfl
  · exact fun _ _ _ h => h
  · refine Or.inl ⟨by rfl, ?_⟩
    (intro V hSV; (try dsimp only at hSV); obtain ⟨q0, q1, q2, q3, q4, q5⟩ := hSV; go_simp; try with_reducible rfl)
  (try simp only [Act.put, List.setIfInBounds_toArray, List.set_cons_zero, List.set_cons_succ])
  refine wpAnyH_take (i := 14) (oi := ?_) (v := ?_) ?_ ?_ ?_ ?_ ?_ ?_ (by exact hHeld) ?_
  rotate_left 2
  · (simp only [List.getElem?_toArray, List.getElem?_cons_zero, List.getElem?_cons_succ]; try rfl)
  · kernel_rfl
  · kernel_rfl
  · kernel_rfl
  · exact fun _ _ _ h => h
  · refine Or.inl ⟨by rfl, ?_⟩
    (intro V hSV; (try dsimp only at hSV); obtain ⟨q0, q1, q2, q3, q4, q5⟩ := hSV; go_simp; try with_reducible rfl)
  (try simp only [Act.put, List.setIfInBounds_toArray, List.set_cons_zero, List.set_cons_succ])
  refine wpAnyH_take (i := 15) (oi := ?_) (v := ?_) ?_ ?_ ?_ ?_ ?_ ?_ (by exact hHeld) ?_
  rotate_left 2
  · (simp only [List.getElem?_toArray, List.getElem?_cons_zero, List.getElem?_cons_succ]; try rfl)
  · kernel_rfl
  · kernel_rfl
  · kernel_rfl
  · exact fun _ _ _ h => h
  · refine Or.inl ⟨by rfl, ?_⟩
    (intro V hSV; (try dsimp only at hSV); obtain ⟨q0, q1, q2, q3, q4, q5⟩ := hSV; go_simp; try with_reducible rfl)
  (try simp only [Act.put, List.setIfInBounds_toArray, List.set_cons_zero, List.set_cons_succ])
  refine wpAnyH_take (i := 16) (oi := ?_) (v := ?_) ?_ ?_ ?_ ?_ ?_ ?_ (by exact hHeld) ?_
  rotate_left 2
  · (simp only [List.getElem?_toArray, List.getElem?_cons_zero, List.getElem?_cons_succ]; try rfl)
  · kernel_rfl
  · kernel_rfl
  · kernel_rfl
  · exact fun _ _ _ h => h
  · refine Or.inl ⟨by rfl, ?_⟩
    (intro V hSV; (try dsimp only at hSV); obtain ⟨q0, q1, q2, q3, q4, q5⟩ := hSV; go_simp; try with_reducible rfl)
  (try simp only [Act.put, List.setIfInBounds_toArray, List.set_cons_zero, List.set_cons_succ])
  refine wpAnyH_ready (rs := [11]) (by kernel_rfl) (by simp) ?_
  refine AllReadyH.cons rfl (fun K hK => ?_) AllReadyH.nil
  go_simp
  refine (implRopeText_any Ag R cg _ hR9 (by exact hT.below (below_then HB.out H1.out)) (by exact RG.out.cs.below H1.out)).mono ?_
  rintro e v2 ⟨x2, rfl, hown, hb⟩
  rw [HU.out] at hown
  obtain ⟨D2, d2, rfl, _, _, hB2⟩ := hown.form
  have hd2 := run_conv_bs d2 _ rfl hB2
  clear hown hB2
  have hb : Below v1.heap.size v1 v2 := ⟨hb.os, hb.tape, hb.output, hb.size, hb.block⟩
  have H2 := Lib.hid (below_then H1.out hb)
  clear hb
  go_wp2_with fail
  refine hK.out _ _ (by exact ⟨((H2.out).cell (p := ⟨w5.heap.size, 0, none⟩) zJ).trans kJ, ((H2.out).cell (p := ⟨w4.heap.size, 0, none⟩) zG).trans kG, ((H2.out).cell (p := ⟨w4.heap.size + 1, 0, none⟩) zH).trans kH, ((H2.out).cell (p := ⟨w1.heap.size, 0, none⟩) zV).trans kV, run_conv_bs ct t.length rfl (HBt.out.below H2.out), run_conv_bs ct p HUL.out (HBu.out.below H2.out)⟩) (fun hHeld => ?_)
  clear hK K
  (try simp only [Act.put, List.setIfInBounds_toArray, List.set_cons_zero, List.set_cons_succ])
  refine wpAnyH_ready (rs := [12]) (by kernel_rfl) (by simp) ?_
  refine AllReadyH.cons (o := ?_) ?_ (fun K hK => ?_) AllReadyH.nil
  rotate_left 1
  · (simp only [List.getElem?_toArray, List.getElem?_cons_zero, List.getElem?_cons_succ]; try rfl)
  go_simp
  refine hK.out _ _ (by exact ⟨((H2.out).cell (p := ⟨w5.heap.size, 0, none⟩) zJ).trans kJ, ((H2.out).cell (p := ⟨w4.heap.size, 0, none⟩) zG).trans kG, ((H2.out).cell (p := ⟨w4.heap.size + 1, 0, none⟩) zH).trans kH, ((H2.out).cell (p := ⟨w1.heap.size, 0, none⟩) zV).trans kV, run_conv_bs ct t.length rfl (HBt.out.below H2.out), run_conv_bs ct p HUL.out (HBu.out.below H2.out)⟩) (fun hHeld => ?_)
  clear hK K
  (try simp only [Act.put, List.setIfInBounds_toArray, List.set_cons_zero, List.set_cons_succ])
  refine wpAnyH_take (i := 17) (oi := ?_) (v := ?_) ?_ ?_ ?_ ?_ ?_ ?_ (by exact hHeld) ?_
  rotate_left 2
  · (simp only [List.getElem?_toArray, List.getElem?_cons_zero, List.getElem?_cons_succ]; try rfl)
  · kernel_rfl
  · kernel_rfl
  · kernel_rfl
  · exact fun _ _ _ h => h
  · refine Or.inl ⟨by rfl, ?_⟩
    (intro V hSV; (try dsimp only at hSV); obtain ⟨q0, q1, q2, q3, q4, q5⟩ := hSV; go_simp; try with_reducible rfl)
  (try simp only [Act.put, List.setIfInBounds_toArray, List.set_cons_zero, List.set_cons_succ])
  refine wpAnyH_take (i := 18) (oi := ?_) (v := ?_) ?_ ?_ ?_ ?_ ?_ ?_ (by exact hHeld) ?_
  rotate_left 2
  · (simp only [List.getElem?_toArray, List.getElem?_cons_zero, List.getElem?_cons_succ]; try rfl)
  · kernel_rfl
  · kernel_rfl
  · kernel_rfl
  · exact fun _ _ _ h => h
  · refine Or.inl ⟨by rfl, ?_⟩
    (intro V hSV; (try dsimp only at hSV); obtain ⟨q0, q1, q2, q3, q4, q5⟩ := hSV; go_simp; try with_reducible rfl)
  (try simp only [Act.put, List.setIfInBounds_toArray, List.set_cons_zero, List.set_cons_succ])
  refine wpAnyH_take (i := 19) (oi := ?_) (v := ?_) ?_ ?_ ?_ ?_ ?_ ?_ (by exact hHeld) ?_
  rotate_left 2
  · (simp only [List.getElem?_toArray, List.getElem?_cons_zero, List.getElem?_cons_succ]; try rfl)
  · kernel_rfl
  · kernel_rfl
  · kernel_rfl
  · exact fun _ _ _ h => h
  · refine Or.inl ⟨by rfl, ?_⟩
    (intro V hSV; (try dsimp only at hSV); obtain ⟨q0, q1, q2, q3, q4, q5⟩ := hSV; go_simp; try with_reducible rfl)
  (try simp only [Act.put, List.setIfInBounds_toArray, List.set_cons_zero, List.set_cons_succ])
  refine wpAnyH_take (i := 20) (oi := ?_) (v := ?_) ?_ ?_ ?_ ?_ ?_ ?_ (by exact hHeld) ?_
  rotate_left 2
  · (simp only [List.getElem?_toArray, List.getElem?_cons_zero, List.getElem?_cons_succ]; try rfl)
  · kernel_rfl
  · kernel_rfl
  · kernel_rfl
  · exact fun _ _ _ h => h
  · refine Or.inl ⟨by rfl, ?_⟩
    (intro V hSV; (try dsimp only at hSV); obtain ⟨q0, q1, q2, q3, q4, q5⟩ := hSV; go_simp; try with_reducible rfl)
  (try simp only [Act.put, List.setIfInBounds_toArray, List.set_cons_zero, List.set_cons_succ])
  refine wpAnyH_take (i := 22) (oi := ?_) (v := ?_) ?_ ?_ ?_ ?_ ?_ ?_ (by exact hHeld) ?_
  rotate_left 2
  · (simp only [List.getElem?_toArray, List.getElem?_cons_zero, List.getElem?_cons_succ]; try rfl)
  · kernel_rfl
  · kernel_rfl
  · kernel_rfl
  · exact fun _ _ _ h => h
  · refine Or.inl ⟨by rfl, ?_⟩
    (intro V hSV; (try dsimp only at hSV); obtain ⟨q0, q1, q2, q3, q4, q5⟩ := hSV; go_simp; try with_reducible rfl)
  (try simp only [Act.put, List.setIfInBounds_toArray, List.set_cons_zero, List.set_cons_succ])
  refine wpAnyH_take (i := 25) (oi := ?_) (v := ?_) ?_ ?_ ?_ ?_ ?_ ?_ (by exact hHeld) ?_
  rotate_left 2
  · (simp only [List.getElem?_toArray, List.getElem?_cons_zero, List.getElem?_cons_succ]; try rfl)
  · kernel_rfl
  · kernel_rfl
  · kernel_rfl
  · exact fun _ _ _ h => h
  · refine Or.inl ⟨by rfl, ?_⟩
    (intro V hSV; (try dsimp only at hSV); obtain ⟨q0, q1, q2, q3, q4, q5⟩ := hSV; go_simp; try with_reducible rfl)
  (try simp only [Act.put, List.setIfInBounds_toArray, List.set_cons_zero, List.set_cons_succ])
  refine wpAnyH_ready (rs := [21]) (by kernel_rfl) (by simp) ?_
  refine AllReadyH.cons rfl (fun K hK => ?_) AllReadyH.nil
  go_simp
  refine (implRopeMeas_any Ag R cg _ hR9 (by exact hT.below (below_then HB.out H2.out)) (by exact RG.out.cs.below H2.out)).mono ?_
  rintro e v3 ⟨rfl, hb⟩
  rw [EB1.out, ER1.out, EL1.out]
  unfold meas
  have hb : Below v2.heap.size v2 v3 := ⟨hb.os, hb.tape, hb.output, hb.size, hb.block⟩
  have H3 := Lib.hid (below_then H2.out hb)
  clear hb
  go_wp2_with fail
  refine hK.out _ _ (by exact ⟨((H3.out).cell (p := ⟨w5.heap.size, 0, none⟩) zJ).trans kJ, ((H3.out).cell (p := ⟨w4.heap.size, 0, none⟩) zG).trans kG, ((H3.out).cell (p := ⟨w4.heap.size + 1, 0, none⟩) zH).trans kH, ((H3.out).cell (p := ⟨w1.heap.size, 0, none⟩) zV).trans kV, run_conv_bs ct t.length rfl (HBt.out.below H3.out), run_conv_bs ct p HUL.out (HBu.out.below H3.out)⟩) (fun hHeld => ?_)
  clear hK K
  (try simp only [Act.put, List.setIfInBounds_toArray, List.set_cons_zero, List.set_cons_succ])
  refine wpAnyH_ready (rs := [23]) (by kernel_rfl) (by simp) ?_
  refine AllReadyH.cons rfl (fun K hK => ?_) AllReadyH.nil
  go_simp
  refine (implRopeMeas_any Ah S ch _ hS9 (by exact hT.below (below_then HB.out H3.out)) (by exact RH.out.cs.below H3.out)).mono ?_
  rintro e v4 ⟨rfl, hb⟩
  rw [EB2.out, ER2.out, EL2.out]
  unfold meas
  have hb : Below v3.heap.size v3 v4 := ⟨hb.os, hb.tape, hb.output, hb.size, hb.block⟩
  have H4 := Lib.hid (below_then H3.out hb)
  clear hb
  go_wp2_with fail
  refine hK.out _ _ (by exact ⟨((H4.out).cell (p := ⟨w5.heap.size, 0, none⟩) zJ).trans kJ, ((H4.out).cell (p := ⟨w4.heap.size, 0, none⟩) zG).trans kG, ((H4.out).cell (p := ⟨w4.heap.size + 1, 0, none⟩) zH).trans kH, ((H4.out).cell (p := ⟨w1.heap.size, 0, none⟩) zV).trans kV, run_conv_bs ct t.length rfl (HBt.out.below H4.out), run_conv_bs ct p HUL.out (HBu.out.below H4.out)⟩) (fun hHeld => ?_)
  clear hK K
  (try simp only [Act.put, List.setIfInBounds_toArray, List.set_cons_zero, List.set_cons_succ])
  refine wpAnyH_ready (rs := [24]) (by kernel_rfl) (by simp) ?_
  refine AllReadyH.cons rfl (fun K hK => ?_) AllReadyH.nil
  go_simp
  refine (implMeasAdd_any b1 r1 l1 b2 r2 l2 _).mono ?_
  rintro e v5 ⟨rfl, hb⟩
  rw [HM0.out, HM0.out, HM0.out, HM1.out, HM2.out, HM3.out]
  unfold meas
  have hb : Below v4.heap.size v4 v5 := ⟨hb.os, hb.tape, hb.output, hb.size, hb.block⟩
  have H5 := Lib.hid (below_then H4.out hb)
  clear hb
  go_wp2_with fail
  refine hK.out _ _ (by exact ⟨((H5.out).cell (p := ⟨w5.heap.size, 0, none⟩) zJ).trans kJ, ((H5.out).cell (p := ⟨w4.heap.size, 0, none⟩) zG).trans kG, ((H5.out).cell (p := ⟨w4.heap.size + 1, 0, none⟩) zH).trans kH, ((H5.out).cell (p := ⟨w1.heap.size, 0, none⟩) zV).trans kV, run_conv_bs ct t.length rfl (HBt.out.below H5.out), run_conv_bs ct p HUL.out (HBu.out.below H5.out)⟩) (fun hHeld => ?_)
  clear hK K
  (try simp only [Act.put, List.setIfInBounds_toArray, List.set_cons_zero, List.set_cons_succ])
  refine wpAnyH_ready (rs := [26]) (by kernel_rfl) (by simp) ?_
  refine AllReadyH.cons rfl (fun K hK => ?_) AllReadyH.nil
  go_simp
  refine (implRopeMeas_any A1 L c1 _ hL9 (by exact hT.below (below_then HB.out H5.out)) (by exact HC.out.below H5.out)).mono ?_
  rintro e v6 ⟨rfl, hb⟩
  rw [EB3.out, ER3.out, EL3.out]
  unfold meas
  have hb : Below v5.heap.size v5 v6 := ⟨hb.os, hb.tape, hb.output, hb.size, hb.block⟩
  have H6 := Lib.hid (below_then H5.out hb)
  clear hb
  go_wp2_with fail
  refine hK.out _ _ (by exact ⟨((H6.out).cell (p := ⟨w5.heap.size, 0, none⟩) zJ).trans kJ, ((H6.out).cell (p := ⟨w4.heap.size, 0, none⟩) zG).trans kG, ((H6.out).cell (p := ⟨w4.heap.size + 1, 0, none⟩) zH).trans kH, ((H6.out).cell (p := ⟨w1.heap.size, 0, none⟩) zV).trans kV, run_conv_bs ct t.length rfl (HBt.out.below H6.out), run_conv_bs ct p HUL.out (HBu.out.below H6.out)⟩) (fun hHeld => ?_)
  clear hK K
  (try simp only [Act.put, List.setIfInBounds_toArray, List.set_cons_zero, List.set_cons_succ])
  refine wpAnyH_take (i := 27) (oi := ?_) (v := ?_) ?_ ?_ ?_ ?_ ?_ ?_ (by exact hHeld) ?_
  rotate_left 2
  · (simp only [List.getElem?_toArray, List.getElem?_cons_zero, List.getElem?_cons_succ]; try rfl)
  · kernel_rfl
  · kernel_rfl
  · kernel_rfl
  · exact fun _ _ _ h => h
  · refine Or.inl ⟨by rfl, ?_⟩
    (intro V hSV; (try dsimp only at hSV); obtain ⟨q0, q1, q2, q3, q4, q5⟩ := hSV; go_simp; try with_reducible rfl)
  (try simp only [Act.put, List.setIfInBounds_toArray, List.set_cons_zero, List.set_cons_succ])
  refine wpAnyH_take (i := 28) (oi := ?_) (v := ?_) ?_ ?_ ?_ ?_ ?_ ?_ (by exact hHeld) ?_
  rotate_left 2
  · (simp only [List.getElem?_toArray, List.getElem?_cons_zero, List.getElem?_cons_succ]; try rfl)
  · kernel_rfl
  · kernel_rfl
  · kernel_rfl
  · exact fun _ _ _ h => h
  · refine Or.inl ⟨by rfl, ?_⟩
    (intro V hSV; (try dsimp only at hSV); obtain ⟨q0, q1, q2, q3, q4, q5⟩ := hSV; go_simp; try with_reducible rfl)
  (try simp only [Act.put, List.setIfInBounds_toArray, List.set_cons_zero, List.set_cons_succ])
  refine wpAnyH_take (i := 29) (oi := ?_) (v := ?_) ?_ ?_ ?_ ?_ ?_ ?_ (by exact hHeld) ?_
  rotate_left 2
  · (simp only [List.getElem?_toArray, List.getElem?_cons_zero, List.getElem?_cons_succ]; try rfl)
  · kernel_rfl
  · kernel_rfl
  · kernel_rfl
  · exact fun _ _ _ h => h
  · refine Or.inl ⟨by rfl, ?_⟩
    (intro V hSV; (try dsimp only at hSV); obtain ⟨q0, q1, q2, q3, q4, q5⟩ := hSV; go_simp; try with_reducible rfl)
  (try simp only [Act.put, List.setIfInBounds_toArray, List.set_cons_zero, List.set_cons_succ])
  refine wpAnyH_done (by kernel_rfl) ?_ _
  clear hHeld hcv1 hcv2 kJ kG kH kV
  have HB := Lib.hid (below_then HB.out H6.out)
  go_wp2
  go_ret
  exact ⟨rfl, HB.out⟩

end Go.Proofs.YthnahenpnafkmaaDoor.fnRopeSplit
