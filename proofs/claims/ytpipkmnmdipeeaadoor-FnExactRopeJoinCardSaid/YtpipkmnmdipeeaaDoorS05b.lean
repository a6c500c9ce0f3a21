/-
  Chapter 4, the model's RopeJoin: contract. Own work.
-/
import Derived.Test.YtpipkmnmdipeeaaDoorS05
import Derived.Deep.RegionHeld3
namespace Go.Proofs.YtpipkmnmdipeeaaDoor
open Go.RowKit P
set_option linter.unusedVariables false
set_option linter.unusedSimpArgs false
set_option maxRecDepth 100000

def joinOk (ls rs : List (List UInt8)) : Bool := chunksOk ls && (chunksOk rs && decide ((chunksText ls).length + (chunksText rs).length ≤ 400))
def joinR (ls rs : List (List UInt8)) : List (List UInt8) := if joinOk ls rs = true then ls ++ rs else []

/-- What stands in memory when RopeJoin of the model begins. -/
structure JIn (w W : World) (A B : Option Addr) (ls rs : List (List UInt8)) (c d : Nat) : Prop where
  bel : Below w.heap.size w W
  k0 : W.cell? ⟨w.heap.size, 0, none⟩ = some (.slice A ls.length c)
  k1 : W.cell? ⟨w.heap.size + 1, 0, none⟩ = some (.slice B rs.length d)
  res : Blk W (w.heap.size + 2) #[.slice none 0 0] 29
  l : Cs W A ls
  r : Cs W B rs
theorem JIn.below {w W W' : World} {A B : Option Addr} {ls rs : List (List UInt8)} {c d : Nat} (h : JIn w W A B ls rs c d) (hb : Below W.heap.size W W') : JIn w W' A B ls rs c d := by
  have hz := h.res.lt
  exact ⟨below_then h.bel hb, (hb.cell (p := ⟨w.heap.size, 0, none⟩) (by show w.heap.size < _; omega)).trans h.k0, (hb.cell (p := ⟨w.heap.size + 1, 0, none⟩) (by show w.heap.size + 1 < _; omega)).trans h.k1, h.res.below hb, h.l.below hb, h.r.below hb⟩
theorem JIn.start (w : World) (A B : Option Addr) (ls rs : List (List UInt8)) (c d : Nat) (hC : Cs w A ls) (hD : Cs w B rs) :
    JIn w (((w.alloc (.cells #[.slice A ls.length c] 29)).alloc (.cells #[.slice B rs.length d] 29)).alloc (.cells #[.slice none 0 0] 29)) A B ls rs c d := by
  have hb := (((Below.refl w.heap.size w).alloc (Nat.le_refl _) (.cells #[.slice A ls.length c] 29)).alloc (by simp) (.cells #[.slice B rs.length d] 29)).alloc (by simp; omega) (.cells #[.slice none 0 0] 29)
  refine ⟨hb, ?_, ?_, ?_, hC.below hb, hD.below hb⟩
  · exact (((Blk.new w #[.slice A ls.length c] 29).alloc _).alloc _).cell 0
  · have := ((Blk.new (w.alloc (.cells #[.slice A ls.length c] 29)) #[.slice B rs.length d] 29).alloc (.cells #[.slice none 0 0] 29)).cell 0
    simpa using this
  · have := Blk.new ((w.alloc (.cells #[.slice A ls.length c] 29)).alloc (.cells #[.slice B rs.length d] 29)) #[.slice none 0 0] 29
    simpa using this

theorem joinR_no {ls rs : List (List UInt8)} (h : joinOk ls rs = false) : joinR ls rs = [] := by unfold joinR; rw [h]; rfl
theorem givesRB_no {w w1 : World} {b : Nat} (hb : Below w.heap.size w w1) (h : w.heap.size ≤ b) : GivesRB [] false w (.returned (.tuple #[.agg #[.slice none 0 0], .bool false])) (w1.setCell ⟨b, 0, none⟩ (.slice none 0 0)) :=
  ⟨_, [], rfl, Lay.slice_nil _ _ _, by simp, by simp, hb.setCell h _⟩

set_option maxHeartbeats 8000000 in
theorem specRopeJoin_yes (A B : Option Addr) (ls rs : List (List UInt8)) (c d : Nat) (w : World) (hC : Cs w A ls) (hD : Cs w B rs) (hq1 : chunksOk ls = true) (hq2 : chunksOk rs = true) :
    Calls Tryd.prog 39 #[.agg #[.slice A ls.length c], .agg #[.slice B rs.length d]] w (GivesRB (joinR ls rs) (joinOk ls rs) w) := by
  have J0 := Lib.hid (JIn.start w A B ls rs c d hC hD)
  have hn : ls.length ≤ 1000000 := by have := chunksOk_len hq1; omega
  have hm : rs.length ≤ 1000000 := by have := chunksOk_len hq2; omega
  have he1 : ∀ x ∈ ls, x.length ≤ 1000000 := fun x hx => by have := (chunksOk_all hq1).1 x hx; rw [chunkOk_iff] at this; omega
  have he2 : ∀ x ∈ rs, x.length ≤ 1000000 := fun x hx => by have := (chunksOk_all hq2).1 x hx; rw [chunkOk_iff] at this; omega
  obtain ⟨z, hz⟩ : ∃ z, joinOk ls rs = z := ⟨_, rfl⟩
  rw [hz]
  have hno : z = false → joinR ls rs = [] := fun h => joinR_no (hz.trans h)
  have hyes : z = true → joinR ls rs = ls ++ rs := fun h => by unfold joinR; rw [if_pos (hz.trans h)]
  generalize joinR ls rs = R at *
  have hzd : decide ((400 : Int) < ((chunksText ls).length : Int) + ((chunksText rs).length : Int)) = !z := by
    rw [← hz]
    unfold joinOk
    rw [hq1, hq2, Bool.true_and, Bool.true_and]
    by_cases h : (chunksText ls).length + (chunksText rs).length ≤ 400
    · rw [decide_eq_true h, decide_eq_false (by omega)]; rfl
    · rw [decide_eq_false h, decide_eq_true (by omega)]; rfl
  have hl1 := chunksText_len ls
  have hl2 := chunksText_len rs
  obtain ⟨T1, hT1⟩ : ∃ T, chunksText ls = T := ⟨_, rfl⟩
  obtain ⟨T2, hT2⟩ : ∃ T, chunksText rs = T := ⟨_, rfl⟩
  rw [hT1] at hzd hl1
  rw [hT2] at hzd hl2
  have HT1 := Lib.hid hT1
  have HT2 := Lib.hid hT2
  have HQ1 := Lib.hid hq1
  have HQ2 := Lib.hid hq2
  have HNO := Lib.hid hno
  have HYES := Lib.hid hyes
  have HE1 := Lib.hid he1
  have HE2 := Lib.hid he2
  clear hq1 hq2 hz hno hyes hT1 hT2 hC hD he1 he2
  go_enter Tryd.func39, Tryd.ntmps39
  go_wp2_with fail
  generalize ((w.alloc (.cells #[.slice A ls.length c] 29)).alloc (.cells #[.slice B rs.length d] 29)).alloc (.cells #[.slice none 0 0] 29) = W0 at *
  have a0 := J0.out.k0
  have a1 := J0.out.k1
  go_region_held3 (fun V => V.cell? ⟨w.heap.size, 0, none⟩ = some (.slice A ls.length c) ∧ V.cell? ⟨w.heap.size + 1, 0, none⟩ = some (.slice B rs.length d)) (exact ⟨(by first | exact a0 | exact b0 | exact c0 | exact d0 | exact e0), (by first | exact a1 | exact b1 | exact c1 | exact d1 | exact e1)⟩) (first
    | (go_at_call_of 16 (Value.agg #[Value.slice A ls.length c]); refine (specRopeOk_any A ls c _ (by omega) (by exact J0.out.l)).mono ?_; rintro e w1 ⟨rfl, hb1⟩; rw [HQ1.out]; have J1 := Lib.hid (J0.out.below ⟨hb1.os, hb1.tape, hb1.output, hb1.size, hb1.block⟩); have b0 := J1.out.k0; have b1 := J1.out.k1; clear hb1)
    | (go_at_call_of 16 (Value.agg #[Value.slice B rs.length d]); refine (specRopeOk_any B rs d _ (by omega) (by exact J1.out.r)).mono ?_; rintro e w2 ⟨rfl, hb2⟩; rw [HQ2.out]; have J2 := Lib.hid (J1.out.below ⟨hb2.os, hb2.tape, hb2.output, hb2.size, hb2.block⟩); have c0 := J2.out.k0; have c1 := J2.out.k1; clear hb2)
    | (go_at_call_of 27 (Value.agg #[Value.slice A ls.length c]); refine (specRopeText_any A ls c _ (by omega) (by exact J2.out.l)).mono ?_; rintro e w3 ⟨v3, rfl, hown3, hb3⟩; rw [HT1.out] at hown3; obtain ⟨Q3, q3, rfl, _, _, _⟩ := hown3.form; have J3 := Lib.hid (J2.out.below ⟨hb3.os, hb3.tape, hb3.output, hb3.size, hb3.block⟩); have d0 := J3.out.k0; have d1 := J3.out.k1; clear hb3 hown3)
    | (go_at_call_of 27 (Value.agg #[Value.slice B rs.length d]); refine (specRopeText_any B rs d _ (by omega) (by exact J3.out.r)).mono ?_; rintro e w4 ⟨v4, rfl, hown4, hb4⟩; rw [HT2.out] at hown4; obtain ⟨Q4, q4, rfl, _, _, _⟩ := hown4.form; have J4 := Lib.hid (J3.out.below ⟨hb4.os, hb4.tape, hb4.output, hb4.size, hb4.block⟩); have e0 := J4.out.k0; have e1 := J4.out.k1; clear hb4 hown4))
  have r4 : w4.cell? ⟨w.heap.size + 1 + 1, 0, none⟩ = some (.slice none 0 0) := J4.out.res.cell 0
  have f4 : w4.frozen? ⟨w.heap.size + 1 + 1, 0, none⟩ = false := J4.out.res.frozen 0
  have hw9 : IntKind.i64.wrap ((T1.length : Int) + (T2.length : Int)) = (T1.length : Int) + (T2.length : Int) := IntWalk.i64_in _ ⟨by omega, by omega⟩
  rw [hw9, hzd]
  clear hzd hw9 a0 a1 b0 b1 c0 c1 d0 d1 J0 J1 J2 J3
  cases z
  · have hR := HNO.out (by first | rfl | trivial)
    subst hR
    have hfin := givesRB_no (w := w) (b := w.heap.size + 1 + 1) J4.out.bel (by omega)
    go_wp2
    refine bodyPost_ret (v := .tuple #[.agg #[.slice none 0 0], .bool false]) (by simp [results, Tryd.results39, go_sem, r4]) rfl hfin
  · have hR := HYES.out (by first | rfl | trivial)
    subst hR
    have hz4 : w.heap.size + 2 < w4.heap.size := J4.out.res.lt
    go_wp2_with fail
    go_region_held3 (fun V => V.cell? ⟨w.heap.size, 0, none⟩ = some (.slice A ls.length c) ∧ V.cell? ⟨w.heap.size + 1, 0, none⟩ = some (.slice B rs.length d)) (exact ⟨(by first | exact e0 | exact g0 | exact h0 | exact m0 | exact ((World.cell?_of_block (Below.heap_setCell w7 _ _ w.heap.size (by show w.heap.size ≠ w.heap.size + 1 + 1; omega))).trans m0)), (by first | exact e1 | exact g1 | exact h1 | exact m1 | exact ((World.cell?_of_block (Below.heap_setCell w7 _ _ (w.heap.size + 1) (by show w.heap.size + 1 ≠ w.heap.size + 1 + 1; omega))).trans m1))⟩) (first
      | (go_at_call_of 66 (Value.slice A ls.length c); refine (l04Copy_any A ls c _ hn HE1.out (by exact J4.out.l)).mono ?_; rintro e w5 ⟨cs5, fp5, rfl, how5, hnd5, hfp5, hb5⟩; have hb5 : Below w4.heap.size w4 w5 := ⟨hb5.os, hb5.tape, hb5.output, hb5.size, hb5.block⟩; have hfp5 : ∀ k ∈ fp5, w4.heap.size ≤ k := hfp5; obtain ⟨Q5, q5, rfl, _, _, _⟩ := Lay.chunks.read how5; unfold wSlice; have J5 := Lib.hid (J4.out.below hb5); have g0 := J5.out.k0; have g1 := J5.out.k1; have HO5 := Lib.hid how5; have hlt5 := Lib.hid (Lay.chunks.lt how5); have HF5 := Lib.hid hfp5; have hs5 := hb5.size; clear how5 hfp5 hb5)
      | (go_at_call_of 66 (Value.slice B rs.length d); refine (l04Copy_any B rs d _ hm HE2.out (by exact J5.out.r)).mono ?_; rintro e w6 ⟨cs6, fp6, rfl, how6, hnd6, hfp6, hb6⟩; have hb6 : Below w5.heap.size w5 w6 := ⟨hb6.os, hb6.tape, hb6.output, hb6.size, hb6.block⟩; have hfp6 : ∀ k ∈ fp6, w5.heap.size ≤ k := hfp6; obtain ⟨Q6, q6, rfl, _, _, _⟩ := Lay.chunks.read how6; unfold wSlice; have J6 := Lib.hid (J5.out.below hb6); have h0 := J6.out.k0; have h1 := J6.out.k1; have HO6 := Lib.hid how6; have HO5b := Lib.hid (Lay.chunks.owBelow HO5.out hb6); have HF6 := Lib.hid hfp6; have hs6 := hb6.size; clear how6 hfp6 hb6)
      | (refine step_app_many rfl (.tmp 27) (.tmp 30) 27 rfl 72 Lay.bytes (.agg #[.slice none 0 0]) 1 24 Tryd.underlying27 Tryd.infoCh rfl rfl (by decide) (by decide) (.slice Q5 ls.length q5) ls rs fp5 fp6 Q6 rs.length q6 rfl rfl (by exact HO5b.out) hnd5 (by exact HO6.out) hnd6 w5.heap.size hlt5.out HF6.out hn hm ?_; intro v7 w7 fp7 how7 hnd7 hfp7 hgr; have hk7 := Keeps.of_grown hgr; have hno7 : ∀ k ∈ (Value.slice Q5 ls.length q5).ownBlock.toList, w4.heap.size ≤ k := (fun k hk => HF5.out k (by obtain ⟨es, _, _, _, e⟩ := ow_one HO5b.out; rw [e]; exact List.mem_append.2 (.inl hk))); have m0 : w7.cell? ⟨w.heap.size, 0, none⟩ = some (.slice A ls.length c) := (World.cell?_of_block (hk7.block w.heap.size (by omega) (fun h => by have := hno7 _ h; omega))).trans h0; have m1 : w7.cell? ⟨w.heap.size + 1, 0, none⟩ = some (.slice B rs.length d) := (World.cell?_of_block (hk7.block (w.heap.size + 1) (by omega) (fun h => by have := hno7 _ h; omega))).trans h1; have r7 : Blk w7 (w.heap.size + 2) #[.slice none 0 0] 29 := J6.out.res.of_block (hk7.block (w.heap.size + 2) (by omega) (fun h => by have := hno7 _ h; omega)); have HB7 : Hid (Below w.heap.size w w7) := Lib.hid (J6.out.bel.trans (hk7.below (B := w.heap.size) (J6.out.bel.size) (fun k hk => by have := hno7 k hk; omega))); obtain ⟨Q7, q7, rfl, _, _, _⟩ := Lay.chunks_rd (Lay.chunks.read how7); have HO7 := Lib.hid how7; have HF7 := Lib.hid hfp7; have p7 : w7.cell? ⟨w.heap.size + 1 + 1, 0, none⟩ = some (.slice none 0 0) := r7.cell 0; have p7f : w7.frozen? ⟨w.heap.size + 1 + 1, 0, none⟩ = false := r7.frozen 0; clear how7 hfp7 hgr hk7))
    have hfin : GivesRB (ls ++ rs) true w (.returned (.tuple #[.agg #[.slice Q7 (ls ++ rs).length q7], .bool true])) (w7.setCell ⟨w.heap.size + 1 + 1, 0, none⟩ (.slice Q7 (ls ++ rs).length q7)) := by
      have hall : ∀ k ∈ fp7, w4.heap.size ≤ k := fun k hk => by
        rcases HF7.out k hk with h | h | h
        · exact HF5.out k h
        · have := HF6.out k h; omega
        · omega
      exact ⟨_, fp7, rfl, Lay.chunks_setBelow HO7.out (fun h => by have : w4.heap.size ≤ w.heap.size + 1 + 1 := hall _ h; omega) _, hnd7, fun k hk => by have := hall k hk; omega, HB7.out.setCell (p := ⟨w.heap.size + 1 + 1, 0, none⟩) (by show w.heap.size ≤ w.heap.size + 1 + 1; omega) _⟩
    rw [List.length_append] at hfin
    go_wp2
    refine bodyPost_ret (v := .tuple #[.agg #[.slice Q7 (ls.length + rs.length) q7], .bool true]) (by simp [results, Tryd.results39, go_sem, p7]) rfl hfin
end Go.Proofs.YtpipkmnmdipeeaaDoor
