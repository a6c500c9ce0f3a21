/-
  Chapter 2, ChunksOf of the model: contract. Own work.
-/
import Derived.Test.YthnahenpnafkmaaDoorI02g
import Derived.Test.YthnahenpnafkmaaDoorS01
import Derived.Test.YthnahenpnafkmaaDoorBlk
namespace Go.Proofs.YthnahenpnafkmaaDoor
open Go.RowKit P
set_option linter.unusedVariables false

set_option maxHeartbeats 4000000 in
theorem specChunksOf_any (A : Option Addr) (l : List UInt8) (c : Nat) (w : World) (hl : l.length ≤ c) (hc9 : c ≤ 9223372036854775807) (hA : Bs w A l) :
    Calls Tryd.prog 39 #[.slice A l.length c] w (Gives Lay.chunks wSlice (chunksOf l) w) := by
  generalize hq : isText l = q
  have HQ := Lib.hid hq
  cases q
  · have hr : chunksOf l = [] := by unfold chunksOf; rw [hq]; rfl
    have HR := Lib.hid hr
    clear hq hr
    go_enter Tryd.func39, Tryd.ntmps39
    go_wp2_with fail
    refine (specTextOk_any A l c _ hl hc9 (by exact hA)).mono ?_
    rintro e w1 ⟨rfl, hb1⟩
    rw [HQ.out]
    go_wp2
    go_ret
    rw [HR.out]
    exact ⟨_, _, rfl, Lay.slice_nil _ _ _, by simp, by simp, hb1⟩
  · have hlen := isText_len hq
    have hok := isText_ok hq
    have hr : chunksOf l = chunksL l.length l := by unfold chunksOf; rw [hq]; rfl
    have HR := Lib.hid hr
    have HOK0 := Lib.hid hok
    clear hq hr hok
    go_enter Tryd.func39, Tryd.ntmps39
    go_wp2_with fail
    refine (specTextOk_any A l c _ hl hc9 (by exact hA)).mono ?_
    rintro e w1 ⟨rfl, hb1⟩
    rw [HQ.out]
    have hs1 := hb1.size
    have hb1a := hb1.alloc hs1 (.cells #[] 46)
    have how0 := Lay.slice_empty 46 Lay.bytes w1
    go_wp2
    go_loopw [3, 4, 5] (fun list at_ _ wr => ∃ (p : Nat) (v : Value) (L : List (List UInt8)) (fp : List Nat), at_ = .int .i64 p ∧ list = v ∧ p ≤ l.length ∧ L.length ≤ p ∧ Hid (okS 0 (l.drop p) = true) ∧
        Lay.chunks.ow wr [v] L fp ∧ fp.Nodup ∧ (∀ k ∈ fp, w.heap.size ≤ k ∧ k < wr.heap.size) ∧ Hid (L ++ chunksL (l.drop p).length (l.drop p) = chunksOf l) ∧ Below w.heap.size w wr) (fun _ at_ _ _ => l.length - (intOf at_).toNat)
    case atStart => exact ⟨0, _, [], [w1.heap.size], rfl, rfl, Nat.zero_le _, Nat.le_refl _, Lib.hid (by simpa using HOK0.out), how0, by simp, by intro k hk; simp at hk; subst hk; exact ⟨hs1, by simp⟩, Lib.hid (by rw [HR.out]; simp), hb1a⟩
    case round =>
      obtain ⟨p, v, L, fp, rfl, rfl, hpl, hLp, HOK, how, hnd, hfp, HE, hb⟩ := hrel
      by_cases hlt : p < l.length
      · have hrne : l.drop p ≠ [] := by intro e; have := congrArg List.length e; rw [List.length_drop, List.length_nil] at this; omega
        have hdl : (l.drop p).length = l.length - p := List.length_drop
        have hcp := cut_pos HOK.out hrne
        have hcl := cut_le (l.drop p)
        have hst := chunksL_step HOK.out hrne
        have hnx := okS_of_bound HOK.out hcl.1 (cut_bound HOK.out)
        have hstep : ∀ e : Nat, e < (l.drop p).length → isBound (l.drop p) (e : Int) = true → e ≤ cut (l.drop p) → _ := fun e h1 h2 h3 => cut_step HOK.out h1 h2 h3
        obtain ⟨k, hk⟩ : ∃ k, cut (l.drop p) = k := ⟨_, rfl⟩
        rw [hk] at hcp hcl hst hnx
        have HSTEP := Lib.hid hstep
        have HST := Lib.hid hst
        have HNX := Lib.hid hnx
        have HK := Lib.hid hk
        have HDL := Lib.hid hdl
        have hpk : p + k ≤ l.length := by omega
        have hk16 := hcl.2
        clear hstep hst hnx hk hcl hrne hdl
        obtain ⟨wo, hwo⟩ : ∃ wo : World, wo = wr := ⟨_, rfl⟩
        subst hwo
        go_wp2
        go_loopw [5] (fun en wr => ∃ (q : Nat), en = .int .i64 q ∧ p ≤ q ∧ q ≤ p + k ∧ Hid (isBound (l.drop p) ((q - p : Nat) : Int) = true) ∧ Below wo.heap.size wo wr) (fun en _ => l.length - (intOf en).toNat)
        case atStart => exact ⟨p, rfl, Nat.le_refl _, by omega, Lib.hid (by rw [Nat.sub_self]; exact isBound_zero _ HOK.out), Below.refl _ _⟩
        case round =>
          obtain ⟨q, rfl, hpq, hqk, HB, hbr⟩ := hrel
          have hbw := below_then hb hbr
          have hAr := hA.below hbw
          -- what stands behind the inner loop
          have hi2' : (l.length : Int) ≤ 400 := by omega
          by_cases hend : q < l.length
          · have hstp := HSTEP.out (q - p) (by rw [HDL.out]; omega) HB.out (by rw [HK.out]; omega)
            have hz : runeSize l (q : Int) = sz ((l.drop p).drop (q - p)) := by rw [runeSize_at l q hend, List.drop_drop]; congr 2; omega
            rw [HK.out] at hstp
            obtain ⟨z, hze⟩ : ∃ z, sz ((l.drop p).drop (q - p)) = z := ⟨_, rfl⟩
            rw [hze] at hstp hz
            obtain ⟨g1, g2, g3, g4, g5⟩ := hstp
            have HZ := Lib.hid hz
            have HG3 := Lib.hid g3
            have hz4 : z ≤ 4 := by rw [← hze]; exact sz_le4 _
            clear hz hze g3
            by_cases hlk : q - p < k
            · have h16 := g4.1 hlk
              have hzk := g5 hlk
              have hi1 : (q : Int) + (z : Int) - (p : Int) ≤ 16 := by omega
              have hi2 : (q : Int) < (l.length : Int) := by omega
              have hz0 : 0 < z := by omega
              clear g1 g2 g4 g5
              go_wp2_with fail
              refine (specRuneSize_any A l c _ _ hl hc9 (by exact hAr)).mono ?_
              rintro e' w2 ⟨rfl, hb2⟩
              rw [HZ.out]
              have hA2 := hAr.below hb2
              have hbr2 := below_then hbr hb2
              go_wp2_with fail
              refine (specRuneSize_any A l c _ _ hl hc9 (by exact hA2)).mono ?_
              rintro e' w3 ⟨rfl, hb3⟩
              rw [HZ.out]
              have hbr3 := below_then hbr2 hb3
              go_wp2
              go_roundw
              case rel => exact ⟨q + z, by go_num, by omega, by omega, Lib.hid (by have := HG3.out; rw [show q - p + z = q + z - p by omega] at this; exact this), hbr3⟩
              case measure => simp [intOf]; omega
            · have h16 : ¬ (q - p + z ≤ 16) := fun h => hlk (g4.2 h)
              have hi1 : decide ((q : Int) + (z : Int) - (p : Int) ≤ 16) = false := by simp; omega
              have hi2 : (q : Int) < (l.length : Int) := by omega
              clear g1 g2 g4 g5
              go_wp2_with fail
              refine (specRuneSize_any A l c _ _ hl hc9 (by exact hAr)).mono ?_
              rintro e' w2 ⟨rfl, hb2⟩
              rw [HZ.out]
              have hbr2 := below_then hbr hb2
              have hqk' : q = p + k := by omega
              obtain ⟨X, hX⟩ : ∃ X, (l.drop p).take k = X := ⟨_, rfl⟩
              have hXl : q - p = X.length := by rw [← hX, List.length_take]; have := HDL.out; omega
              have hXb : X.length ≤ 400 := by omega
              obtain ⟨b, off, rfl, _, _⟩ := hA p hlt
              have hXA : Bs w (some ⟨b, off + p, none⟩) X := by rw [← hX]; exact hA.sub p k
              have hbw2 := below_then hb hbr2
              have hs2 := hbw2.size
              have hso := hb.size
              have hso2 := hbr2.size
              have HX := Lib.hid hX
              have HQK := Lib.hid hqk'
              have HXL := Lib.hid hXl
              have hown0 : Own (w2.alloc (.cells #[] 5)) w2.heap.size (.slice (some ⟨w2.heap.size, 0, none⟩) 0 0) [] := World.ownsRow_made w2 #[] 0 (Nat.le_refl _) (by unfold maxLen; omega) rfl
              have hal := (Below.refl w2.heap.size w2).alloc (Nat.le_refl _) (.cells #[] 5)
              have hbw3 := below_then hbw2 hal
              have hX0 := hXA.below hbw3
              have how3 := Lay.chunks.owBelow how (below_then hbr2 hal)
              have hcp' : ¬ c = p := by omega
              have hpq' : (p : Int) ≤ (q : Int) := by omega
              have hqc : (q : Int) ≤ (c : Int) := by omega
              have hqc2 : q ≤ c := by omega
              have hX4 : ([] : List UInt8).length + X.length ≤ 1000000000 := by simp; omega
              clear hX hqk' hXl how hal hbw2 hXA
              go_wp2_with (at_builtin; go_must (refine wpList_app_bytes rfl _ _ rfl w2.heap.size _ [] X _ (q - p) _ rfl rfl HXL.out hown0 hX0 ?c1 ?c2 ?_))
              case c1 => exact hX4
              case c2 => simp
              intro v3 w3 hown3 hg3 _
              have hb3 := (hbw3).grown hg3 hbw3.size (fun x hx => by have := (World.ownsRow.lt hown0 x hx).1; omega)
              have hkeep := Keeps.of_grown hg3
              have how4 := Lay.chunks.keeps how3 hkeep (fun x hx hx2 => by have := (hfp x hx).2; have := hown0.range x hx2; omega)
              have hr3 := hown3.range
              obtain ⟨A3, c3, rfl, _, _, _⟩ := hown3.form
              have hal := fun cs => (Below.refl w3.heap.size w3).alloc (Nat.le_refl _) (.cells cs 46)
              have how5 := Lay.chunks.owBelow how4 (hal #[.slice A3 X.length c3])
              have hown5 : Own _ w2.heap.size (.slice A3 X.length c3) X := hown3.below (hal #[.slice A3 X.length c3])
              have hb5 := below_then hb3 (hal #[.slice A3 X.length c3])
              have hs23 := hg3.size
              rw [alloc_size] at hs23
              have hL6 : L.length ≤ 1000000 := by omega
              have hown5' := hown5.ow
              have hfp5 := hown5.fp
              clear hown3 hal how3 how4 hkeep hg3 hb3
              go_wp2_with (at_builtin; go_must (refine wpList_app_one rfl _ _ 24 rfl 46 Lay.bytes (.agg #[.slice none 0 0]) 1 24 Tryd.underlying24 Tryd.infoCh rfl rfl (by decide) (by decide) _ L fp [.slice A3 X.length c3] X _ ⟨w3.heap.size, 0, none⟩ 1 rfl rfl how5 hnd hown5' hfp5.1 w2.heap.size ?d1 ?d2 ?d3 hL6 ?_))
              case d1 => intro x hx; have := (hfp x hx).2; omega
              case d2 => exact hfp5.2
              case d3 => exact cell_new1
              intro v6 w6 fp6 how6 hn6 hf6 hg6
              have hb6 := hb5.grown hg6 hb5.size (fun x hx => (hfp x (by obtain ⟨es, _, _, _, e⟩ := ow_one how5; rw [e, hx]; simp)).1)
              have hf6' : ∀ x ∈ fp6, w.heap.size ≤ x ∧ x < w6.heap.size := fun x hx => by
                refine ⟨?_, Lay.chunks.lt how6 x hx⟩
                rcases hf6 x hx with h | h | h
                · exact (hfp x h).1
                · have := hr3 x (by simpa using h); omega
                · omega
              have hfin : L ++ [X] ++ chunksL (l.drop q).length (l.drop q) = chunksOf l := by
                rw [← HE.out, HST.out, HX.out, List.drop_drop, ← HQK.out, List.append_assoc]; rfl
              have hnx : okS 0 (l.drop q) = true := by have := HNX.out; rw [List.drop_drop, ← HQK.out] at this; exact this
              have HFIN := Lib.hid hfin
              have HNX2 := Lib.hid hnx
              clear how5 hown5 hown5' hfp5 hg6 hf6 hr3 hfp hb5 hfin hnx hown0 hX0
              go_wp2
              go_roundw
              case rel => exact ⟨q, v6, L ++ [X], fp6, rfl, rfl, by omega, by rw [List.length_append, List.length_singleton]; omega, HNX2, how6, hn6, hf6', HFIN, hb6⟩
              case measure => simp [intOf]; omega
          · have hi2 : decide ((q : Int) < (l.length : Int)) = false := by simp; omega
            have hqk' : q = p + k := by omega
            obtain ⟨X, hX⟩ : ∃ X, (l.drop p).take k = X := ⟨_, rfl⟩
            have hXl : q - p = X.length := by rw [← hX, List.length_take]; have := HDL.out; omega
            have hXb : X.length ≤ 400 := by omega
            obtain ⟨b, off, rfl, _, _⟩ := hA p hlt
            have hXA : Bs w (some ⟨b, off + p, none⟩) X := by rw [← hX]; exact hA.sub p k
            have hbwr := below_then hb hbr
            have hs2 := hbwr.size
            have hso := hb.size
            have hso2 := hbr.size
            have HX := Lib.hid hX
            have HQK := Lib.hid hqk'
            have HXL := Lib.hid hXl
            have hown0 : Own (wr.alloc (.cells #[] 5)) wr.heap.size (.slice (some ⟨wr.heap.size, 0, none⟩) 0 0) [] := World.ownsRow_made wr #[] 0 (Nat.le_refl _) (by unfold maxLen; omega) rfl
            have hal := (Below.refl wr.heap.size wr).alloc (Nat.le_refl _) (.cells #[] 5)
            have hbw3 := below_then hbwr hal
            have hX0 := hXA.below hbw3
            have how3 := Lay.chunks.owBelow how (below_then hbr hal)
            have hcp' : ¬ c = p := by omega
            have hpq' : (p : Int) ≤ (q : Int) := by omega
            have hqc : (q : Int) ≤ (c : Int) := by omega
            have hqc2 : q ≤ c := by omega
            have hX4 : ([] : List UInt8).length + X.length ≤ 1000000000 := by simp; omega
            clear hX hqk' hXl how hal hbwr hXA
            go_wp2_with (at_builtin; go_must (refine wpList_app_bytes rfl _ _ rfl wr.heap.size _ [] X _ (q - p) _ rfl rfl HXL.out hown0 hX0 ?c1 ?c2 ?_))
            case c1 => exact hX4
            case c2 => simp
            intro v3 w3 hown3 hg3 _
            have hb3 := (hbw3).grown hg3 hbw3.size (fun x hx => by have := (World.ownsRow.lt hown0 x hx).1; omega)
            have hkeep := Keeps.of_grown hg3
            have how4 := Lay.chunks.keeps how3 hkeep (fun x hx hx2 => by have := (hfp x hx).2; have := hown0.range x hx2; omega)
            have hr3 := hown3.range
            obtain ⟨A3, c3, rfl, _, _, _⟩ := hown3.form
            have hal := fun cs => (Below.refl w3.heap.size w3).alloc (Nat.le_refl _) (.cells cs 46)
            have how5 := Lay.chunks.owBelow how4 (hal #[.slice A3 X.length c3])
            have hown5 : Own _ wr.heap.size (.slice A3 X.length c3) X := hown3.below (hal #[.slice A3 X.length c3])
            have hb5 := below_then hb3 (hal #[.slice A3 X.length c3])
            have hs23 := hg3.size
            rw [alloc_size] at hs23
            have hL6 : L.length ≤ 1000000 := by omega
            have hown5' := hown5.ow
            have hfp5 := hown5.fp
            clear hown3 hal how3 how4 hkeep hg3 hb3
            go_wp2_with (at_builtin; go_must (refine wpList_app_one rfl _ _ 24 rfl 46 Lay.bytes (.agg #[.slice none 0 0]) 1 24 Tryd.underlying24 Tryd.infoCh rfl rfl (by decide) (by decide) _ L fp [.slice A3 X.length c3] X _ ⟨w3.heap.size, 0, none⟩ 1 rfl rfl how5 hnd hown5' hfp5.1 wr.heap.size ?d1 ?d2 ?d3 hL6 ?_))
            case d1 => intro x hx; have := (hfp x hx).2; omega
            case d2 => exact hfp5.2
            case d3 => exact cell_new1
            intro v6 w6 fp6 how6 hn6 hf6 hg6
            have hb6 := hb5.grown hg6 hb5.size (fun x hx => (hfp x (by obtain ⟨es, _, _, _, e⟩ := ow_one how5; rw [e, hx]; simp)).1)
            have hf6' : ∀ x ∈ fp6, w.heap.size ≤ x ∧ x < w6.heap.size := fun x hx => by
              refine ⟨?_, Lay.chunks.lt how6 x hx⟩
              rcases hf6 x hx with h | h | h
              · exact (hfp x h).1
              · have := hr3 x (by simpa using h); omega
              · omega
            have hfin : L ++ [X] ++ chunksL (l.drop q).length (l.drop q) = chunksOf l := by
              rw [← HE.out, HST.out, HX.out, List.drop_drop, ← HQK.out, List.append_assoc]; rfl
            have hnx : okS 0 (l.drop q) = true := by have := HNX.out; rw [List.drop_drop, ← HQK.out] at this; exact this
            have HFIN := Lib.hid hfin
            have HNX2 := Lib.hid hnx
            clear how5 hown5 hown5' hfp5 hg6 hf6 hr3 hfp hb5 hfin hnx hown0 hX0
            go_wp2
            go_roundw
            case rel => exact ⟨q, v6, L ++ [X], fp6, rfl, rfl, by omega, by rw [List.length_append, List.length_singleton]; omega, HNX2, how6, hn6, hf6', HFIN, hb6⟩
            case measure => simp [intOf]; omega
      · have e : p = l.length := by omega
        subst e
        have hfin : L = chunksOf l := by rw [← HE.out, List.drop_length]; simp [chunksL]
        rw [hfin] at how
        have HOW := Lib.hid how
        clear hfin how HE
        go_wp2
        go_ret
        exact ⟨_, fp, rfl, HOW.out, hnd, fun x hx => (hfp x hx).1, hb⟩
end Go.Proofs.YthnahenpnafkmaaDoor
