/-
  Chapter 2, ChunksOf of the program: contracts. Own work.
-/
import Derived.Test.YthnahenpnafkmaaDoorC02
import Derived.Test.YthnahenpnafkmaaDoorSnoc
import Derived.Test.YthnahenpnafkmaaDoorBlk
import Derived.Test.YthnahenpnafkmaaDoorI01f
namespace Go.Proofs.YthnahenpnafkmaaDoor
open Go.RowKit P
set_option linter.unusedVariables false

set_option maxHeartbeats 1000000 in
theorem firstCut_any (A : Option Addr) (l : List UInt8) (c : Nat) (w : World) (hl : l.length ≤ 9223372036854775807) (ht : okS 0 l = true) (hA : Bs w A l) :
    Calls Tryd.prog 66 #[.slice A l.length c] w fun e w' => e = .returned (.int .i64 (cut l : Nat)) ∧ w' = w := by
  have h0 := isBound_zero l ht
  have H0 := Lib.hid h0
  clear ht h0
  have main : ∀ m : Nat, m = min l.length 16 → cut l = cutTo l m := fun m hm => by unfold cut; rw [hm]
  by_cases h16 : (l.length : Int) ≤ 16
  all_goals
    go_enter Tryd.func66, Tryd.ntmps66
    go_wp2
    go_loop [3] (fun e => ∃ k : Nat, k ≤ l.length ∧ k ≤ 16 ∧ e = .int .i64 k ∧ Hid (cutTo l k = cut l)) (fun e => (intOf e).toNat)
    case atStart => first
      | exact ⟨16, by omega, by omega, rfl, Lib.hid (main 16 (by omega)).symm⟩
      | exact ⟨l.length, by omega, by omega, rfl, Lib.hid (main l.length (by omega)).symm⟩
    case round =>
      obtain ⟨k, hk, hk2, rfl, HC⟩ := hrel
      generalize hq : isBound l (k : Int) = q
      have HQ := Lib.hid hq
      cases q
      · have hk0 : k ≠ 0 := by
          intro e; subst e; rw [H0.out] at hq; cases hq
        have hkp : 0 < k := by omega
        have hn : cutTo l k = cutTo l (k - 1) := by
          obtain ⟨j, rfl⟩ : ∃ j, k = j + 1 := ⟨k - 1, by omega⟩
          exact cutTo_next l j hq
        have HN := Lib.hid hn
        clear hq hn hk0
        go_wp2_with fail
        refine (isBoundary_any A l c _ _ hl (by exact hA)).mono ?_
        rintro e w1 ⟨rfl, rfl⟩
        rw [HQ.out]
        go_wp2
        go_round
        case rel => exact ⟨k - 1, by omega, by omega, by go_num, Lib.hid (by rw [← HC.out, HN.out])⟩
        case measure => simp [intOf]; omega
      · have hn := cutTo_here l k hq
        have HN := Lib.hid hn
        clear hq hn
        go_wp2_with fail
        refine (isBoundary_any A l c _ _ hl (by exact hA)).mono ?_
        rintro e w1 ⟨rfl, rfl⟩
        rw [HQ.out]
        go_wp2
        go_ret
        exact ⟨ret_int (by rw [← HC.out, HN.out]), rfl⟩

set_option maxHeartbeats 1000000 in
theorem bytesClone_any (a : Addr) (l : List UInt8) (n c : Nat) (w : World) (hn : n = l.length) (hl : l.length ≤ 1000000) (hA : Bs w (some a) l) :
    Calls Tryd.prog 48 #[.slice (some a) n c] w (Makes w l) := by
  have q22 : ∀ (w : World) (a : Option Addr) (n c n' c' : Nat), (binOp .eql 22 (.slice a n c) (.slice none n' c')).run Tryd.prog w = .ok (.bool a.isNone) w := fun w a n c n' c' => Lib.run_eql_slice_nil w _ _ a n c n' c' Tryd.underlying22
  have hown0 : Own (w.alloc (.cells #[] 5)) w.heap.size (.slice (some ⟨w.heap.size, 0, none⟩) 0 0) [] := World.ownsRow_made w #[] 0 (Nat.le_refl _) (by unfold maxLen; omega) rfl
  have hal := (Below.refl w.heap.size w).alloc (Nat.le_refl _) (.cells #[] 5)
  have hA0 := hA.below hal
  go_enter Tryd.func48, Tryd.ntmps48
  go_wp2_with (at_builtin; go_must (refine wpList_app_bytes rfl _ _ rfl w.heap.size _ [] l (some a) n c rfl rfl hn hown0 hA0 ?c1 ?c2 ?_))
  case c1 => simp; omega
  case c2 => simp
  intro v4 w4 hown4 hg4 _
  have hb4 := hal.grown hg4 (by simp) (fun x hx => (World.ownsRow.lt hown0 x hx).1)
  go_wp2
  go_ret
  exact ⟨_, rfl, hown4, hb4⟩

set_option maxHeartbeats 4000000 in
theorem implChunksOf_any (A : Option Addr) (l : List UInt8) (c : Nat) (w : World) (hl : l.length ≤ c) (hc9 : c ≤ 9223372036854775807) (hT : Tab w) (hA : Bs w A l) :
    Calls Tryd.prog 44 #[.slice A l.length c] w (Gives Lay.chunks wSlice (chunksOf l) w) := by
  generalize hq : isText l = q
  have HQ := Lib.hid hq
  cases q
  · have hr : chunksOf l = [] := by unfold chunksOf; rw [hq]; rfl
    have HR := Lib.hid hr
    clear hq hr
    go_enter Tryd.func44, Tryd.ntmps44
    go_wp2_with fail
    refine (textOk_any A l c _ hl hc9 (by exact hT) (by exact hA)).mono ?_
    rintro e w1 ⟨rfl, n1, rfl⟩
    rw [HQ.out]
    go_wp2
    go_ret
    rw [HR.out]
    exact ⟨_, _, rfl, Lay.slice_nil _ _ _, by simp, by simp, below_of_drewN w n1⟩
  · have hlen := isText_len hq
    have hok := isText_ok hq
    have hr : chunksOf l = chunksL l.length l := by unfold chunksOf; rw [hq]; rfl
    have HR := Lib.hid hr
    clear hq hr
    go_enter Tryd.func44, Tryd.ntmps44
    go_wp2_with fail
    refine (textOk_any A l c _ hl hc9 (by exact hT) (by exact hA)).mono ?_
    rintro e w1 ⟨rfl, n1, rfl⟩
    rw [HQ.out]
    go_wp2
    go_loopw [0, 3, 4] (fun data list _ wr => ∃ (A' : Option Addr) (r : List UInt8) (c' : Nat) (v : Value) (L : List (List UInt8)) (fp : List Nat), data = .slice A' r.length c' ∧ list = v ∧ r.length ≤ c' ∧ c' ≤ 9223372036854775807 ∧ r.length ≤ 400 ∧ L.length ≤ 400 ∧ L.length + r.length ≤ 400 ∧ Bs w A' r ∧ Hid (okS 0 r = true) ∧
        Lay.chunks.ow wr [v] L fp ∧ fp.Nodup ∧ (∀ k ∈ fp, w.heap.size ≤ k ∧ k < wr.heap.size) ∧ Hid (L ++ chunksL r.length r = chunksOf l) ∧ Below w.heap.size w wr) (fun data _ _ _ => match data with | .slice _ n _ => n | _ => 0)
    case atStart => exact ⟨A, l, c, _, [], [], rfl, rfl, hl, hc9, hlen, by simp, by simpa using hlen, hA, Lib.hid hok, Lay.slice_nil _ _ _, by simp, by simp, Lib.hid (by rw [HR.out]; rfl), below_of_drewN w n1⟩
    case round =>
      obtain ⟨A', r, c', v, L, fp, rfl, rfl, hrc, hc9', hr4, hL4, hLr, hBr, HOK, how, hnd, hfp, HE, hb⟩ := hrel
      by_cases hne : 0 < r.length
      · have hrne : r ≠ [] := by intro e; subst e; simp at hne
        have hcp := cut_pos HOK.out hrne
        have hcl := cut_le r
        have hst := chunksL_step HOK.out hrne
        have hnx := okS_of_bound HOK.out hcl.1 (cut_bound HOK.out)
        obtain ⟨k, hk⟩ : ∃ k, cut r = k := ⟨_, rfl⟩
        rw [hk] at hcp hcl hst hnx
        obtain ⟨b, off, rfl, _, _⟩ := hBr 0 hne
        have hS1 : Bs w (some ⟨b, off, none⟩) (r.take k) := by simpa using hBr.sub 0 k
        have hS2 : Bs w (some ⟨b, off + k, none⟩) (r.drop k) := by
          have := hBr.sub k (r.length - k)
          rw [List.take_of_length_le (by rw [List.length_drop]; omega)] at this
          exact this
        have hlen1 : (r.take k).length = k := by rw [List.length_take]; omega
        have hlen2 : (r.drop k).length = r.length - k := List.length_drop
        have HST := Lib.hid hst
        have HNX := Lib.hid hnx
        have HK := Lib.hid hk
        obtain ⟨X, hX⟩ : ∃ X, r.take k = X := ⟨_, rfl⟩
        obtain ⟨Y, hY⟩ : ∃ Y, r.drop k = Y := ⟨_, rfl⟩
        rw [hX] at hS1 hlen1
        rw [hY] at hS2 hlen2
        have HX := Lib.hid hX
        have HY := Lib.hid hY
        have hXl : X.length ≤ 1000000 := by omega
        have HL1 := Lib.hid hlen1
        have HL2 := Lib.hid hlen2
        clear hst hnx hk hX hY hrne hlen1 hlen2
        have hk0 : 0 ≤ (k : Int) := by omega
        have hk1 : (k : Int) ≤ (r.length : Int) := by omega
        have hk2 : (k : Int) ≤ (c' : Int) := by omega
        have hri : 0 < (r.length : Int) := by omega
        go_wp2_with fail
        refine (firstCut_any _ r c' _ (by omega) HOK.out (by exact hBr.below hb)).mono ?_
        rintro e w2 ⟨rfl, rfl⟩
        rw [HK.out]
        go_wp2_with fail
        refine (bytesClone_any _ X _ _ _ HL1.out.symm hXl (by exact hS1.below hb)).mono ?_
        rintro e w3 ⟨v3, rfl, hown3, hb3⟩
        have hs2 := hb.size
        have hr3 := hown3.range
        have how3 := Lay.chunks.owBelow how hb3
        have hb3' := below_then hb hb3
        obtain ⟨A3, c3, rfl, _, _, _⟩ := hown3.form
        have hal := fun cs => (Below.refl w3.heap.size w3).alloc (Nat.le_refl _) (.cells cs 46)
        have how4 := Lay.chunks.owBelow how3 (hal #[.slice A3 X.length c3])
        have hown4 := hown3.below (hal #[.slice A3 X.length c3])
        have hb4 := below_then hb3' (hal #[.slice A3 X.length c3])
        have hs23 := hb3.size
        have hL6 : L.length ≤ 1000000 := by omega
        have hown4' := hown4.ow
        have hfp3 := hown4.fp
        clear how how3 hown3 hb3 hal hb3'
        go_wp2_with (at_builtin; go_must (refine wpList_app_one rfl _ _ 24 rfl 46 Lay.bytes (.agg #[.slice none 0 0]) 1 24 Tryd.underlying24 Tryd.infoCh rfl rfl (by decide) (by decide) _ L fp [.slice A3 X.length c3] X _ ⟨w3.heap.size, 0, none⟩ 1 rfl rfl how4 hnd hown4' hfp3.1 w2.heap.size ?c1 ?c2 ?c3 hL6 ?_))
        case c1 => intro x hx; exact (hfp x hx).2
        case c2 => exact hfp3.2
        case c3 => exact cell_new1
        intro v5 w5 fp5 how5 hn5 hf5 hg5
        have hs5 := hg5.size
        rw [alloc_size] at hs5
        have hb5 := hb4.grown hg5 hb4.size (fun x hx => (hfp x (by obtain ⟨es, _, _, _, e⟩ := ow_one how4; rw [e, hx]; simp)).1)
        have hf5' : ∀ x ∈ fp5, w.heap.size ≤ x ∧ x < w5.heap.size := fun x hx => by
          refine ⟨?_, Lay.chunks.lt how5 x hx⟩
          rcases hf5 x hx with h | h | h
          · exact (hfp x h).1
          · have := hr3 x (by simpa using h); omega
          · omega
        have hfin : L ++ [X] ++ chunksL Y.length Y = chunksOf l := by
          rw [← HE.out, HST.out, HX.out, HY.out, List.append_assoc]; rfl
        have HFIN := Lib.hid hfin
        clear how4 hown4 hown4' hfp3 hg5 hf5 hr3 hfp hb4 hfin
        by_cases hkc : c' = k
        · subst hkc
          go_wp2
          go_roundw
          case rel =>
            refine ⟨_, Y, _, v5, L ++ [X], fp5, by rw [show Y.length = 0 by have := HL2.out; omega], rfl, ?_, ?_, ?_, ?_, ?_, ?_, by rw [← HY.out]; exact HNX, how5, hn5, hf5', HFIN, hb5⟩
            · have := HL2.out; omega
            · omega
            · have := HL2.out; omega
            · rw [List.length_append, List.length_singleton]; omega
            · rw [List.length_append, List.length_singleton]; have := HL2.out; omega
            · intro j hj; have := HL2.out; omega
          case measure => simp; omega
        · go_wp2
          go_roundw
          case rel =>
            refine ⟨_, Y, _, v5, L ++ [X], fp5, by rw [HL2.out], rfl, ?_, ?_, ?_, ?_, ?_, ?_, by rw [← HY.out]; exact HNX, how5, hn5, hf5', HFIN, hb5⟩
            · have := HL2.out; omega
            · omega
            · have := HL2.out; omega
            · rw [List.length_append, List.length_singleton]; omega
            · rw [List.length_append, List.length_singleton]; have := HL2.out; omega
            · exact hS2
          case measure => simp; omega
      · have hr0 : r = [] := List.eq_nil_of_length_eq_zero (by omega)
        subst hr0
        have hfin : L = chunksOf l := by rw [← HE.out]; simp [chunksL]
        rw [hfin] at how
        have HOW := Lib.hid how
        clear hfin how HE
        go_wp2
        go_ret
        exact ⟨_, fp, rfl, HOW.out, hnd, fun x hx => (hfp x hx).1, hb⟩
end Go.Proofs.YthnahenpnafkmaaDoor
