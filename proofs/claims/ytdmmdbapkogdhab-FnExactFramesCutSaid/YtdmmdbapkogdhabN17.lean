/-
  Chapter 9, FramesCut of the program and of the model: contracts. Own work.
-/
import Derived.Test.YtdmmdbapkogdhabN01
import Derived.Test.YtdmmdbapkogdhabC12
import Derived.Test.YtdmmdbapkogdhabC05
import Derived.Test.YtdmmdbapkogdhabEB
import Derived.Test.YtdmmdbapkogdhabCl
import Derived.Test.YtdmmdbapkogdhabSnoc
import Derived.Deep.RegionHeld3
import Derived.Deep.DeepCutAuto
namespace Go.Proofs.Ytdmmdbapkogdhab
open Go.RowKit P
set_option linter.unusedVariables false
set_option linter.unusedSimpArgs false
set_option maxRecDepth 100000

theorem wd_drop (l : List UInt8) (p : Nat) : wd l p = wd (l.drop p) 0 := by
  unfold wd
  simp only [List.getD_eq_getElem?_getD, List.getElem?_drop, Nat.add_zero, Nat.zero_add]
theorem frHas_short {d : List UInt8} (h : d.length < 2) : frHas d = false := by unfold frHas; rw [decide_eq_false (by omega)]; rfl
theorem frHas_long {d : List UInt8} (h : 1000 < wd d 0) : frHas d = false := by unfold frHas; rw [decide_eq_false (show ¬ wd d 0 ≤ 1000 by omega)]; simp
theorem frHas_cutoff {d : List UInt8} (h : (d.length : Int) < 2 + wd d 0) : frHas d = false := by unfold frHas; rw [decide_eq_false (show ¬ 2 + wd d 0 ≤ d.length by omega)]; simp
theorem frHas_yes {d : List UInt8} (h1 : 2 ≤ d.length) (h2 : wd d 0 ≤ 1000) (h3 : 2 + wd d 0 ≤ d.length) : frHas d = true := by unfold frHas; rw [decide_eq_true h1, decide_eq_true h2, decide_eq_true h3]; rfl
/-- What is cut so far, and what is left. -/
def FrIs (l : List UInt8) (L : List (List UInt8)) (p : Nat) : Prop := frCut 100 l = (L ++ (frCut (100 - L.length) (l.drop p)).1, p + (frCut (100 - L.length) (l.drop p)).2)
theorem FrIs.start (l : List UInt8) : FrIs l [] 0 := by unfold FrIs; simp
theorem FrIs.stop {l : List UInt8} {L : List (List UInt8)} {p : Nat} (h : FrIs l L p) (hs : 100 ≤ L.length ∨ frHas (l.drop p) = false) : frCut 100 l = (L, p) := by
  unfold FrIs at h
  rw [h]
  rcases hs with hs | hs
  · rw [show 100 - L.length = 0 by omega]; simp [frCut]
  · rw [frCut_stop _ _ hs]; simp
theorem FrIs.step {l : List UInt8} {L : List (List UInt8)} {p s : Nat} (h : FrIs l L p) (hL : L.length < 100) (hh : frHas (l.drop p) = true) (hs : wd (l.drop p) 0 = s) : FrIs l (L ++ [(l.drop (p + 2)).take s]) (p + (2 + s)) := by
  unfold FrIs at h ⊢
  rw [h]
  obtain ⟨f, hf⟩ : ∃ f, 100 - L.length = f + 1 := ⟨99 - L.length, by omega⟩
  rw [hf, frCut_step _ _ hh, hs, Int.toNat_natCast, List.length_append, List.length_singleton, show 100 - (L.length + 1) = f by omega, List.drop_drop, List.drop_drop]
  simp only [List.append_assoc, List.singleton_append, Prod.mk.injEq, true_and]
  omega
theorem frCut_small : ∀ (f : Nat) (d : List UInt8), ∀ t ∈ (frCut f d).1, t.length ≤ 1000
  | 0, d, t, ht => by simp [frCut] at ht
  | f + 1, d, t, ht => by
    cases h : frHas d
    · rw [frCut_stop _ _ h] at ht; simp at ht
    · rw [frCut_step _ _ h] at ht
      rcases List.mem_cons.1 ht with rfl | ht
      · unfold frHas at h
        simp only [Bool.and_eq_true, decide_eq_true_eq] at h
        rw [List.length_take]; omega
      · exact frCut_small f _ t ht

def GivesFr (l : List UInt8) (w : World) (e : Ending) (w' : World) : Prop := ∃ A' c' fp, e = .returned (.tuple #[.slice A' (frCut 100 l).1.length c', .int .i64 ((frCut 100 l).2 : Int)]) ∧ Lay.pieces.ow w' [.slice A' (frCut 100 l).1.length c'] (frCut 100 l).1 fp ∧ fp.Nodup ∧ (∀ k ∈ fp, w.heap.size ≤ k) ∧ Below w.heap.size w w'

set_option maxHeartbeats 16000000 in
theorem implFramesCut_any (A : Option Addr) (l : List UInt8) (c : Nat) (w : World) (hlc : l.length ≤ c) (hc9 : c ≤ 9223372036854775807) (hPl : A = none → c = 0) (hpp : ∀ a, A = some a → ∃ g o, a = ⟨g, o, none⟩) (hl : l.length ≤ 1048576) (hA : Bs w A l) :
    Calls Try.prog 16 #[.slice A l.length c] w (GivesFr l w) := by
  have hn9 : l.length ≤ 9223372036854775807 := by omega
  go_enter Try.func16, Try.ntmps16
  go_wp2
  go_loopw [4, 5, 6, 7] (fun list at_ _ _ wr => ∃ (p : Nat) (AL : Option Addr) (cL : Nat) (L : List (List UInt8)) (fp : List Nat), at_ = .int .i64 p ∧ list = .slice AL L.length cL ∧ p ≤ l.length ∧ L.length ≤ 100 ∧ Lay.pieces.ow wr [.slice AL L.length cL] L fp ∧ fp.Nodup ∧ (∀ k ∈ fp, w.heap.size ≤ k ∧ k < wr.heap.size) ∧ Hid (FrIs l L p) ∧ Below w.heap.size w wr) (fun _ a _ _ _ => l.length - (intOf a).toNat)
  case atStart => exact ⟨0, none, 0, [], [], rfl, rfl, Nat.zero_le _, by simp, Lay.slice_nil _ _ _, by simp, by simp, Lib.hid (FrIs.start l), Below.refl _ _⟩
  case round =>
    obtain ⟨p, AL, cL, L, fp, rfl, rfl, hp, hL, how, hnd, hfp, HE, hb⟩ := hrel
    have HB := Lib.hid hb
    have hdl : (l.drop p).length = l.length - p := List.length_drop
    have hwp2 : IntKind.i64.wrap ((p : Int) + 2) = (p : Int) + 2 := IntWalk.i64_in _ ⟨by omega, by omega⟩
    have hws : IntKind.i64.wrap ((l.length : Int) - (p : Int)) = (l.length : Int) - (p : Int) := IntWalk.i64_in _ ⟨by omega, by omega⟩
    clear hb
    by_cases h1 : L.length < 100
    case neg =>
      have h1' : ¬ (L.length : Int) < 100 := by omega
      have HST := Lib.hid (HE.out.stop (.inl (by omega)))
      have HOW := Lib.hid how
      have HFP := Lib.hid (fun k hk => (hfp k hk).1)
      have HND := Lib.hid hnd
      clear how hfp hnd
      go_wp2
      refine bodyPost_ret (v := .tuple #[.slice AL L.length cL, .int .i64 (p : Int)]) (by simp [results, Try.results16, go_sem]) rfl ?_
      exact ⟨AL, cL, fp, by rw [HST.out], by rw [HST.out]; exact HOW.out, HND.out, HFP.out, HB.out⟩
    have h1' : (L.length : Int) < 100 := by omega
    by_cases h2 : p + 2 ≤ l.length
    case neg =>
      have h2' : ¬ 2 ≤ (l.length : Int) - (p : Int) := by omega
      have HST := Lib.hid (HE.out.stop (.inr (frHas_short (by omega))))
      have HOW := Lib.hid how
      have HFP := Lib.hid (fun k hk => (hfp k hk).1)
      have HND := Lib.hid hnd
      clear how hfp hnd
      go_wp2
      refine bodyPost_ret (v := .tuple #[.slice AL L.length cL, .int .i64 (p : Int)]) (by simp [results, Try.results16, go_sem]) rfl ?_
      exact ⟨AL, cL, fp, by rw [HST.out], by rw [HST.out]; exact HOW.out, HND.out, HFP.out, HB.out⟩
    have h2' : 2 ≤ (l.length : Int) - (p : Int) := by omega
    obtain ⟨s, hs⟩ : ∃ s : Nat, wd l p = (s : Int) := ⟨(wd l p).toNat, by have := wd_bd l p; omega⟩
    have hs2 : wd (l.drop p) 0 = (s : Int) := by rw [← wd_drop]; exact hs
    have hsb : s ≤ 65535 := by have := wd_bd l p; omega
    have HS := Lib.hid hs
    have HS2 := Lib.hid hs2
    clear hs hs2
    obtain ⟨D, hsl, hBD, hDn, hDp⟩ := slc_tail A l.length c (p + 2) w l hPl hpp rfl (by omega) hlc hc9 hA
    have hsl' : ∀ W, (Instr.slice 24 (.slice A l.length c) (some (.int .i64 ((p : Int) + 2))) none none).run Try.prog W = .ok (.slice D (l.length - (p + 2)) (c - (p + 2))) W := fun W => by
      have h := hsl W
      rw [show (((p + 2 : Nat)) : Int) = (p : Int) + 2 by omega] at h
      exact h
    have HBD := Lib.hid hBD
    obtain ⟨rn, hrn⟩ : ∃ r, l.length - (p + 2) = r := ⟨_, rfl⟩
    obtain ⟨rc, hrc⟩ : ∃ r, c - (p + 2) = r := ⟨_, rfl⟩
    rw [hrn, hrc] at hsl'
    rw [hrc] at hDn
    clear hsl hBD
    go_upto_region 4 with fail
    refine wp_region_held_drew (S := (fun V => True)) (by kernel_rfl) (by exact trivial) (fun hHeld => ?_)
    refine wpAnyH_take (i := 0) (oi := ?_) (v := ?_) ?_ ?_ ?_ ?_ ?_ ?_ (by exact hHeld) ?_
    rotate_left 2
    · (simp only [List.getElem?_toArray, List.getElem?_cons_zero]; try rfl)
    · kernel_rfl
    · kernel_rfl
    · kernel_rfl
    · exact fun _ _ _ h => h
    · refine Or.inl ⟨by rfl, ?_⟩
      (intro V hSV; go_simp; try with_reducible rfl)
    (try simp only [Act.put, List.setIfInBounds_toArray, List.set_cons_zero, List.set_cons_succ])
    refine wpAnyH_take (i := 1) (oi := ?_) (v := ?_) ?_ ?_ ?_ ?_ ?_ ?_ (by exact hHeld) ?_
    rotate_left 2
    · (simp only [List.getElem?_toArray, List.getElem?_cons_zero, List.getElem?_cons_succ]; try rfl)
    · kernel_rfl
    · kernel_rfl
    · kernel_rfl
    · exact fun _ _ _ h => h
    · refine Or.inl ⟨by rfl, ?_⟩
      (intro V hSV; go_simp; try with_reducible rfl)
    (try simp only [Act.put, List.setIfInBounds_toArray, List.set_cons_zero, List.set_cons_succ])
    refine wpAnyH_take (i := 3) (oi := ?_) (v := ?_) ?_ ?_ ?_ ?_ ?_ ?_ (by exact hHeld) ?_
    rotate_left 2
    · (simp only [List.getElem?_toArray, List.getElem?_cons_zero, List.getElem?_cons_succ]; try rfl)
    · kernel_rfl
    · kernel_rfl
    · kernel_rfl
    · exact fun _ _ _ h => h
    · refine Or.inl ⟨by rfl, ?_⟩
      (intro V hSV; go_simp; try with_reducible rfl)
    (try simp only [Act.put, List.setIfInBounds_toArray, List.set_cons_zero, List.set_cons_succ])
    refine wpAnyH_take (i := 4) (oi := ?_) (v := ?_) ?_ ?_ ?_ ?_ ?_ ?_ (by exact hHeld) ?_
    rotate_left 2
    · (simp only [List.getElem?_toArray, List.getElem?_cons_zero, List.getElem?_cons_succ]; try rfl)
    · kernel_rfl
    · kernel_rfl
    · kernel_rfl
    · exact fun _ _ _ h => h
    · refine Or.inl ⟨by rfl, ?_⟩
      (intro V hSV; go_simp; try with_reducible rfl)
    (try simp only [Act.put, List.setIfInBounds_toArray, List.set_cons_zero, List.set_cons_succ])
    refine wpAnyH_take (i := 5) (oi := ?_) (v := ?_) ?_ ?_ ?_ ?_ ?_ ?_ (by exact hHeld) ?_
    rotate_left 2
    · (simp only [List.getElem?_toArray, List.getElem?_cons_zero, List.getElem?_cons_succ]; try rfl)
    · kernel_rfl
    · kernel_rfl
    · kernel_rfl
    · exact fun _ _ _ h => h
    · refine Or.inl ⟨by rfl, ?_⟩
      (intro V hSV; go_simp; try with_reducible rfl)
    (try simp only [Act.put, List.setIfInBounds_toArray, List.set_cons_zero, List.set_cons_succ])
    refine wpAnyH_take (i := 6) (oi := ?_) (v := ?_) ?_ ?_ ?_ ?_ ?_ ?_ (by exact hHeld) ?_
    rotate_left 2
    · (simp only [List.getElem?_toArray, List.getElem?_cons_zero, List.getElem?_cons_succ]; try rfl)
    · kernel_rfl
    · kernel_rfl
    · kernel_rfl
    · exact fun _ _ _ h => h
    · refine Or.inl ⟨by rfl, ?_⟩
      (intro V hSV; go_simp; try with_reducible rfl)
    (try simp only [Act.put, List.setIfInBounds_toArray, List.set_cons_zero, List.set_cons_succ])
    refine wpAnyH_ready (rs := [2]) (by kernel_rfl) (by simp) ?_
    refine AllReadyH.cons (o := ?_) ?_ (fun K hK => ?_) AllReadyH.nil
    rotate_left 1
    · (simp only [List.getElem?_toArray, List.getElem?_cons_zero, List.getElem?_cons_succ]; try rfl)
    go_simp
    refine (wordAt_any A l c p _ hn9 (by omega) (by exact hA.below HB.out.drew)).mono ?_
    rintro e y1 ⟨rfl, hE⟩
    have hb1 : Below wr.heap.size wr y1 := by obtain ⟨n, rfl⟩ := hE; exact below_drewN (Below.refl _ _).drew n
    have HB1 := Lib.hid hb1
    rw [HS.out]
    clear hE hb1
    go_wp2_with fail
    refine hK.out _ _ (by exact trivial) (fun hHeld => ?_)
    clear hK K
    (try simp only [Act.put, List.setIfInBounds_toArray, List.set_cons_zero, List.set_cons_succ])
    refine wpAnyH_take (i := 7) (oi := ?_) (v := ?_) ?_ ?_ ?_ ?_ ?_ ?_ (by exact hHeld) ?_
    rotate_left 2
    · (simp only [List.getElem?_toArray, List.getElem?_cons_zero, List.getElem?_cons_succ]; try rfl)
    · kernel_rfl
    · kernel_rfl
    · kernel_rfl
    · exact fun _ _ _ h => h
    · refine Or.inl ⟨by rfl, ?_⟩
      (intro V hSV; go_simp; try with_reducible rfl)
    (try simp only [Act.put, List.setIfInBounds_toArray, List.set_cons_zero, List.set_cons_succ])
    refine wpAnyH_take (i := 8) (oi := ?_) (v := ?_) ?_ ?_ ?_ ?_ ?_ ?_ (by exact hHeld) ?_
    rotate_left 2
    · (simp only [List.getElem?_toArray, List.getElem?_cons_zero, List.getElem?_cons_succ]; try rfl)
    · kernel_rfl
    · kernel_rfl
    · kernel_rfl
    · exact fun _ _ _ h => h
    · refine Or.inl ⟨by rfl, ?_⟩
      (intro V hSV; go_simp; try with_reducible rfl)
    (try simp only [Act.put, List.setIfInBounds_toArray, List.set_cons_zero, List.set_cons_succ])
    refine wpAnyH_done (by kernel_rfl) ?_ _
    clear hHeld
    have HB := Lib.hid (below_then HB.out HB1.out)
    have how := Lay.pieces.owBelow how HB1.out
    have hz1 := HB1.out.size
    have hfp : ∀ k ∈ fp, w.heap.size ≤ k ∧ k < y1.heap.size := fun k hk => ⟨(hfp k hk).1, by have := (hfp k hk).2; omega⟩
    clear HB1
    by_cases h3 : s ≤ 1000
    case neg =>
      have h3' : (1000 : Int) < (s : Int) := by omega
      have HST := Lib.hid (HE.out.stop (.inr (frHas_long (by rw [HS2.out]; omega))))
      have HOW := Lib.hid how
      have HFP := Lib.hid (fun k hk => (hfp k hk).1)
      have HND := Lib.hid hnd
      clear how hfp hnd
      go_wp2
      refine bodyPost_ret (v := .tuple #[.slice AL L.length cL, .int .i64 (p : Int)]) (by simp [results, Try.results16, go_sem]) rfl ?_
      exact ⟨AL, cL, fp, by rw [HST.out], by rw [HST.out]; exact HOW.out, HND.out, HFP.out, HB.out⟩
    have h3' : ¬ (1000 : Int) < (s : Int) := by omega
    by_cases h4 : p + 2 + s ≤ l.length
    case neg =>
      have h4' : (rn : Int) < (s : Int) := by omega
      have HST := Lib.hid (HE.out.stop (.inr (frHas_cutoff (by rw [HS2.out, List.length_drop]; omega))))
      have HOW := Lib.hid how
      have HFP := Lib.hid (fun k hk => (hfp k hk).1)
      have HND := Lib.hid hnd
      clear how hfp hnd
      go_wp2
      refine bodyPost_ret (v := .tuple #[.slice AL L.length cL, .int .i64 (p : Int)]) (by simp [results, Try.results16, go_sem]) rfl ?_
      exact ⟨AL, cL, fp, by rw [HST.out], by rw [HST.out]; exact HOW.out, HND.out, HFP.out, HB.out⟩
    have h4' : ¬ (rn : Int) < (s : Int) := by omega
    have HNX := Lib.hid (HE.out.step h1 (frHas_yes (by rw [List.length_drop]; omega) (by rw [HS2.out]; omega) (by rw [HS2.out, List.length_drop]; omega)) HS2.out)
    obtain ⟨X, hX⟩ : ∃ X, (l.drop (p + 2)).take s = X := ⟨_, rfl⟩
    have hXl : s = X.length := by rw [← hX, List.length_take, List.length_drop]; omega
    rw [hX] at HNX
    have HBX := Lib.hid (show Bs w D X by rw [← hX]; exact HBD.out.head9 s (by rw [List.length_drop]; omega))
    have hsh := slc_head D rn rc s hDn hDp (by omega)
    have HXL := Lib.hid hXl
    clear hX hXl
    have hX6 : X.length ≤ 1000000 := by have := HXL.out; omega
    have hw1 : IntKind.i64.wrap (2 + (s : Int)) = 2 + (s : Int) := IntWalk.i64_in _ ⟨by omega, by omega⟩
    have hw2 : IntKind.i64.wrap ((p : Int) + (2 + (s : Int))) = (p : Int) + (2 + (s : Int)) := IntWalk.i64_in _ ⟨by omega, by omega⟩
    go_wp2_with fail
    refine (bytesClone_opt D X s rc _ HXL.out hX6 (by exact HBX.out.below HB.out)).mono ?_
    rintro e w3 ⟨v3, rfl, hown3, hb3⟩
    have how3 := Lay.pieces.owBelow how hb3
    have hb3' := below_then HB.out hb3
    have hr3 := hown3.range
    obtain ⟨A3, c3, rfl, _, _, _⟩ := hown3.form
    have hal := fun cs => (Below.refl w3.heap.size w3).alloc (Nat.le_refl _) (.cells cs 40)
    have how4 := Lay.pieces.owBelow how3 (hal #[.slice A3 X.length c3])
    have hown4 := hown3.below (hal #[.slice A3 X.length c3])
    have hb4 := below_then hb3' (hal #[.slice A3 X.length c3])
    have hs23 := hb3.size
    have hL6 : L.length ≤ 1000000 := by omega
    have hown4' := hown4.ow
    have hfp3 := hown4.fp
    clear how how3 hown3 hb3 hal hb3'
    go_wp2_with (at_builtin; go_must (refine wpList_app_one rfl _ _ 26 rfl 40 Lay.bytes (.agg #[.slice none 0 0]) 1 24 Try.underlying26 Try.infoPi rfl rfl (by decide) (by decide) _ L fp [.slice A3 X.length c3] X _ ⟨w3.heap.size, 0, none⟩ 1 rfl rfl how4 hnd hown4' hfp3.1 y1.heap.size ?c1 ?c2 ?c3 hL6 ?_))
    case c1 => intro x hx; exact (hfp x hx).2
    case c2 => exact hfp3.2
    case c3 => exact cell_new1
    intro v5 w5 fp5 how5 hn5 hf5 hg5
    have hs5 := hg5.size
    rw [alloc_size] at hs5
    have hb5 := hb4.grown hg5 hb4.size (fun x hx => (hfp x (by obtain ⟨es, _, _, _, e⟩ := ow_one how4; rw [e, hx]; simp)).1)
    have hz0 := HB.out.size
    have hf5' : ∀ x ∈ fp5, w.heap.size ≤ x ∧ x < w5.heap.size := fun x hx => by
      refine ⟨?_, Lay.pieces.lt how5 x hx⟩
      rcases hf5 x hx with h | h | h
      · exact (hfp x h).1
      · have := hr3 x (by simpa using h); omega
      · omega
    obtain ⟨A5, c5, rfl, _, _, _⟩ := Lay.pieces_rd (Lay.pieces.read how5)
    have HOW5 := Lib.hid how5
    have HN5 := Lib.hid hn5
    have HF5 := Lib.hid hf5'
    have HB5 := Lib.hid hb5
    have HLL : Hid ((L ++ [X]).length = L.length + 1) := Lib.hid (by simp)
    clear how4 hown4 hown4' hfp3 hg5 hf5 hr3 hfp hb4 how5 hn5 hf5' hb5
    obtain ⟨L2, hL2⟩ : ∃ L2, L ++ [X] = L2 := ⟨_, rfl⟩
    rw [hL2] at HOW5 HLL HNX
    rw [hL2]
    clear hL2
    go_wp2
    go_roundw
    case rel => exact ⟨p + (2 + s), A5, c5, L2, fp5, by go_num, rfl, by omega, by have := HLL.out; omega, HOW5.out, HN5.out, HF5.out, HNX, HB5.out⟩
    case measure => simp [intOf]; omega

set_option maxHeartbeats 16000000 in
theorem specFramesCut_any (A : Option Addr) (l : List UInt8) (c : Nat) (w : World) (hlc : l.length ≤ c) (hc9 : c ≤ 9223372036854775807) (hPl : A = none → c = 0) (hpp : ∀ a, A = some a → ∃ g o, a = ⟨g, o, none⟩) (hl : l.length ≤ 1048576) (hA : Bs w A l) :
    Calls Try.prog 14 #[.slice A l.length c] w (GivesFr l w) := by
  have hn9 : l.length ≤ 9223372036854775807 := by omega
  have how0 := Lib.hid (Lay.slice_empty 40 Lay.bytes w)
  have hal0 := Lib.hid ((Below.refl w.heap.size w).alloc (Nat.le_refl _) (.cells #[] 40))
  go_enter Try.func14, Try.ntmps14
  go_wp2
  go_loopw [4, 5, 6] (fun list at_ _ wr => ∃ (p : Nat) (AL : Option Addr) (cL : Nat) (L : List (List UInt8)) (fp : List Nat), at_ = .int .i64 p ∧ list = .slice AL L.length cL ∧ p ≤ l.length ∧ L.length ≤ 100 ∧ Lay.pieces.ow wr [.slice AL L.length cL] L fp ∧ fp.Nodup ∧ (∀ k ∈ fp, w.heap.size ≤ k ∧ k < wr.heap.size) ∧ Hid (FrIs l L p) ∧ Below w.heap.size w wr) (fun _ a _ _ => l.length - (intOf a).toNat)
  case atStart => exact ⟨0, some ⟨w.heap.size, 0, none⟩, 0, [], [w.heap.size], rfl, rfl, Nat.zero_le _, by simp, how0.out, by simp, by intro k hk; simp at hk; subst hk; exact ⟨Nat.le_refl _, by simp⟩, Lib.hid (FrIs.start l), hal0.out⟩
  case round =>
    obtain ⟨p, AL, cL, L, fp, rfl, rfl, hp, hL, how, hnd, hfp, HE, hb⟩ := hrel
    have HB := Lib.hid hb
    have hdl : (l.drop p).length = l.length - p := List.length_drop
    have hwp2 : IntKind.i64.wrap ((p : Int) + 2) = (p : Int) + 2 := IntWalk.i64_in _ ⟨by omega, by omega⟩
    have hws : IntKind.i64.wrap ((l.length : Int) - (p : Int)) = (l.length : Int) - (p : Int) := IntWalk.i64_in _ ⟨by omega, by omega⟩
    clear hb
    by_cases h1 : L.length < 100
    case neg =>
      have h1' : ¬ (L.length : Int) < 100 := by omega
      by_cases h2 : p + 2 ≤ l.length
      · have h2' : (p : Int) + 2 ≤ (l.length : Int) := by omega
        have HST := Lib.hid (HE.out.stop (.inl (by omega)))
        have HOW := Lib.hid how
        have HFP := Lib.hid (fun k hk => (hfp k hk).1)
        have HND := Lib.hid hnd
        clear how hfp hnd
        go_wp2
        refine bodyPost_ret (v := .tuple #[.slice AL L.length cL, .int .i64 (p : Int)]) (by simp [results, Try.results14, go_sem]) rfl ?_
        exact ⟨AL, cL, fp, by rw [HST.out], by rw [HST.out]; exact HOW.out, HND.out, HFP.out, HB.out⟩
      · have h2' : ¬ (p : Int) + 2 ≤ (l.length : Int) := by omega
        have HST := Lib.hid (HE.out.stop (.inl (by omega)))
        have HOW := Lib.hid how
        have HFP := Lib.hid (fun k hk => (hfp k hk).1)
        have HND := Lib.hid hnd
        clear how hfp hnd
        go_wp2
        refine bodyPost_ret (v := .tuple #[.slice AL L.length cL, .int .i64 (p : Int)]) (by simp [results, Try.results14, go_sem]) rfl ?_
        exact ⟨AL, cL, fp, by rw [HST.out], by rw [HST.out]; exact HOW.out, HND.out, HFP.out, HB.out⟩
    have h1' : (L.length : Int) < 100 := by omega
    by_cases h2 : p + 2 ≤ l.length
    case neg =>
      have h2' : ¬ (p : Int) + 2 ≤ (l.length : Int) := by omega
      have HST := Lib.hid (HE.out.stop (.inr (frHas_short (by omega))))
      have HOW := Lib.hid how
      have HFP := Lib.hid (fun k hk => (hfp k hk).1)
      have HND := Lib.hid hnd
      clear how hfp hnd
      go_wp2
      refine bodyPost_ret (v := .tuple #[.slice AL L.length cL, .int .i64 (p : Int)]) (by simp [results, Try.results14, go_sem]) rfl ?_
      exact ⟨AL, cL, fp, by rw [HST.out], by rw [HST.out]; exact HOW.out, HND.out, HFP.out, HB.out⟩
    have h2' : (p : Int) + 2 ≤ (l.length : Int) := by omega
    obtain ⟨s, hs⟩ : ∃ s : Nat, wd l p = (s : Int) := ⟨(wd l p).toNat, by have := wd_bd l p; omega⟩
    have hs2 : wd (l.drop p) 0 = (s : Int) := by rw [← wd_drop]; exact hs
    have hsb : s ≤ 65535 := by have := wd_bd l p; omega
    have HS := Lib.hid hs
    have HS2 := Lib.hid hs2
    clear hs hs2
    go_wp2_with fail
    refine (l09At_any A l c p _ hn9 (by omega) (by exact hA.below HB.out)).mono ?_
    rintro e y1 ⟨rfl, hE⟩
    have hb1 : Below wr.heap.size wr y1 := by obtain ⟨n, rfl⟩ := hE; exact below_of_drewN _ n
    rw [HS.out]
    have HB := Lib.hid (below_then HB.out hb1)
    have how := Lay.pieces.owBelow how hb1
    have hz1 := hb1.size
    have hfp : ∀ k ∈ fp, w.heap.size ≤ k ∧ k < y1.heap.size := fun k hk => ⟨(hfp k hk).1, by have := (hfp k hk).2; omega⟩
    have hws1 : IntKind.i64.wrap ((p : Int) + 2 + (s : Int)) = (p : Int) + 2 + (s : Int) := IntWalk.i64_in _ ⟨by omega, by omega⟩
    clear hE hb1
    by_cases h3 : s ≤ 1000
    case neg =>
      have h3' : (1000 : Int) < (s : Int) := by omega
      have HST := Lib.hid (HE.out.stop (.inr (frHas_long (by rw [HS2.out]; omega))))
      have HOW := Lib.hid how
      have HFP := Lib.hid (fun k hk => (hfp k hk).1)
      have HND := Lib.hid hnd
      clear how hfp hnd
      go_wp2
      refine bodyPost_ret (v := .tuple #[.slice AL L.length cL, .int .i64 (p : Int)]) (by simp [results, Try.results14, go_sem]) rfl ?_
      exact ⟨AL, cL, fp, by rw [HST.out], by rw [HST.out]; exact HOW.out, HND.out, HFP.out, HB.out⟩
    have h3' : ¬ (1000 : Int) < (s : Int) := by omega
    by_cases h4 : p + 2 + s ≤ l.length
    case neg =>
      have h4' : (l.length : Int) < (p : Int) + 2 + (s : Int) := by omega
      have HST := Lib.hid (HE.out.stop (.inr (frHas_cutoff (by rw [HS2.out, List.length_drop]; omega))))
      have HOW := Lib.hid how
      have HFP := Lib.hid (fun k hk => (hfp k hk).1)
      have HND := Lib.hid hnd
      clear how hfp hnd
      go_wp2
      refine bodyPost_ret (v := .tuple #[.slice AL L.length cL, .int .i64 (p : Int)]) (by simp [results, Try.results14, go_sem]) rfl ?_
      exact ⟨AL, cL, fp, by rw [HST.out], by rw [HST.out]; exact HOW.out, HND.out, HFP.out, HB.out⟩
    have h4' : ¬ (l.length : Int) < (p : Int) + 2 + (s : Int) := by omega
    have HNX := Lib.hid (HE.out.step h1 (frHas_yes (by rw [List.length_drop]; omega) (by rw [HS2.out]; omega) (by rw [HS2.out, List.length_drop]; omega)) HS2.out)
    obtain ⟨X, hX⟩ : ∃ X, (l.drop (p + 2)).take s = X := ⟨_, rfl⟩
    have hXl : s = X.length := by rw [← hX, List.length_take, List.length_drop]; omega
    rw [hX] at HNX
    obtain ⟨D, hsm, hBX⟩ := slc_mid A l.length c (p + 2) s w l hPl hpp rfl (by omega) hlc hc9 hA
    rw [hX] at hBX
    have hsm' : ∀ W, (Instr.slice 24 (.slice A l.length c) (some (.int .i64 ((p : Int) + 2))) (some (.int .i64 ((p : Int) + 2 + (s : Int)))) none).run Try.prog W = .ok (.slice D s (c - (p + 2))) W := fun W => by
      have h := hsm W
      rw [show (((p + 2 : Nat)) : Int) = (p : Int) + 2 by omega] at h
      exact h
    obtain ⟨rc, hrc⟩ : ∃ r, c - (p + 2) = r := ⟨_, rfl⟩
    rw [hrc] at hsm'
    have HBX := Lib.hid hBX
    have HXL := Lib.hid hXl
    clear hX hsm hBX hXl hrc
    have hX6 : X.length ≤ 1000000 := by have := HXL.out; omega
    have hE0 := Own.new y1 [] (by simp [maxLen])
    have halE := (Below.refl y1.heap.size y1).alloc (Nat.le_refl _) (.cells #[] 5)
    have hBX1 := HBX.out.below (HB.out.trans (halE.mono HB.out.size))
    have howE := Lay.pieces.owBelow how halE
    have hbE := below_then HB.out halE
    go_wp2_with (at_builtin; go_must (refine wpList_app_bytes rfl _ _ rfl y1.heap.size _ [] X D s rc rfl rfl HXL.out hE0 hBX1 ?c1 ?c2 ?_))
    case c1 => simp; omega
    case c2 => simp
    intro v3 w3 hown3 hg3 _
    have hk3 := Keeps.of_grown hg3
    have hb3' : Below w.heap.size w w3 := hbE.trans (hk3.below (B := w.heap.size) hbE.size (fun x hx => by have := HB.out.size; simp [Value.ownBlock] at hx; omega))
    have how3 := Lay.pieces.keeps howE hk3 (fun k hk h => by have := (hfp k hk).2; simp [Value.ownBlock] at h; omega)
    have hb3 : y1.heap.size ≤ w3.heap.size := by have := hk3.size; have := halE.size; omega
    clear hk3 hg3 hE0 halE hBX1 howE hbE
    have hr3 := hown3.range
    obtain ⟨A3, c3, rfl, _, _, _⟩ := hown3.form
    have hal := fun cs => (Below.refl w3.heap.size w3).alloc (Nat.le_refl _) (.cells cs 40)
    have how4 := Lay.pieces.owBelow how3 (hal #[.slice A3 X.length c3])
    have hown4 := hown3.below (hal #[.slice A3 X.length c3])
    have hb4 := below_then hb3' (hal #[.slice A3 X.length c3])
    have hs23 := hb3
    have hL6 : L.length ≤ 1000000 := by omega
    have hown4' := hown4.ow
    have hfp3 := hown4.fp
    clear how how3 hown3 hb3 hal hb3'
    go_wp2_with (at_builtin; go_must (refine wpList_app_one rfl _ _ 26 rfl 40 Lay.bytes (.agg #[.slice none 0 0]) 1 24 Try.underlying26 Try.infoPi rfl rfl (by decide) (by decide) _ L fp [.slice A3 X.length c3] X _ ⟨w3.heap.size, 0, none⟩ 1 rfl rfl how4 hnd hown4' hfp3.1 y1.heap.size ?c1 ?c2 ?c3 hL6 ?_))
    case c1 => intro x hx; exact (hfp x hx).2
    case c2 => exact hfp3.2
    case c3 => exact cell_new1
    intro v5 w5 fp5 how5 hn5 hf5 hg5
    have hs5 := hg5.size
    rw [alloc_size] at hs5
    have hb5 := hb4.grown hg5 hb4.size (fun x hx => (hfp x (by obtain ⟨es, _, _, _, e⟩ := ow_one how4; rw [e, hx]; simp)).1)
    have hz0 := HB.out.size
    have hf5' : ∀ x ∈ fp5, w.heap.size ≤ x ∧ x < w5.heap.size := fun x hx => by
      refine ⟨?_, Lay.pieces.lt how5 x hx⟩
      rcases hf5 x hx with h | h | h
      · exact (hfp x h).1
      · have := hr3 x (by simpa using h); omega
      · omega
    obtain ⟨A5, c5, rfl, _, _, _⟩ := Lay.pieces_rd (Lay.pieces.read how5)
    have HOW5 := Lib.hid how5
    have HN5 := Lib.hid hn5
    have HF5 := Lib.hid hf5'
    have HB5 := Lib.hid hb5
    have HLL : Hid ((L ++ [X]).length = L.length + 1) := Lib.hid (by simp)
    clear how4 hown4 hown4' hfp3 hg5 hf5 hr3 hfp hb4 how5 hn5 hf5' hb5
    obtain ⟨L2, hL2⟩ : ∃ L2, L ++ [X] = L2 := ⟨_, rfl⟩
    rw [hL2] at HOW5 HLL HNX
    rw [hL2]
    clear hL2
    go_wp2
    go_roundw
    case rel => exact ⟨p + (2 + s), A5, c5, L2, fp5, by go_num, rfl, by omega, by have := HLL.out; omega, HOW5.out, HN5.out, HF5.out, HNX, HB5.out⟩
    case measure => simp [intOf]; omega
end Go.Proofs.Ytdmmdbapkogdhab
