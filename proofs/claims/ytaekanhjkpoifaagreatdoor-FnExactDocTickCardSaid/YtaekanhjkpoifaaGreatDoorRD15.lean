/-
 Chapter 10, copies of stacks in the model: contract. Own work.
-/
import Derived.Test.YtaekanhjkpoifaaGreatDoorRD14
import Derived.Test.YtaekanhjkpoifaaGreatDoorRK09
namespace Go.Proofs.YtaekanhjkpoifaaGreatDoor
open Go.RowKit P
set_option linter.unusedVariables false
set_option linter.unusedSimpArgs false
set_option maxRecDepth 100000

theorem runPuts (es : List Ed) : ∀ t, (edsRun t es).2 = es.length → ∀ e ∈ es, isText e.2.2 = true := by
 induction es with
 | nil => intro t _ e he; cases he
 | cons x es ih =>
  intro t h
  unfold edsRun at h
  by_cases hok : edOk t x.1 x.2.1 x.2.2 = true
  ·rw [if_pos hok] at h
   simp only [List.length_cons, Nat.add_right_cancel_iff] at h
   intro e he
   rcases List.mem_cons.1 he with rfl | he
   ·have h9 := hok
    unfold edOk at h9
    simp only [Bool.and_eq_true] at h9
    exact h9.2.2.1
   ·exact ih _ h e he
  ·rw [if_neg hok] at h
   simp at h
theorem docOk_isRun {d : Dc} (h : docOk d = true) : runOk d = true := by
 cases h2 : runOk d
 ·rw [docOk_run h2] at h; cases h
 ·rfl
theorem docOk_puts0 {d : Dc} (h : docOk d = true) : ∀ e ∈ logE d.log, e.2.2.length ≤ 1000 := by
 intro e he
 have hr := docOk_isRun h
 have hs := runOk_start hr
 unfold runOk at hr
 rw [Bool.and_eq_true] at hr
 have h1 := of_decide_eq_true hr.1
 unfold edsN at h1
 rw [if_pos hs] at h1
 have h2 : (edsRun d.start (logE d.log)).2 = (logE d.log).length := by rw [logE_length]; omega
 have := isText_len (runPuts _ _ h2 e he)
 omega
theorem docOk_start_len {d : Dc} (h : docOk d = true) : d.start.length ≤ 400 := isText_len (runOk_start (docOk_isRun h))
theorem docOk_text_len {d : Dc} (h : docOk d = true) : d.text.length ≤ 400 := isText_len (runOk_text (docOk_isRun h))
theorem canT_small {t : List UInt8} {u r : List Ed} (h : canT t u r = true) : (u.length ≤ 1000 ∧ r.length ≤ 1000) ∧ (∀ e ∈ u, e.2.2.length ≤ 1000) ∧ ∀ e ∈ r, e.2.2.length ≤ 1000 := by
 unfold canT stOk at h
 simp only [Bool.and_eq_true] at h
 obtain ⟨⟨h1, h2⟩, _⟩ := h
 have k1 := stFit_len h1
 have k2 := stFit_len h2
 have sm : ∀ e : Ed, smallE e = true → e.2.2.length ≤ 1000 := fun e he => by
  unfold smallE edSmall at he
  simp only [Bool.and_eq_true, decide_eq_true_eq] at he
  first | omega | (have := isText_len he.2; omega) | (have := isText_len he.2.2; omega) | (have := isText_len he.2.2.2; omega)
 exact ⟨⟨by omega, by omega⟩, fun e he => sm e (stFit_all h1 e he), fun e he => sm e (stFit_all h2 e he)⟩
theorem docOk_mem_small {d : Dc} (h : docOk d = true) : ∀ m ∈ d.mem, (m.2.2.1.length ≤ 1000 ∧ m.2.2.2.length ≤ 1000) ∧ (∀ e ∈ m.2.2.1, e.2.2.length ≤ 1000) ∧ ∀ e ∈ m.2.2.2, e.2.2.length ≤ 1000 := by
 intro m hm
 have h2 : memOk d.text 0 d.mem = true := by
  cases h3 : memOk d.text 0 d.mem
  ·rw [docOk_mem h3] at h; cases h
  ·rfl
 exact canT_small (memOk_each _ _ h2 m hm)

/-- A stack of the call's own, as a call gives it. -/
def GivesStk (u r : List Ed) (w : World) (e : Ending) (w' : World) : Prop := ∃ A c fp B d gp, e = .returned (.agg #[.slice A u.length c, .slice B r.length d]) ∧ OwS w' w.heap.size A u c fp B r d gp ∧ Below w.heap.size w w'

set_option maxHeartbeats 8000000 in
theorem l10Stack_any (A : Option Addr) (u : List Ed) (c : Nat) (B : Option Addr) (r : List Ed) (d : Nat) (w : World) (hul : u.length ≤ 1000) (hrl : r.length ≤ 1000) (hup : ∀ e ∈ u, e.2.2.length ≤ 1000) (hrp : ∀ e ∈ r, e.2.2.length ≤ 1000) (hU : Es w A u) (hR : Es w B r) :
  Calls Tryz.prog 87 #[.agg #[.slice A u.length c, .slice B r.length d]] w (GivesStk u r w) := by
 have hal := ((Below.refl w.heap.size w).alloc (Nat.le_refl _) (.cells #[.slice A u.length c, .slice B r.length d] 48)).alloc (by simp) (.cells #[.slice none 0 0, .slice none 0 0] 48)
 have hbx := (Blk.new w #[.slice A u.length c, .slice B r.length d] 48).alloc (.cells #[.slice none 0 0, .slice none 0 0] 48)
 have hrx := Blk.new (w.alloc (.cells #[.slice A u.length c, .slice B r.length d] 48)) #[.slice none 0 0, .slice none 0 0] 48
 simp only [World.size_alloc] at hrx
 have hzw : ((w.alloc (.cells #[.slice A u.length c, .slice B r.length d] 48)).alloc (.cells #[.slice none 0 0, .slice none 0 0] 48)).heap.size = w.heap.size + 2 := by simp
 have HB := Lib.hid hal
 have BX := Lib.hid hbx
 have RX := Lib.hid hrx
 have HU := Lib.hid (show ∀ W, Below w.heap.size w W → Es W A u from fun W h => hU.below h)
 have HRR := Lib.hid (show ∀ W, Below w.heap.size w W → Es W B r from fun W h => hR.below h)
 have zs := BX.out.lt
 have p0 := BX.out.cell 0
 have p1 := BX.out.cell 1
 clear hal hbx hrx hU hR
 go_enter Tryz.func87, Tryz.ntmps87
 go_upto_region 1 with fail
 generalize (w.alloc (.cells #[.slice A u.length c, .slice B r.length d] 48)).alloc (.cells #[.slice none 0 0, .slice none 0 0] 48) = W at *
 have HS := Lib.hid (show ∀ Y, Below W.heap.size W Y → (fun V => V.cell? ⟨w.heap.size, 0, none⟩ = some (.slice A u.length c) ∧ V.cell? ⟨w.heap.size, 1, none⟩ = some (.slice B r.length d)) Y from fun Y h => ⟨(h.cell (p := ⟨w.heap.size, 0, none⟩) zs).trans p0, (h.cell (p := ⟨w.heap.size, 1, none⟩) zs).trans p1⟩)
 have HS1 := Lib.hid (show ∀ Y Z, (fun V => V.cell? ⟨w.heap.size, 0, none⟩ = some (.slice A u.length c) ∧ V.cell? ⟨w.heap.size, 1, none⟩ = some (.slice B r.length d)) Y → Keeps [w.heap.size + 1] Y Z → w.heap.size < Y.heap.size → (fun V => V.cell? ⟨w.heap.size, 0, none⟩ = some (.slice A u.length c) ∧ V.cell? ⟨w.heap.size, 1, none⟩ = some (.slice B r.length d)) Z from fun Y Z h hk hz => ⟨(World.cell?_of_block (hk.block _ hz (by simp))).trans h.1, (World.cell?_of_block (hk.block _ hz (by simp))).trans h.2⟩)
 refine wp_region_held_drew (S := (fun V => V.cell? ⟨w.heap.size, 0, none⟩ = some (.slice A u.length c) ∧ V.cell? ⟨w.heap.size, 1, none⟩ = some (.slice B r.length d))) (by kernel_rfl) (by exact ⟨(HS.out _ (Below.refl _ _).drew).1, (HS.out _ (Below.refl _ _).drew).2⟩) (fun hHeld => ?_)
 refine wpAnyH_take (i := 0) (oi := ?_) (v := ?_) ?_ ?_ ?_ ?_ ?_ ?_ (by exact hHeld) ?_
 rotate_left 2
 ·(simp only [List.getElem?_toArray, List.getElem?_cons_zero]; try rfl)
 ·kernel_rfl
 ·kernel_rfl
 ·kernel_rfl
 ·exact fun _ _ _ h => h
 ·refine Or.inl ⟨by rfl, ?_⟩
  (intro V hSV; (try dsimp only at hSV); obtain ⟨q0, q1⟩ := hSV; go_simp; try with_reducible rfl)
 (try simp only [LY9])
 refine wpAnyH_take (i := 1) (oi := ?_) (v := ?_) ?_ ?_ ?_ ?_ ?_ ?_ (by exact hHeld) ?_
 rotate_left 2
 ·(simp only [LX9]; try rfl)
 ·kernel_rfl
 ·kernel_rfl
 ·kernel_rfl
 ·exact fun _ _ _ h => h
 ·refine Or.inl ⟨by rfl, ?_⟩
  (intro V hSV; (try dsimp only at hSV); obtain ⟨q0, q1⟩ := hSV; go_simp; try with_reducible rfl)
 (try simp only [LY9])
 refine wpAnyH_take (i := 3) (oi := ?_) (v := ?_) ?_ ?_ ?_ ?_ ?_ ?_ (by exact hHeld) ?_
 rotate_left 2
 ·(simp only [LX9]; try rfl)
 ·kernel_rfl
 ·kernel_rfl
 ·kernel_rfl
 ·exact fun _ _ _ h => h
 ·refine Or.inl ⟨by rfl, ?_⟩
  (intro V hSV; (try dsimp only at hSV); obtain ⟨q0, q1⟩ := hSV; go_simp; try with_reducible rfl)
 (try simp only [LY9])
 refine wpAnyH_take (i := 4) (oi := ?_) (v := ?_) ?_ ?_ ?_ ?_ ?_ ?_ (by exact hHeld) ?_
 rotate_left 2
 ·(simp only [LX9]; try rfl)
 ·kernel_rfl
 ·kernel_rfl
 ·kernel_rfl
 ·exact fun _ _ _ h => h
 ·refine Or.inl ⟨by rfl, ?_⟩
  (intro V hSV; (try dsimp only at hSV); obtain ⟨q0, q1⟩ := hSV; go_simp; try with_reducible rfl)
 (try simp only [LY9])
 have HE := Lib.hid (show Below W.heap.size W W.drew from (Below.refl _ _).drew)
 generalize W.drew = Y at *
 refine wpAnyH_ready (rs := [2]) (by kernel_rfl) (by simp) ?_
 refine AllReadyH.cons (o := ?_) ?_ (fun K hK => ?_) AllReadyH.nil
 rotate_left 1
 ·(simp only [LX9]; try rfl)
 go_simp
 refine (l08Copy_any A u c _ hul hup (HU.out _ (below_then HB.out HE.out))).mono ?_
 rintro e Y ⟨A1, c1, f1, rfl, ho1, hb⟩
 have H1 := Lib.hid (ho1.mono HE.out.size)
 have HR1 := Lib.hid ho1.range
 have HE := Lib.hid (below_then HE.out hb)
 clear ho1 hb
 go_wp2_with fail
 refine hK.out _ _ (by exact HS.out _ HE.out) (fun hHeld => ?_)
 clear hK K
 (try simp only [LY9])
 refine wpAnyH_ready (rs := [5]) (by kernel_rfl) (by simp) ?_
 refine AllReadyH.cons (o := ?_) ?_ (fun K hK => ?_) AllReadyH.nil
 rotate_left 1
 ·(simp only [LX9]; try rfl)
 go_simp
 refine (l08Copy_any B r d _ hrl hrp (HRR.out _ (below_then HB.out HE.out))).mono ?_
 rintro e Y ⟨A2, c2, f2, rfl, ho2, hb⟩
 have H2 := Lib.hid (ho2.mono HE.out.size)
 have HR2 := Lib.hid ho2.range
 have H1 := Lib.hid (H1.out.below hb)
 have HE := Lib.hid (below_then HE.out hb)
 clear ho2 hb
 go_wp2_with fail
 refine hK.out _ _ (by exact HS.out _ HE.out) (fun hHeld => ?_)
 clear hK K
 (try simp only [LY9])
 refine wpAnyH_take (i := 6) (oi := ?_) (v := ?_) ?_ ?_ ?_ ?_ ?_ ?_ (by exact hHeld) ?_
 rotate_left 2
 ·(simp only [LX9]; try rfl)
 ·kernel_rfl
 ·kernel_rfl
 ·kernel_rfl
 ·exact fun _ _ _ h => h
 ·refine Or.inl ⟨by rfl, ?_⟩
  (intro V hSV; (try dsimp only at hSV); obtain ⟨q0, q1⟩ := hSV; go_simp; try with_reducible rfl)
 (try simp only [LY9])
 refine wpAnyH_ready (rs := [7]) (by kernel_rfl) (by simp) ?_
 refine AllReadyH.cons (o := ?_) ?_ (fun K hK => ?_) AllReadyH.nil
 rotate_left 1
 ·(simp only [LX9]; try rfl)
 have RX := Lib.hid (RX.out.below HE.out)
 have q0 := RX.out.cell 0
 have q1 := RX.out.cell 1
 have g0 := RX.out.frozen 0
 have g1 := RX.out.frozen 1
 have hke := ((Keeps.refl [w.heap.size + 1] Y).set (List.mem_singleton.2 rfl) 0 (.slice A1 u.length c1)).set (List.mem_singleton.2 rfl) 1 (.slice A2 r.length c2)
 have H1 := Lib.hid (H1.out.keeps hke (fun k hk => by have := (H1.out.range k hk).1; simp; omega))
 have H2 := Lib.hid (H2.out.keeps hke (fun k hk => by have := (H2.out.range k hk).1; simp; omega))
 have RX := Lib.hid (show Blk _ _ #[.slice A1 u.length c1, .slice A2 r.length c2] 48 from (RX.out.set 0 (.slice A1 u.length c1)).set 1 (.slice A2 r.length c2))
 have HF := Lib.hid (((HB.out.trans (HE.out.mono (by omega))).setCell (p := ⟨w.heap.size + 1, 0, none⟩) (by simp) (.slice A1 u.length c1)).setCell (p := ⟨w.heap.size + 1, 1, none⟩) (by simp) (.slice A2 r.length c2))
 have HG := Lib.hid (HS1.out _ _ (HS.out _ HE.out) hke (by have := HE.out.size; omega))
 clear hke
 go_simp
 clear q0 q1 g0 g1
 generalize (Y.setCell ⟨w.heap.size + 1, 0, none⟩ (.slice A1 u.length c1)).setCell ⟨w.heap.size + 1, 1, none⟩ (.slice A2 r.length c2) = Z at *
 refine hK.out _ _ (by exact HG.out) (fun hHeld => ?_)
 clear hK K
 (try simp only [LY9])
 refine wpAnyH_done (by kernel_rfl) ?_ _
 have q0 := RX.out.cell 0
 have q1 := RX.out.cell 1
 go_wp2
 refine bodyPost_ret (v := .agg #[.slice A1 u.length c1, .slice A2 r.length c2]) (by simp [results, Tryz.results87, go_sem, q0, q1]) rfl ?_
 exact ⟨A1, c1, f1, A2, c2, f2, rfl, ⟨H1.out.mono (by omega), H2.out.mono (by omega), fun k h1 h2 => by
  have := (HR1.out k h1).2
  have := (HR2.out k h2).1
  omega⟩, HF.out⟩
end Go.Proofs.YtaekanhjkpoifaaGreatDoor
