/-
  Chapter 12, the program's last request of a session: contract. Own work.
-/
import Derived.Test.YtgpjjolgpppeeaaDoorM10
namespace Go.Proofs.YtgpjjolgpppeeaaDoor
open Go.RowKit Go.Shelf P
set_option linter.unusedVariables false
set_option linter.unusedSimpArgs false
set_option maxRecDepth 100000
attribute [local go_sem] Oper.semAt_some

theorem boxed_below9 {W W' : World} {b : Nat} {t : TypeId} {v : Value} (h : Boxed W b t v) (hb : Below W.heap.size W W') : Boxed W' b t v := (hb.block b h.lt).trans h
theorem keepsFrom9 {W W' : World} (B : Nat) (hb : Below W.heap.size W W') : KeepsFrom B W W' := ⟨hb.size, fun k o _ hk ho => (hb.block k (Array.getElem?_eq_some_iff.1 hk).1).trans hk⟩

set_option maxHeartbeats 8000000 in
theorem lastAsked_any (A : Option Addr) (es : List Evt) (c lo hi : Nat) (fE : List Nat) (n : Int) (w : World) (hne : es.length + sumB ebt es ≤ 1048576) (hT : Tab w) (hE : OwnL 83 Lay.rpL w lo hi A es c fE) :
    Calls Tryd.prog 61 #[.slice A es.length c, .int .i64 n] w fun e w' => e = .returned (.int .i64 (asked es n es.length)) ∧ Below w.heap.size w w' := by
  obtain ⟨H, hM⟩ := evMem_of hE
  have he6 : es.length ≤ 1048576 := by omega
  obtain ⟨AS, hAS⟩ : ∃ z, asked es n es.length = z := ⟨_, rfl⟩
  rw [hAS]
  have HAS := Lib.hid hAS
  clear hAS
  refine (callsIn_wide (n := 6)).1 ?_
  refine callsIn_of_wp_marks Tryd.func61 rfl trivial ?_ rfl
  simp only [Tryd.ntmps61, List.size_toArray, List.length_cons, List.length_nil, Nat.reduceAdd, Nat.reduceSub, Array.replicate_succ, Array.replicate_zero, List.push_toArray, List.append_toArray, List.nil_append, List.cons_append]
  gi_wp2_with (refine ⟨trivial, ?_⟩; gi_at_call 99; refine (callsIn_wide.2 (backward_any A es.length c _)).mono ?_; rintro e w2 ⟨rfl, rfl⟩)
  have bN := ((Boxed.new w 3 (.int .i64 n)).alloc (.cells #[.int .i64 0] 3)).alloc (.cells #[.slice A es.length c] 40)
  have bR := (Boxed.new (w.alloc (.cells #[.int .i64 n] 3)) 3 (.int .i64 0)).alloc (.cells #[.slice A es.length c] 40)
  have bS := Boxed.new ((w.alloc (.cells #[.int .i64 n] 3)).alloc (.cells #[.int .i64 0] 3)) 40 (.slice A es.length c)
  simp only [World.size_alloc] at bR bS
  have hB0 : Below w.heap.size w (((w.alloc (.cells #[.int .i64 n] 3)).alloc (.cells #[.int .i64 0] 3)).alloc (.cells #[.slice A es.length c] 40)) := (((Below.refl w.heap.size w).alloc (Nat.le_refl _) _).alloc (by simp) _).alloc (by simp; omega) _
  have hsz : (((w.alloc (.cells #[.int .i64 n] 3)).alloc (.cells #[.int .i64 0] 3)).alloc (.cells #[.slice A es.length c] 40)).heap.size = w.heap.size + 3 := by simp
  obtain ⟨W0, hW0⟩ : ∃ W0, ((w.alloc (.cells #[.int .i64 n] 3)).alloc (.cells #[.int .i64 0] 3)).alloc (.cells #[.slice A es.length c] 40) = W0 := ⟨_, rfl⟩
  rw [hW0] at bN bR bS hB0 hsz ⊢
  clear hW0
  refine wpIn_rangeFunc_ownH (F := Fence.wide) (n := 6) rfl (by omega) (gf := 109) (lb := #[.pointer (some ⟨w.heap.size + 1 + 1, 0, none⟩)]) rfl trivial (enters_of Tryd.func109 (by kernel_rfl) rfl)
    (backward_stops Fence.wide (6 - 1) trivial rfl (by omega) (w.heap.size + 1 + 1) (w.heap.size + 3) w A es c H he6 hM W0 hB0 (by omega) (by omega) (by omega) bS.cell) belowK_t (belowK_b (by omega)) (Below.refl _ _) (fun _ => rfl)
    (fun pre W => (∀ x ∈ pre, isFr (es[x.1]'x.2) n = false) ∧ Boxed W w.heap.size 3 (.int .i64 n) ∧ Boxed W (w.heap.size + 1) 3 (.int .i64 0) ∧ Boxed W (w.heap.size + 1 + 1) 40 (.slice A es.length c) ∧ Below w.heap.size w W)
    (fun c pre W => ∃ v : Int, (c = .ret ∧ ∃ q x, pre = q ++ [x] ∧ (∀ y ∈ q, isFr (es[y.1]'y.2) n = false) ∧ isFr (es[x.1]'x.2) n = true ∧ v = (x.1 : Int)) ∧ Boxed W (w.heap.size + 1) 3 (.int .i64 v) ∧ Below w.heap.size w W)
    (OwnFrom.and (ownFrom_pure _ _) (OwnFrom.and (Go.Own.from (boxed_own _ _ _) _) (OwnFrom.and (Go.Own.from (boxed_own _ _ _) _) (OwnFrom.and (Go.Own.from (boxed_own _ _ _) _) (ownFrom_below (Nat.le_refl _) (by omega))))))
    (fun c s X Y row hs hg hr => by
      obtain ⟨v, h1, h2, h3⟩ := hs
      exact ⟨v, h1, boxed_own _ 3 (fun (_ : Unit) => .int .i64 v) () X Y row h2 hg (fun r e => (hr r e).2), ownFrom_below (β := Unit) (B := W0.heap.size) (Nat.le_refl w.heap.size) (by omega) () X Y row h3 hg hr⟩)
    ⟨fun x hx => by simp at hx, bN, bR, bS, hB0⟩
    (fun x a' W => ∃ Bx, w.heap.size + 1 + 1 < Bx ∧ Blk W Bx #[.int .i64 (es[x.1]'x.2).1, .int .i64 (es[x.1]'x.2).2.1, .int .i64 (es[x.1]'x.2).2.2.1, .slice (H x).1 (es[x.1]'x.2).2.2.2.length (H x).2] 83 ∧ a' = { tmps := #[.slice A es.length c, .int .i64 n, undef, .pointer (some ⟨w.heap.size, 0, none⟩), .pointer (some ⟨w.heap.size + 1, 0, none⟩), .int .i64 (x.1 : Int), .pointer (some ⟨Bx, 0, none⟩), undef, undef, .slice A es.length c, (.func (.func 109) #[] #[.pointer (some ⟨w.heap.size + 1 + 1, 0, none⟩)]), .int .i64 (x.1 : Int), .agg #[.int .i64 (es[x.1]'x.2).1, .int .i64 (es[x.1]'x.2).2.1, .int .i64 (es[x.1]'x.2).2.2.1, .slice (H x).1 (es[x.1]'x.2).2.2.2.length (H x).2], undef, undef, undef, undef, undef, undef, undef, undef, undef, undef, undef, undef, undef, undef, undef, undef, undef, undef, undef], defers := [] })
    (fun x a' s X Y row hs hg hr => by obtain ⟨Bx, h1, h2, h3⟩ := hs; exact ⟨Bx, h1, blk_own9 Bx _ 83 () X Y row h2 hg (fun r e => (hr r e).2), h3⟩)
    ?assign ?body ?done ?stop
  case assign =>
    rintro l pre x W K ⟨hno, bN1, bR1, bS1, hB1⟩ hK
    dsimp only [evEnc]
    have hlt := bR1.lt
    have hls := bS1.lt
    gi_wp2
    exact hK _ _ ((KeepsOthers.alloc _ _).from _) ((Below.refl _ W).alloc (by omega) _) ⟨hno, bN1.alloc _, bR1.alloc _, bS1.alloc _, hB1.alloc hB1.size _⟩ ⟨W.heap.size, by omega, Blk.new W _ _, rfl⟩
  case body =>
    rintro l pre x a' W hl ⟨r, hr⟩ ⟨hno, bN1, bR1, bS1, hB1⟩ ⟨Bx, hBx, bX, rfl⟩ hlt
    obtain ⟨h1, h2, h3, h4, h5⟩ := hM.hd x
    have HNO := Lib.hid hno
    have hx6 : (es[x.1]'x.2).2.2.2.length ≤ 1048576 := by
      have h8 := sumB_mem ebt es x.1 x.2
      have h9 : (es[x.1]'x.2).2.2.2.length ≤ sumB ebt es := h8
      omega
    obtain ⟨z9, hz9⟩ : ∃ z, isFr (es[x.1]'x.2) n = z := ⟨_, rfl⟩
    have HZ9 := Lib.hid hz9
    obtain ⟨⟨ex, es9, ep, dl⟩, hee⟩ : ∃ e, es[x.1]'x.2 = e := ⟨_, rfl⟩
    rw [hee] at h1 h3 bX hz9 hx6 ⊢
    obtain ⟨DD, hDD⟩ : ∃ z, (H x).1 = z := ⟨_, rfl⟩
    obtain ⟨dc, hdc⟩ : ∃ z, (H x).2 = z := ⟨_, rfl⟩
    rw [hDD] at h3 h4 h5 bX ⊢
    rw [hdc] at h1 h2 h4 bX ⊢
    obtain ⟨f0, hf0⟩ : ∃ z, rqFd dl (gb dl 0) = z := ⟨_, rfl⟩
    obtain ⟨f1, hf1⟩ : ∃ z, rqFd dl (gb dl 1) = z := ⟨_, rfl⟩
    obtain ⟨f2, hf2⟩ : ∃ z, rqFd dl (wd dl 2) = z := ⟨_, rfl⟩
    obtain ⟨f3, hf3⟩ : ∃ z, rqFd dl (wd dl 4) = z := ⟨_, rfl⟩
    obtain ⟨f4, hf4⟩ : ∃ z, rqFd dl (wd dl 6) = z := ⟨_, rfl⟩
    obtain ⟨t, ht⟩ : ∃ z, rqT dl = z := ⟨_, rfl⟩
    obtain ⟨g, hg⟩ : ∃ z, rqGood dl = z := ⟨_, rfl⟩
    have HP := implReqParse_any DD dl dc W h1 h2 h4 h5 (hT.below hB1) (h3.below hB1)
    unfold GivesRq at HP
    simp only [hf0, hf1, hf2, hf3, hf4, ht, hg] at HP
    have HFR : Hid (z9 = (decide (ex = 1) && (g && decide (f1 = n)))) := Lib.hid (by rw [← hz9]; unfold isFr; simp only; rw [hg, hf1])
    have HP := Lib.hid HP
    have HB1 := Lib.hid hB1
    have b0 := bX.cell 0
    have b3 := bX.cell 3
    have hltx := bX.lt
    have hltr := bR1.lt
    have hltn := bN1.lt
    have hls := bS1.lt
    have HBN := Lib.hid bN1
    have HBR := Lib.hid bR1
    have HBS := Lib.hid bS1
    have HBX := Lib.hid bX
    clear hz9 hee hDD hdc hf0 hf1 hf2 hf3 hf4 ht hg h1 h2 h3 h4 h5 hx6 hno bN1 bR1 bS1 hB1 bX hM hE
    gi_wp2_with fail
    refine ⟨trivial, ?_⟩
    refine (CallsIn.inRound l (callsIn_wide.2 HP.out)).mono ?_
    rintro e w2 ⟨v, rfl, hown, hb2⟩
    obtain ⟨V, cv, rfl, hv1, hv2, _, _, _⟩ := own_plain9 hown
    have HBB := Lib.hid (hb2.trans (((Below.refl w2.heap.size w2).alloc (Nat.le_refl _) (.cells #[.int .i64 f0, .int .i64 f1, .int .i64 f2, .int .i64 f3, .int .i64 f4, .slice V t.length cv] 29)).mono hb2.size))
    have BQ := Lib.hid (Blk.new w2 #[.int .i64 f0, .int .i64 f1, .int .i64 f2, .int .i64 f3, .int .i64 f4, .slice V t.length cv] 29)
    have b0 := ((((Below.refl w2.heap.size w2).alloc (Nat.le_refl _) (.cells #[.int .i64 f0, .int .i64 f1, .int .i64 f2, .int .i64 f3, .int .i64 f4, .slice V t.length cv] 29)).cell (p := ⟨Bx, 0, none⟩) (Nat.lt_of_lt_of_le hltx hb2.size)).trans ((hb2.cell (p := ⟨Bx, 0, none⟩) hltx).trans b0))
    clear HP hown hb2 b3
    have bq1 := BQ.out.cell 1
    have bn := (boxed_below9 HBN.out HBB.out).cell
    have br := (boxed_below9 HBR.out HBB.out).cell
    have fr := (boxed_below9 HBR.out HBB.out).frozen
    cases g
    case false =>
      have HZF := Lib.hid (show z9 = false by rw [HFR.out, Bool.false_and, Bool.and_false])
      clear HFR
      gi_wp2
      exact ⟨keepsFrom9 _ HBB.out, HBB.out.mono (by omega), fun y hy => by
        rcases List.mem_append.1 hy with h | h
        · exact HNO.out y h
        · rw [List.mem_singleton.1 h, HZ9.out]; exact HZF.out, boxed_below9 HBN.out HBB.out, boxed_below9 HBR.out HBB.out, boxed_below9 HBS.out HBB.out, below_then HB1.out HBB.out⟩
    by_cases c1 : ex = 1
    case neg =>
      have d1 : (ex == 1) = false := by simp [c1]
      have HZF := Lib.hid (show z9 = false by rw [HFR.out, decide_eq_false c1, Bool.false_and])
      clear HFR c1
      gi_wp2
      exact ⟨keepsFrom9 _ HBB.out, HBB.out.mono (by omega), fun y hy => by
        rcases List.mem_append.1 hy with h | h
        · exact HNO.out y h
        · rw [List.mem_singleton.1 h, HZ9.out]; exact HZF.out, boxed_below9 HBN.out HBB.out, boxed_below9 HBR.out HBB.out, boxed_below9 HBS.out HBB.out, below_then HB1.out HBB.out⟩
    have d1 : (ex == 1) = true := by simp [c1]
    have HC1 := Lib.hid c1
    clear c1
    by_cases c2 : f1 = n
    case neg =>
      have d2 : (f1 == n) = false := by simp [c2]
      have HZF := Lib.hid (show z9 = false by rw [HFR.out, decide_eq_false c2, Bool.and_false, Bool.and_false])
      clear HFR c2
      gi_wp2
      exact ⟨keepsFrom9 _ HBB.out, HBB.out.mono (by omega), fun y hy => by
        rcases List.mem_append.1 hy with h | h
        · exact HNO.out y h
        · rw [List.mem_singleton.1 h, HZ9.out]; exact HZF.out, boxed_below9 HBN.out HBB.out, boxed_below9 HBR.out HBB.out, boxed_below9 HBS.out HBB.out, below_then HB1.out HBB.out⟩
    have d2 : (f1 == n) = true := by simp [c2]
    have HZT := Lib.hid (show z9 = true by rw [HFR.out, decide_eq_true HC1.out, decide_eq_true c2]; rfl)
    clear HFR c2
    gi_wp2
    exact ⟨(keepsFrom9 _ HBB.out).trans ((KeepsOthers.setCell _ _ _).from _), _, ⟨rfl, pre, x, rfl, HNO.out, by rw [HZ9.out]; exact HZT.out, rfl⟩, (boxed_below9 HBR.out HBB.out).set _, (below_then HB1.out HBB.out).setCell (p := ⟨w.heap.size + 1, 0, none⟩) (by simp) _⟩
  case done =>
    rintro D ys W hD rfl ⟨hno, bN1, bR1, bS1, hB1⟩ hK
    have hz : AS = -1 := by rw [← HAS.out]; exact asked_none es.length (Nat.le_refl _) (fun j hj => hno ⟨j, hj⟩ (ksd_mem (Nat.le_refl _) j hj (by omega)))
    subst hz
    have hcr := bR1.cell
    have hfr := bR1.frozen
    have hltr := bR1.lt
    gi_wp2
    have hK2 := (KeepsOthers.setCell W ⟨w.heap.size + 1, 0, none⟩ (.int .i64 (-1))).same D _ hK rfl
    have hB2 := hB1.setCell (p := ⟨w.heap.size + 1, 0, none⟩) (by simp) (.int .i64 (-1))
    have hc2 : (W.setCell ⟨w.heap.size + 1, 0, none⟩ (.int .i64 (-1))).cell? ⟨w.heap.size + 1, 0, none⟩ = some (.int .i64 (-1)) := World.cell?_setCell_same' _ _ _ (by rw [hcr]; rfl)
    refine ⟨by simp, .inl ⟨_, _, rfl, run_takeDeferred hK2, ?_⟩⟩
    have hc4 := (World.cell?_of_block (w := W.setCell ⟨w.heap.size + 1, 0, none⟩ (.int .i64 (-1))) (World.putObj_heap_other (o := .deferred none) (k := w.heap.size + 1) (r := D) (by omega))).trans hc2
    refine ⟨.int .i64 (-1), ?_, rfl, ?_⟩
    · simp [results, Tryd.results61, go_sem, hc4]
    · exact hB2.trans (belowK_b (w := w) (Nat.le_refl _) _ D _ _ (by omega) hK2 rfl rfl)
  case stop =>
    rintro D c9 pre W hD ⟨k, hk, rfl⟩ ⟨v, ⟨rfl, q, x, hq, hqn, hx, rfl⟩, bR1, hB1⟩ hK
    have hz : AS = (x.1 : Int) := by
      rw [← HAS.out]
      obtain ⟨k', rfl⟩ : ∃ k', k = k' + 1 := by
        cases k with
        | zero => exact absurd (congrArg List.length hq) (by simp [ksd])
        | succ k' => exact ⟨k', rfl⟩
      rw [ksd_succ (by omega)] at hq
      obtain ⟨hq1, hq2⟩ := List.append_inj' hq rfl
      have hxi : es.length - 1 - k' = x.1 := by
        have h9 := List.singleton_inj.1 hq2
        exact congrArg Subtype.val h9
      refine asked_stop x.2 hx es.length x.2 (Nat.le_refl _) (fun j hj hij => ?_)
      exact hqn ⟨j, hj⟩ (by rw [← hq1]; exact ksd_mem (by omega) j hj (by omega))
    subst hz
    have hcr := bR1.cell
    have hltr := bR1.lt
    gi_wp2
    refine ⟨by simp, .inl ⟨_, _, rfl, run_takeDeferred hK, ?_⟩⟩
    have hc4 := (World.cell?_of_block (w := W) (World.putObj_heap_other (o := .deferred none) (k := w.heap.size + 1) (r := D) (by omega))).trans hcr
    refine ⟨.int .i64 (x.1 : Int), ?_, rfl, ?_⟩
    · simp [results, Tryd.results61, go_sem, hc4]
    · exact hB1.trans (belowK_b (w := w) (Nat.le_refl _) _ D _ _ (by omega) hK rfl rfl)
end Go.Proofs.YtgpjjolgpppeeaaDoor
