/-
  Chapter 12, how often a session was picked while its last request was pending: contract of the program. Own work.
-/
import Derived.Test.YtgpjjolgpppeeaaDoorM11
namespace Go.Proofs.YtgpjjolgpppeeaaDoor
open Go.RowKit P
set_option linter.unusedVariables false
set_option linter.unusedSimpArgs false
set_option maxRecDepth 100000

theorem Sl.drop12 {α : Type} {n : Nat} {R : World → List Value → α → Prop} {w : World} {g : Nat} {l : List α} (h : Sl n R w (some ⟨g, 0, none⟩) l) (v : Nat) : Sl n R w (some ⟨g, v * n, none⟩) (l.drop v) := by
  intro k hk
  rw [List.length_drop] at hk
  obtain ⟨b, off, us, hA, hlt, hus, hc, hr⟩ := h (v + k) (by omega)
  cases hA
  refine ⟨g, v * n, us, rfl, hlt, hus, fun j hj => ?_, ?_⟩
  · have h9 := hc j hj
    rw [Nat.zero_add, Nat.add_mul] at h9
    rw [← Nat.add_assoc]
    exact h9
  · rw [List.getElem_drop]
    exact hr
theorem Sl.take9 {α : Type} {n : Nat} {R : World → List Value → α → Prop} {w : World} {A : Option Addr} {l : List α} (h : Sl n R w A l) (m : Nat) : Sl n R w A (l.take m) := by
  intro k hk
  rw [List.length_take] at hk
  obtain ⟨b, off, us, hA, hlt, hus, hc, hr⟩ := h k (by omega)
  exact ⟨b, off, us, hA, hlt, hus, hc, by rw [List.getElem_take]; exact hr⟩
theorem slcV_from (g n c k : Nat) (hk : k ≤ n) (hc : n ≤ c) (hc9 : c ≤ maxLen) : ∃ A', (∀ W, (Instr.slice 40 (.slice (some ⟨g, 0, none⟩) n c) (some (.int .i64 (k : Int))) none none).run Tryd.prog W = .ok (.slice A' (n - k) (c - k)) W) ∧ ∀ (w : World) l, l.length = n → Evs w (some ⟨g, 0, none⟩) l → Evs w A' (l.drop k) := by
  unfold maxLen at hc9
  have hz : ∀ W, (Go.sizeOf 83).run Tryd.prog W = .ok 4 W := fun W => by kernel_rfl
  have ht' : Tryd.prog.underlying 40 = some (.slice (Tryd.prog.elem 40)) := by simp [Program.elem, Tryd.underlying40]
  have he9 : Tryd.prog.elem 40 = 83 := by simp [Program.elem, Tryd.underlying40]

  by_cases h0 : c = k
  · refine ⟨some ⟨g, 0, none⟩, fun W => ?_, fun w l hl h => ?_⟩
    · rw [run_slice_l W 40 _ _ _ ht' .i64 _ (by omega) (by omega), he9, hz]
      simp [Result.andThen, sliced, h0]
    · have : l.drop k = [] := List.drop_eq_nil_of_le (by omega)
      rw [this]
      skip
      exact Sl.nil _ _ _ _
  · by_cases h1 : k = 0
    · subst h1
      refine ⟨some ⟨g, 0, none⟩, fun W => ?_, fun w l hl h => by rw [List.drop_zero]; exact h⟩
      rw [run_slice_l W 40 _ _ _ ht' .i64 _ (by omega) (by omega), he9, hz]
      skip
      simp [Result.andThen, sliced, Addr.add, h0]
    · refine ⟨some ⟨g, k * 4, none⟩, fun W => ?_, fun w l hl h => Sl.drop12 h k⟩
      rw [run_slice_l W 40 _ _ _ ht' .i64 _ (by omega) (by omega), he9, hz]
      have h2 : ¬ k * 4 = 0 := by omega
      simp [Result.andThen, sliced, Addr.add, h0, h1, h2]

theorem slcV_mid (g n c k e m : Nat) (hk : e = k + m) (he : e ≤ n) (hc : n ≤ c) (hc9 : c ≤ maxLen) : ∃ A', (∀ W, (Instr.slice 40 (.slice (some ⟨g, 0, none⟩) n c) (some (.int .i64 (k : Int))) (some (.int .i64 (e : Int))) none).run Tryd.prog W = .ok (.slice A' m (c - k)) W) ∧ ∀ (w : World) l, l.length = n → Evs w (some ⟨g, 0, none⟩) l → Evs w A' ((l.drop k).take m) := by
  unfold maxLen at hc9
  have hz : ∀ W, (Go.sizeOf 83).run Tryd.prog W = .ok 4 W := fun W => by kernel_rfl
  have ht' : Tryd.prog.underlying 40 = some (.slice (Tryd.prog.elem 40)) := by simp [Program.elem, Tryd.underlying40]
  have he9 : Tryd.prog.elem 40 = 83 := by simp [Program.elem, Tryd.underlying40]
  have hmk : e - k = m := by omega
  by_cases h0 : c = k
  · refine ⟨some ⟨g, 0, none⟩, fun W => ?_, fun w l hl h => ?_⟩
    · rw [run_slice_lh W 40 _ _ _ ht' .i64 .i64 _ _ (by omega) (by omega) (by omega), he9, hz]
      simp [Result.andThen, sliced, h0, hmk]
    · have : l.drop k = [] := List.drop_eq_nil_of_le (by omega)
      rw [this]
      rw [List.take_nil]
      exact Sl.nil _ _ _ _
  · by_cases h1 : k = 0
    · subst h1
      refine ⟨some ⟨g, 0, none⟩, fun W => ?_, fun w l hl h => by rw [List.drop_zero]; exact h.take9 m⟩
      rw [run_slice_lh W 40 _ _ _ ht' .i64 .i64 _ _ (by omega) (by omega) (by omega), he9, hz]
      have hme : e = m := by omega
      simp [Result.andThen, sliced, Addr.add, h0, hmk, hme]
    · refine ⟨some ⟨g, k * 4, none⟩, fun W => ?_, fun w l hl h => (Sl.drop12 h k).take9 m⟩
      rw [run_slice_lh W 40 _ _ _ ht' .i64 .i64 _ _ (by omega) (by omega) (by omega), he9, hz]
      have h2 : ¬ k * 4 = 0 := by omega
      simp [Result.andThen, sliced, Addr.add, h0, h1, h2, hmk]

theorem sub_at {es : List Evt} {st m q : Nat} (hm : st + m ≤ es.length) (hq : q < m) (hq2 : q < ((es.drop st).take m).length) : ((es.drop st).take m)[q] = es[st + q]'(by omega) := by
  rw [List.getElem_take, List.getElem_drop]

set_option maxHeartbeats 32000000 in
theorem implWaits_any (A : Option Addr) (es : List Evt) (c lo hi : Nat) (fE : List Nat) (B : Option Addr) (os : List Ot) (d : Nat) (n : Int) (w : World) (hne : es.length + sumB ebt es ≤ 1048576) (hno : os.length + sumB obt os ≤ 1048576) (hT : Tab w) (hE : OwnL 83 Lay.rpL w lo hi A es c fE) (hO : Ots w B os) :
    Calls Tryd.prog 22 #[.slice A es.length c, .slice B os.length d, .int .i64 n] w fun e w' => e = .returned (.int .i64 (waitsV es os n)) ∧ Below w.heap.size w w' := by
  obtain ⟨WV, hWV⟩ : ∃ z, waitsV es os n = z := ⟨_, rfl⟩
  rw [hWV]
  have HWV := Lib.hid hWV
  clear hWV
  obtain ⟨ok, hok⟩ : ∃ z, outsOk es os = z := ⟨_, rfl⟩
  have HOK := Lib.hid hok
  clear hok
  have he6 : es.length ≤ 1048576 := by omega
  have ho6 : os.length ≤ 1048576 := by omega
  obtain ⟨hcc1, hcc2, _⟩ := hE.sl
  have hal := (Below.refl w.heap.size w).alloc (Nat.le_refl _) (.cells #[.int .i64 n] 3)
  have B5 := Lib.hid (Blk.new w #[.int .i64 n] 3)
  have HB := Lib.hid hal
  clear hal
  go_enter Tryd.func22, Tryd.ntmps22
  go_wp2_with fail
  generalize w.alloc (.cells #[.int .i64 n] 3) = W0 at *
  refine (implOutsOk_any A es c lo hi fE B os d _ hne hno (by exact hT.below HB.out) (by exact hE.below HB.out) (by exact hO.below HB.out)).mono ?_
  rintro e w1 ⟨rfl, hb⟩
  rw [HOK.out]
  have B5 := Lib.hid (B5.out.below hb)
  have HB := Lib.hid (below_then HB.out hb)
  clear hb
  cases ok
  case false =>
    have hz : WV = -1 := by rw [← HWV.out]; exact waits_no HOK.out
    subst hz
    go_wp2
    go_ret
    exact ⟨rfl, HB.out⟩
  have q5 := B5.out.cell 0
  obtain ⟨a, ha⟩ : ∃ z, asked es n es.length = z := ⟨_, rfl⟩
  have hge := asked_ge es n es.length
  rw [ha] at hge
  have HAK := Lib.hid ha
  clear ha
  go_wp2_with fail
  refine (lastAsked_any A es c lo hi fE n _ hne (by exact hT.below HB.out) (by exact hE.below HB.out)).mono ?_
  rintro e w2 ⟨rfl, hb⟩
  rw [HAK.out]
  have hal := (Below.refl w2.heap.size w2).alloc (Nat.le_refl _) (.cells #[.int .i64 a] 3)
  have B5 := Lib.hid ((B5.out.below hb).below hal)
  have B7 := Lib.hid (Blk.new w2 #[.int .i64 a] 3)
  have HB := Lib.hid (below_then (below_then HB.out hb) hal)
  clear hb hal q5
  go_upto_region 4 with fail
  generalize w2.alloc (.cells #[.int .i64 a] 3) = W2 at *
  generalize w2.heap.size = g7 at *
  have q5 := B5.out.cell 0
  have q7 := B7.out.cell 0
  have hlt5 := B5.out.lt
  have hlt7 := B7.out.lt
  by_cases c1 : a < 0
  case pos =>
    have hz : WV = -1 := by rw [← HWV.out]; exact waits_neg (by rw [HAK.out]; exact c1)
    subst hz
    go_wp2
    go_ret
    exact ⟨rfl, HB.out⟩
  obtain ⟨st, hst⟩ := Int.eq_ofNat_of_zero_le (show (0 : Int) ≤ a + 1 by omega)
  have hst0 : 0 < st := by omega
  have hst1 : st ≤ es.length := by omega
  have hws : IntKind.i64.wrap (a + 1) = (st : Int) := by rw [hst]; exact IntWalk.i64_in _ ⟨by omega, by omega⟩
  have HST := Lib.hid hst
  obtain ⟨gA, hA9⟩ : ∃ gA, A = some ⟨gA, 0, none⟩ := by
    obtain ⟨gA, _, _, _, _, _, _, hA9, _⟩ := ev_own hE 0 (show 0 < es.length by omega)
    exact ⟨gA, hA9⟩
  obtain ⟨A8, hsl2, hev⟩ := slcV_from gA es.length c st hst1 hcc1 hcc2
  have HEV := Lib.hid (fun (W : World) (hb : Below w.heap.size w W) => hev W es rfl (by rw [← hA9]; exact (hE.below hb).sl.2.2))
  have HIX := Lib.hid (laterIx_any B os d w.heap.size g7 n a W2 ho6 (hO.below HB.out) q5 q7 hlt5 hlt7)
  have HE := Lib.hid hE
  have HO := Lib.hid hO
  subst hA9
  clear hst hev hE hO hT
  go_wp2_with fail
  refine HIX.out.mono ?_
  rintro e w3 ⟨⟨r, rfl, hr⟩, hb⟩
  have B5 := Lib.hid (B5.out.below hb)
  have B7 := Lib.hid (B7.out.below hb)
  have HB := Lib.hid (below_then HB.out hb)
  clear hb q5 q7 hlt5 hlt7 HIX
  have q5 := B5.out.cell 0
  have q7 := B7.out.cell 0
  have hlt5 := B5.out.lt
  have hlt7 := B7.out.lt
  rcases hr with ⟨rfl, hnone⟩ | ⟨k, hk, rfl, hyes, hbef⟩
  · obtain ⟨m, hm⟩ : ∃ m, es.length - st = m := ⟨_, rfl⟩
    have hst2 : st + m ≤ es.length := by omega
    have HEND := Lib.hid (show endW es os n a = st + m by rw [endW_none hnone]; omega)
    have HEV8 := Lib.hid (fun (wr : World) (hb : Below w.heap.size w wr) => (show Evs wr A8 ((es.drop st).take m) by rw [List.take_of_length_le (by rw [List.length_drop]; omega)]; exact HEV.out wr hb))
    have HBF := Lib.hid HB.out
    have hn5 := q5
    have hl5 := hlt5
    rw [hm]
    clear hnone hm hsl2 q7 B7 hlt7
    have hL8 : ((es.drop st).take m).length = m := by rw [List.length_take, List.length_drop]; omega
    go_wp2
    go_loopw [10, 43] (fun cn q9 wr => ∃ q : Nat, q ≤ m ∧ q9 = .int .i64 q ∧ cn = .int .i64 (pkN es n st q : Nat) ∧ Below w.heap.size w wr ∧ wr.cell? ⟨w.heap.size, 0, none⟩ = some (.int .i64 n) ∧ w.heap.size < wr.heap.size) (fun _ q9 _ => m - (intOf q9).toNat)
    case atStart => exact ⟨0, Nat.zero_le _, rfl, rfl, HBF.out, hn5, hl5⟩
    case round =>
      obtain ⟨q, hq, rfl, rfl, hb, hcn, hlw⟩ := hrel
      have HB := Lib.hid hb
      by_cases hlq : q < m
      case neg =>
        have e9 : q = m := by omega
        subst e9
        have hz : WV = (pkN es n st q : Nat) := by rw [← HWV.out]; exact waits_end HOK.out (by rw [HAK.out]; exact HST.out) hst0 (by rw [HAK.out]; exact HEND.out)
        subst hz
        clear hb
        go_wp2
        go_ret
        exact ⟨rfl, HB.out⟩
      obtain ⟨b, off, ex, es9, ep, DD, dl, dc, hA9, hbl, hek, k0, k1, k2, k3, _, _, _, _, _, _⟩ := Evs.at_ (HEV8.out wr hb) q (by rw [hL8]; exact hlq)
      rw [sub_at hst2 hlq] at hek
      have HPK := Lib.hid (pkN_succ (n := n) (show st + q < es.length by omega) hek)
      have hpl := pkN_le es n st q
      obtain ⟨C, hC⟩ : ∃ z, pkN es n st q = z := ⟨_, rfl⟩
      have HCC := Lib.hid hC
      rw [hC] at hpl ⊢
      subst hA9
      have hqi : (q : Int) < (m : Int) := by omega
      have hq0 : (0 : Int) ≤ (q : Int) := by omega
      have hwc : IntKind.i64.wrap ((C : Int) + 1) = ((C + 1 : Nat) : Int) := by rw [IntWalk.i64_in _ ⟨by omega, by omega⟩]; omega
      have hal := (Below.refl wr.heap.size wr).alloc (Nat.le_refl _) (.cells #[.int .i64 ex, .int .i64 es9, .int .i64 ep, .slice DD dl.length dc] 83)
      have BX := Lib.hid (Blk.new wr #[.int .i64 ex, .int .i64 es9, .int .i64 ep, .slice DD dl.length dc] 83)
      have HB2 := Lib.hid (below_then hb hal)
      have hcn2 := (hal.cell (p := ⟨w.heap.size, 0, none⟩) hlw).trans hcn
      have hlw2 : w.heap.size < (wr.alloc (.cells #[.int .i64 ex, .int .i64 es9, .int .i64 ep, .slice DD dl.length dc] 83)).heap.size := by simp; omega
      clear hek hC hb hal hcn
      go_upto_region 14 with fail
      generalize wr.alloc (.cells #[.int .i64 ex, .int .i64 es9, .int .i64 ep, .slice DD dl.length dc] 83) = W2 at *
      have x0 := BX.out.cell 0
      have x1 := BX.out.cell 1
      by_cases c1 : ex = 2
      case neg =>
        have d1 : (ex == 2) = false := by simp [c1]
        have HN := Lib.hid (show pkN es n st (q + 1) = C by rw [HPK.out, HCC.out, if_neg (by unfold pkOf; simp; intro h; exact absurd h c1)]; rfl)
        clear c1
        go_wp2
        go_roundw
        case rel => exact ⟨q + 1, by omega, by go_num, by rw [HN.out], HB2.out, hcn2, hlw2⟩
        case measure => simp [intOf]; omega
      have d1 : (ex == 2) = true := by simp [c1]
      have HC1 := Lib.hid c1
      clear c1
      by_cases c2 : es9 = n
      case neg =>
        have d2 : (es9 == n) = false := by simp [c2]
        have HN := Lib.hid (show pkN es n st (q + 1) = C by rw [HPK.out, HCC.out, if_neg (by unfold pkOf; simp; intro _ h; exact c2 h)]; rfl)
        clear c2
        go_wp2
        go_roundw
        case rel => exact ⟨q + 1, by omega, by go_num, by rw [HN.out], HB2.out, hcn2, hlw2⟩
        case measure => simp [intOf]; omega
      have d2 : (es9 == n) = true := by simp [c2]
      have HN := Lib.hid (show pkN es n st (q + 1) = C + 1 by rw [HPK.out, HCC.out, if_pos (by unfold pkOf; simp [HC1.out, c2])])
      clear c2
      go_wp2
      go_roundw
      case rel => exact ⟨q + 1, by omega, by go_num, by rw [HN.out]; (first | done | rfl | simp), HB2.out, hcn2, hlw2⟩
      case measure => simp [intOf]; omega
  · obtain ⟨b1, off1, o1, u, x, s, p, q, r, f, y, i, j, AA, l, cc, CC, mm, dd, hB9, hbl1, hek, o0, _⟩ := (HO.out.below HB.out).at_ k hk
    have hrg := outs_lt HOK.out hk
    have hlt9 : a < os[k].1 := by
      unfold anP at hyes
      rw [Bool.and_eq_true, decide_eq_true_eq, decide_eq_true_eq] at hyes
      exact hyes.2
    obtain ⟨i0, hi0⟩ := Int.eq_ofNat_of_zero_le hrg.1
    have hend := endW_at (es := es) hk hbef hyes
    rw [hi0] at hend hlt9 hrg
    have ho1 : o1 = (i0 : Int) := by rw [← hi0, hek]
    subst ho1
    obtain ⟨m, hm⟩ : ∃ m, i0 + 1 - st = m := ⟨_, rfl⟩
    have hst9 := HST.out
    have hem : i0 + 1 = st + m := by omega
    have hst2 : st + m ≤ es.length := by omega
    have HEND := Lib.hid (show endW es os n a = st + m by rw [hend]; simp; omega)
    obtain ⟨A7, hsl3, hev3⟩ := slcV_mid gA es.length c st (i0 + 1) m hem (by omega) hcc1 hcc2
    have HEV8 := Lib.hid (fun (wr : World) (hb : Below w.heap.size w wr) => hev3 wr es rfl (HE.out.below hb).sl.2.2)
    have HBF := Lib.hid HB.out
    have hn5 := q5
    have hl5 := hlt5
    have hwi : IntKind.i64.wrap ((i0 : Int) + 1) = ((i0 + 1 : Nat) : Int) := by rw [IntWalk.i64_in _ ⟨by omega, by omega⟩]; omega
    have hki : (k : Int) < (os.length : Int) := by omega
    have hk0 : (0 : Int) ≤ (k : Int) := by omega
    have hk1 : decide ((k : Int) ≥ 0) = true := decide_eq_true hk0
    obtain ⟨e1, he1⟩ : ∃ e1, i0 + 1 = e1 := ⟨_, rfl⟩
    rw [he1] at hwi hsl3
    subst hB9
    clear hend hlt9 hrg hi0 hek hyes hbef hem hm hst9 he1 hev3
    go_upto_region 9 with fail
    refine wp_region_held_drew (S := (fun V => V.cell? ⟨g7, 0, none⟩ = some (.int .i64 a) ∧ V.cell? ⟨b1, off1 + k * 13, none⟩ = some (.int .i64 (i0 : Int)))) (by kernel_rfl) (by exact ⟨q7, o0⟩) (fun hHeld => ?_)
    refine wpAnyH_take (i := 0) (oi := ?_) (v := ?_) ?_ ?_ ?_ ?_ ?_ ?_ (by exact hHeld) ?_
    rotate_left 2
    · (simp only [List.getElem?_toArray, List.getElem?_cons_zero]; try rfl)
    · kernel_rfl
    · kernel_rfl
    · kernel_rfl
    · exact fun _ _ _ h => h
    · refine Or.inl ⟨by rfl, ?_⟩
      (intro V hSV; (try dsimp only at hSV); obtain ⟨q0, q1⟩ := hSV; go_simp; try with_reducible rfl)
    (try simp only [Act.put, List.setIfInBounds_toArray, List.set_cons_zero, List.set_cons_succ])
    refine wpAnyH_take (i := 1) (oi := ?_) (v := ?_) ?_ ?_ ?_ ?_ ?_ ?_ (by exact hHeld) ?_
    rotate_left 2
    · (simp only [List.getElem?_toArray, List.getElem?_cons_zero, List.getElem?_cons_succ]; try rfl)
    · kernel_rfl
    · kernel_rfl
    · kernel_rfl
    · exact fun _ _ _ h => h
    · refine Or.inl ⟨by rfl, ?_⟩
      (intro V hSV; (try dsimp only at hSV); obtain ⟨q0, q1⟩ := hSV; go_simp; try with_reducible rfl)
    (try simp only [Act.put, List.setIfInBounds_toArray, List.set_cons_zero, List.set_cons_succ])
    refine wpAnyH_take (i := 2) (oi := ?_) (v := ?_) ?_ ?_ ?_ ?_ ?_ ?_ (by exact hHeld) ?_
    rotate_left 2
    · (simp only [List.getElem?_toArray, List.getElem?_cons_zero, List.getElem?_cons_succ]; try rfl)
    · kernel_rfl
    · kernel_rfl
    · kernel_rfl
    · exact fun _ _ _ h => h
    · refine Or.inl ⟨by rfl, ?_⟩
      (intro V hSV; (try dsimp only at hSV); obtain ⟨q0, q1⟩ := hSV; go_simp; try with_reducible rfl)
    (try simp only [Act.put, List.setIfInBounds_toArray, List.set_cons_zero, List.set_cons_succ])
    refine wpAnyH_take (i := 3) (oi := ?_) (v := ?_) ?_ ?_ ?_ ?_ ?_ ?_ (by exact hHeld) ?_
    rotate_left 2
    · (simp only [List.getElem?_toArray, List.getElem?_cons_zero, List.getElem?_cons_succ]; try rfl)
    · kernel_rfl
    · kernel_rfl
    · kernel_rfl
    · exact fun _ _ _ h => h
    · refine Or.inl ⟨by rfl, ?_⟩
      (intro V hSV; (try dsimp only at hSV); obtain ⟨q0, q1⟩ := hSV; go_simp; try with_reducible rfl)
    (try simp only [Act.put, List.setIfInBounds_toArray, List.set_cons_zero, List.set_cons_succ])
    refine wpAnyH_take (i := 4) (oi := ?_) (v := ?_) ?_ ?_ ?_ ?_ ?_ ?_ (by exact hHeld) ?_
    rotate_left 2
    · (simp only [List.getElem?_toArray, List.getElem?_cons_zero, List.getElem?_cons_succ]; try rfl)
    · kernel_rfl
    · kernel_rfl
    · kernel_rfl
    · exact fun _ _ _ h => h
    · refine Or.inl ⟨by rfl, ?_⟩
      (intro V hSV; (try dsimp only at hSV); obtain ⟨q0, q1⟩ := hSV; go_simp; try with_reducible rfl)
    (try simp only [Act.put, List.setIfInBounds_toArray, List.set_cons_zero, List.set_cons_succ])
    refine wpAnyH_take (i := 5) (oi := ?_) (v := ?_) ?_ ?_ ?_ ?_ ?_ ?_ (by exact hHeld) ?_
    rotate_left 2
    · (simp only [List.getElem?_toArray, List.getElem?_cons_zero, List.getElem?_cons_succ]; try rfl)
    · kernel_rfl
    · kernel_rfl
    · kernel_rfl
    · exact fun _ _ _ h => h
    · refine Or.inl ⟨by rfl, ?_⟩
      (intro V hSV; (try dsimp only at hSV); obtain ⟨q0, q1⟩ := hSV; go_simp; try with_reducible rfl)
    (try simp only [Act.put, List.setIfInBounds_toArray, List.set_cons_zero, List.set_cons_succ])
    refine wpAnyH_take (i := 6) (oi := ?_) (v := ?_) ?_ ?_ ?_ ?_ ?_ ?_ (by exact hHeld) ?_
    rotate_left 2
    · (simp only [List.getElem?_toArray, List.getElem?_cons_zero, List.getElem?_cons_succ]; try rfl)
    · kernel_rfl
    · kernel_rfl
    · kernel_rfl
    · exact fun _ _ _ h => h
    · refine Or.inl ⟨by rfl, ?_⟩
      (intro V hSV; (try dsimp only at hSV); obtain ⟨q0, q1⟩ := hSV; go_simp; try with_reducible rfl)
    (try simp only [Act.put, List.setIfInBounds_toArray, List.set_cons_zero, List.set_cons_succ])
    refine wpAnyH_take (i := 7) (oi := ?_) (v := ?_) ?_ ?_ ?_ ?_ ?_ ?_ (by exact hHeld) ?_
    rotate_left 2
    · (simp only [List.getElem?_toArray, List.getElem?_cons_zero, List.getElem?_cons_succ]; try rfl)
    · kernel_rfl
    · kernel_rfl
    · kernel_rfl
    · exact fun _ _ _ h => h
    · refine Or.inl ⟨by rfl, ?_⟩
      (intro V hSV; (try dsimp only at hSV); obtain ⟨q0, q1⟩ := hSV; go_simp; try with_reducible rfl)
    (try simp only [Act.put, List.setIfInBounds_toArray, List.set_cons_zero, List.set_cons_succ])
    refine wpAnyH_take (i := 8) (oi := ?_) (v := ?_) ?_ ?_ ?_ ?_ ?_ ?_ (by exact hHeld) ?_
    rotate_left 2
    · (simp only [List.getElem?_toArray, List.getElem?_cons_zero, List.getElem?_cons_succ]; try rfl)
    · kernel_rfl
    · kernel_rfl
    · kernel_rfl
    · exact fun _ _ _ h => h
    · refine Or.inl ⟨by rfl, ?_⟩
      (intro V hSV; (try dsimp only at hSV); obtain ⟨q0, q1⟩ := hSV; go_simp; try with_reducible rfl)
    (try simp only [Act.put, List.setIfInBounds_toArray, List.set_cons_zero, List.set_cons_succ])
    refine wpAnyH_take (i := 9) (oi := ?_) (v := ?_) ?_ ?_ ?_ ?_ ?_ ?_ (by exact hHeld) ?_
    rotate_left 2
    · (simp only [List.getElem?_toArray, List.getElem?_cons_zero, List.getElem?_cons_succ]; try rfl)
    · kernel_rfl
    · kernel_rfl
    · kernel_rfl
    · exact fun _ _ _ h => h
    · refine Or.inl ⟨by rfl, ?_⟩
      (intro V hSV; (try dsimp only at hSV); obtain ⟨q0, q1⟩ := hSV; go_simp; try with_reducible rfl)
    (try simp only [Act.put, List.setIfInBounds_toArray, List.set_cons_zero, List.set_cons_succ])
    refine wpAnyH_take (i := 10) (oi := ?_) (v := ?_) ?_ ?_ ?_ ?_ ?_ ?_ (by exact hHeld) ?_
    rotate_left 2
    · (simp only [List.getElem?_toArray, List.getElem?_cons_zero, List.getElem?_cons_succ]; try rfl)
    · kernel_rfl
    · kernel_rfl
    · kernel_rfl
    · exact fun _ _ _ h => h
    · refine Or.inl ⟨by rfl, ?_⟩
      (intro V hSV; (try dsimp only at hSV); obtain ⟨q0, q1⟩ := hSV; go_simp; try with_reducible rfl)
    (try simp only [Act.put, List.setIfInBounds_toArray, List.set_cons_zero, List.set_cons_succ])
    refine wpAnyH_done (by kernel_rfl) ?_ _
    have HBF := Lib.hid (show Below w.heap.size w w3.drew from Below.drew HBF.out)
    clear hHeld
    have hL8 : ((es.drop st).take m).length = m := by rw [List.length_take, List.length_drop]; omega
    go_wp2
    go_loopw [10, 43] (fun cn q9 wr => ∃ q : Nat, q ≤ m ∧ q9 = .int .i64 q ∧ cn = .int .i64 (pkN es n st q : Nat) ∧ Below w.heap.size w wr ∧ wr.cell? ⟨w.heap.size, 0, none⟩ = some (.int .i64 n) ∧ w.heap.size < wr.heap.size) (fun _ q9 _ => m - (intOf q9).toNat)
    case atStart => exact ⟨0, Nat.zero_le _, rfl, rfl, HBF.out, hn5, hl5⟩
    case round =>
      obtain ⟨q, hq, rfl, rfl, hb, hcn, hlw⟩ := hrel
      have HB := Lib.hid hb
      by_cases hlq : q < m
      case neg =>
        have e9 : q = m := by omega
        subst e9
        have hz : WV = (pkN es n st q : Nat) := by rw [← HWV.out]; exact waits_end HOK.out (by rw [HAK.out]; exact HST.out) hst0 (by rw [HAK.out]; exact HEND.out)
        subst hz
        clear hb
        go_wp2
        go_ret
        exact ⟨rfl, HB.out⟩
      obtain ⟨b, off, ex, es9, ep, DD, dl, dc, hA9, hbl, hek, k0, k1, k2, k3, _, _, _, _, _, _⟩ := Evs.at_ (HEV8.out wr hb) q (by rw [hL8]; exact hlq)
      rw [sub_at hst2 hlq] at hek
      have HPK := Lib.hid (pkN_succ (n := n) (show st + q < es.length by omega) hek)
      have hpl := pkN_le es n st q
      obtain ⟨C, hC⟩ : ∃ z, pkN es n st q = z := ⟨_, rfl⟩
      have HCC := Lib.hid hC
      rw [hC] at hpl ⊢
      subst hA9
      have hqi : (q : Int) < (m : Int) := by omega
      have hq0 : (0 : Int) ≤ (q : Int) := by omega
      have hwc : IntKind.i64.wrap ((C : Int) + 1) = ((C + 1 : Nat) : Int) := by rw [IntWalk.i64_in _ ⟨by omega, by omega⟩]; omega
      have hal := (Below.refl wr.heap.size wr).alloc (Nat.le_refl _) (.cells #[.int .i64 ex, .int .i64 es9, .int .i64 ep, .slice DD dl.length dc] 83)
      have BX := Lib.hid (Blk.new wr #[.int .i64 ex, .int .i64 es9, .int .i64 ep, .slice DD dl.length dc] 83)
      have HB2 := Lib.hid (below_then hb hal)
      have hcn2 := (hal.cell (p := ⟨w.heap.size, 0, none⟩) hlw).trans hcn
      have hlw2 : w.heap.size < (wr.alloc (.cells #[.int .i64 ex, .int .i64 es9, .int .i64 ep, .slice DD dl.length dc] 83)).heap.size := by simp; omega
      clear hek hC hb hal hcn
      go_upto_region 14 with fail
      generalize wr.alloc (.cells #[.int .i64 ex, .int .i64 es9, .int .i64 ep, .slice DD dl.length dc] 83) = W2 at *
      have x0 := BX.out.cell 0
      have x1 := BX.out.cell 1
      by_cases c1 : ex = 2
      case neg =>
        have d1 : (ex == 2) = false := by simp [c1]
        have HN := Lib.hid (show pkN es n st (q + 1) = C by rw [HPK.out, HCC.out, if_neg (by unfold pkOf; simp; intro h; exact absurd h c1)]; rfl)
        clear c1
        go_wp2
        go_roundw
        case rel => exact ⟨q + 1, by omega, by go_num, by rw [HN.out], HB2.out, hcn2, hlw2⟩
        case measure => simp [intOf]; omega
      have d1 : (ex == 2) = true := by simp [c1]
      have HC1 := Lib.hid c1
      clear c1
      by_cases c2 : es9 = n
      case neg =>
        have d2 : (es9 == n) = false := by simp [c2]
        have HN := Lib.hid (show pkN es n st (q + 1) = C by rw [HPK.out, HCC.out, if_neg (by unfold pkOf; simp; intro _ h; exact c2 h)]; rfl)
        clear c2
        go_wp2
        go_roundw
        case rel => exact ⟨q + 1, by omega, by go_num, by rw [HN.out], HB2.out, hcn2, hlw2⟩
        case measure => simp [intOf]; omega
      have d2 : (es9 == n) = true := by simp [c2]
      have HN := Lib.hid (show pkN es n st (q + 1) = C + 1 by rw [HPK.out, HCC.out, if_pos (by unfold pkOf; simp [HC1.out, c2])])
      clear c2
      go_wp2
      go_roundw
      case rel => exact ⟨q + 1, by omega, by go_num, by rw [HN.out]; (first | done | rfl | simp), HB2.out, hcn2, hlw2⟩
      case measure => simp [intOf]; omega
end Go.Proofs.YtgpjjolgpppeeaaDoor
