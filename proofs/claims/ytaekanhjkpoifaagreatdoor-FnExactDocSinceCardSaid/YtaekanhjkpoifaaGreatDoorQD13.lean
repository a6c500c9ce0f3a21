/-
  Chapter 10, the edits since a version: contracts of the program and of the model. Own work.
-/
import Derived.Test.YtaekanhjkpoifaaGreatDoorQD12
import Derived.Test.YtaekanhjkpoifaaGreatDoorQK09
namespace Go.Proofs.YtaekanhjkpoifaaGreatDoor
open Go.RowKit P
set_option linter.unusedVariables false
set_option linter.unusedSimpArgs false
set_option maxRecDepth 100000

theorem Sl.dropN {α : Type} {n : Nat} {R : World → List Value → α → Prop} {w : World} {g : Nat} {l : List α} (h : Sl n R w (some ⟨g, 0, none⟩) l) (v : Nat) : Sl n R w (some ⟨g, v * n, none⟩) (l.drop v) := by
  intro k hk
  rw [List.length_drop] at hk
  obtain ⟨b, off, us, hA, hlt, hus, hc, hr⟩ := h (v + k) (by omega)
  cases hA
  refine ⟨g, v * n, us, rfl, hlt, hus, fun j hj => ?_, ?_⟩
  · have h9 := hc j hj
    rw [Nat.zero_add, Nat.add_mul] at h9
    rw [← Nat.add_assoc]
    exact h9
  · rw [List.getElem_drop]
    exact hr

theorem slcC_from (A : Option Addr) (n c k : Nat) (hP : (A = none → c = 0) ∧ ∀ x, A = some x → ∃ g, x = ⟨g, 0, none⟩) (hk : k ≤ n) (hc : n ≤ c) (hc9 : c ≤ maxLen) : ∃ A', (∀ W, (Instr.slice 32 (.slice A n c) (some (.int .i64 (k : Int))) none none).run Tryz.prog W = .ok (.slice A' (n - k) (c - k)) W) ∧ ∀ (w : World) l, l.length = n → Cms w A l → Cms w A' (l.drop k) := by
  unfold maxLen at hc9
  have hz : ∀ W, (Go.sizeOf 102).run Tryz.prog W = .ok 4 W := fun W => by kernel_rfl
  have ht' : Tryz.prog.underlying 32 = some (.slice (Tryz.prog.elem 32)) := by simp [Program.elem, Tryz.underlying32]
  have he : Tryz.prog.elem 32 = 102 := by simp [Program.elem, Tryz.underlying32]
  cases A with
  | none =>
    have h0 := hP.1 rfl
    have hn0 : n = 0 := by omega
    have hk0 : k = 0 := by omega
    subst h0; subst hn0; subst hk0
    refine ⟨none, fun W => ?_, fun w l hl h => by rw [List.drop_zero]; exact h⟩
    rw [run_slice_l W 32 _ _ _ ht' .i64 _ (by omega) (by omega), he, hz]
    simp [Result.andThen, sliced]
  | some x =>
    obtain ⟨g, rfl⟩ := hP.2 x rfl
    by_cases h0 : c = k
    · refine ⟨some ⟨g, 0, none⟩, fun W => ?_, fun w l hl h => ?_⟩
      · rw [run_slice_l W 32 _ _ _ ht' .i64 _ (by omega) (by omega), he, hz]
        simp [Result.andThen, sliced, h0]
      · have : l.drop k = [] := List.drop_eq_nil_of_le (by omega)
        rw [this]
        exact Sl.nil _ _ _ _
    · by_cases h1 : k = 0
      · subst h1
        refine ⟨some ⟨g, 0, none⟩, fun W => ?_, fun w l hl h => by rw [List.drop_zero]; exact h⟩
        rw [run_slice_l W 32 _ _ _ ht' .i64 _ (by omega) (by omega), he, hz]
        simp [Result.andThen, sliced, Addr.add, h0]
      · refine ⟨some ⟨g, k * 4, none⟩, fun W => ?_, fun w l hl h => Sl.dropN h k⟩
        rw [run_slice_l W 32 _ _ _ ht' .i64 _ (by omega) (by omega), he, hz]
        have h2 : ¬ k * 4 = 0 := by omega
        simp [Result.andThen, sliced, Addr.add, h0, h1, h2]

theorem slcEd_from (A : Option Addr) (n c k : Nat) (hP : (A = none → c = 0) ∧ ∀ x, A = some x → ∃ g, x = ⟨g, 0, none⟩) (hk : k ≤ n) (hc : n ≤ c) (hc9 : c ≤ maxLen) : ∃ A', (∀ W, (Instr.slice 29 (.slice A n c) (some (.int .i64 (k : Int))) none none).run Tryz.prog W = .ok (.slice A' (n - k) (c - k)) W) ∧ ∀ (w : World) l, l.length = n → Es w A l → Es w A' (l.drop k) := by
  unfold maxLen at hc9
  have hz : ∀ W, (Go.sizeOf 71).run Tryz.prog W = .ok 3 W := fun W => by kernel_rfl
  have ht' : Tryz.prog.underlying 29 = some (.slice (Tryz.prog.elem 29)) := by simp [Program.elem, Tryz.underlying29]
  have he : Tryz.prog.elem 29 = 71 := by simp [Program.elem, Tryz.underlying29]
  cases A with
  | none =>
    have h0 := hP.1 rfl
    have hn0 : n = 0 := by omega
    have hk0 : k = 0 := by omega
    subst h0; subst hn0; subst hk0
    refine ⟨none, fun W => ?_, fun w l hl h => by rw [List.drop_zero]; exact h⟩
    rw [run_slice_l W 29 _ _ _ ht' .i64 _ (by omega) (by omega), he, hz]
    simp [Result.andThen, sliced]
  | some x =>
    obtain ⟨g, rfl⟩ := hP.2 x rfl
    by_cases h0 : c = k
    · refine ⟨some ⟨g, 0, none⟩, fun W => ?_, fun w l hl h => ?_⟩
      · rw [run_slice_l W 29 _ _ _ ht' .i64 _ (by omega) (by omega), he, hz]
        simp [Result.andThen, sliced, h0]
      · have : l.drop k = [] := List.drop_eq_nil_of_le (by omega)
        rw [this]
        exact Sl.nil _ _ _ _
    · by_cases h1 : k = 0
      · subst h1
        refine ⟨some ⟨g, 0, none⟩, fun W => ?_, fun w l hl h => by rw [List.drop_zero]; exact h⟩
        rw [run_slice_l W 29 _ _ _ ht' .i64 _ (by omega) (by omega), he, hz]
        simp [Result.andThen, sliced, Addr.add, h0]
      · refine ⟨some ⟨g, k * 3, none⟩, fun W => ?_, fun w l hl h => Sl.dropN h k⟩
        rw [run_slice_l W 29 _ _ _ ht' .i64 _ (by omega) (by omega), he, hz]
        have h2 : ¬ k * 3 = 0 := by omega
        simp [Result.andThen, sliced, Addr.add, h0, h1, h2]

theorem edsRun_puts (es : List Ed) : ∀ t, (edsRun t es).2 = es.length → ∀ e ∈ es, isText e.2.2 = true := by
  induction es with
  | nil => intro t _ e he; cases he
  | cons x es ih =>
    intro t h
    unfold edsRun at h
    by_cases hok : edOk t x.1 x.2.1 x.2.2 = true
    · rw [if_pos hok] at h
      simp only [List.length_cons, Nat.add_right_cancel_iff] at h
      intro e he
      rcases List.mem_cons.1 he with rfl | he
      · have h9 := hok
        unfold edOk at h9
        simp only [Bool.and_eq_true] at h9
        exact h9.2.2.1
      · exact ih _ h e he
    · rw [if_neg hok] at h
      simp at h
theorem docOk_puts {d : Dc} (h : docOk d = true) : ∀ e ∈ logE d.log, e.2.2.length ≤ 1000 := by
  intro e he
  have hr : runOk d = true := by
    cases h2 : runOk d
    · rw [docOk_run h2] at h; cases h
    · rfl
  have hs := runOk_start hr
  unfold runOk at hr
  rw [Bool.and_eq_true] at hr
  have h1 := of_decide_eq_true hr.1
  unfold edsN at h1
  rw [if_pos hs] at h1
  have h2 : (edsRun d.start (logE d.log)).2 = (logE d.log).length := by rw [logE_length]; omega
  have := isText_len (edsRun_puts _ _ h2 e he)
  omega
/-- The edits since a version. -/
def sinceE (d : Dc) (v : Int) : List Ed := if verOk d v = true then (logE d.log).drop v.toNat else []
def GivesSi (d : Dc) (v : Int) (w : World) (e : Ending) (w' : World) : Prop := ∃ A c fp, e = .returned (.tuple #[.slice A (sinceE d v).length c, .bool (verOk d v)]) ∧ OwE w' w.heap.size A (sinceE d v) c fp ∧ Below w.heap.size w w'
theorem sinceE_no {d : Dc} {v : Int} (h : verOk d v = false) : sinceE d v = [] := by unfold sinceE; rw [if_neg (by rw [h]; simp)]
theorem sinceE_yes {d : Dc} {n : Nat} (h : verOk d (n : Int) = true) : sinceE d (n : Int) = (logE d.log).drop n := by unfold sinceE; rw [if_pos h, Int.toNat_natCast]
theorem GivesSi.no {d : Dc} {v : Int} {w w' : World} (h : verOk d v = false) (hb : Below w.heap.size w w') : GivesSi d v w (.returned (.tuple #[.slice none 0 0, .bool false])) w' :=
  ⟨none, 0, [], by rw [sinceE_no h, h]; rfl, by rw [sinceE_no h]; exact ⟨Lay.slice_nil _ _ _, List.nodup_nil, fun _ h => nomatch h⟩, hb⟩
theorem GivesSi.yes {d : Dc} {n : Nat} {w w' : World} {A : Option Addr} {c m : Nat} {fp : List Nat} (h : verOk d (n : Int) = true) (hm : m = ((logE d.log).drop n).length) (ho : OwE w' w.heap.size A ((logE d.log).drop n) c fp) (hb : Below w.heap.size w w') : GivesSi d (n : Int) w (.returned (.tuple #[.slice A m c, .bool true])) w' :=
  ⟨A, c, fp, by rw [sinceE_yes h, h, hm], by rw [sinceE_yes h]; exact ho, hb⟩

set_option maxHeartbeats 2000000 in
theorem copiedEdits_any (A : Option Addr) (es : List Ed) (c n : Nat) (w : World) (hn : n = es.length) (hl : es.length ≤ 100) (hp4 : ∀ e ∈ es, e.2.2.length ≤ 1000) (hE : Es w A es) :
    Calls Tryz.prog 36 #[.slice A n c] w fun e w' => ∃ A' c' fp, e = .returned (.slice A' es.length c') ∧ OwE w' w.heap.size A' es c' fp ∧ Below w.heap.size w w' := by
  subst hn
  go_enter Tryz.func36, Tryz.ntmps36
  go_wp2_with fail
  refine (newEditStack_any A es c _ hl hp4 hE).mono ?_
  rintro e w1 ⟨v, fp, rfl, how, hnd, hlo, hb⟩
  obtain ⟨A', c', e', _, _, _⟩ := Lay.edits.read how
  simp only [List.cons.injEq, and_true] at e'
  subst e'
  have HO := Lib.hid (show OwE w1 w.heap.size A' es c' fp from ⟨how, hnd, hlo⟩)
  have hf1 : ∀ W, (Instr.field 114 (.agg #[.slice A' es.length c']) 0).run Tryz.prog W = .ok (.agg #[.slice A' es.length c']) W := fun W => by kernel_rfl
  have hf2 : ∀ W, (Instr.field 112 (.agg #[.slice A' es.length c']) 0).run Tryz.prog W = .ok (.slice A' es.length c') W := fun W => by kernel_rfl
  clear how hnd hlo
  go_wp2
  go_ret
  exact ⟨A', c', fp, rfl, HO.out, hb⟩

theorem l08Copy_any' (A : Option Addr) (es : List Ed) (c n : Nat) (w : World) (hn : n = es.length) (hl : es.length ≤ 1000) (hp4 : ∀ e ∈ es, e.2.2.length ≤ 1000) (hE : Es w A es) :
    Calls Tryz.prog 28 #[.slice A n c] w (CopiesE es w) := by
  subst hn
  exact l08Copy_any A es c w hl hp4 hE

set_option maxHeartbeats 8000000 in
theorem implDocSince_any (a : Da) (d : Dc) (v : Int) (w : World) (hP : PlL a) (hT : Tab w) (hD : RdD w a d) :
    Calls Tryz.prog 9 #[.agg #[.slice a.s d.start.length a.cs, .slice a.t d.text.length a.ct, .slice a.l d.log.length a.cl, .int .i64 d.clock, .slice a.m d.mem.length a.cm, .slice a.e d.lea.length a.ce], .int .i64 v] w (GivesSi d v w) := by
  have hal := (Below.refl w.heap.size w).alloc (Nat.le_refl _) (.cells #[.slice a.s d.start.length a.cs, .slice a.t d.text.length a.ct, .slice a.l d.log.length a.cl, .int .i64 d.clock, .slice a.m d.mem.length a.cm, .slice a.e d.lea.length a.ce] 36)
  have BX := Lib.hid (Blk.new w #[.slice a.s d.start.length a.cs, .slice a.t d.text.length a.ct, .slice a.l d.log.length a.cl, .int .i64 d.clock, .slice a.m d.mem.length a.cm, .slice a.e d.lea.length a.ce] 36)
  have HK := Lib.hid (show ∀ W, Below w.heap.size w W → Tab W ∧ RdD W a d from fun W h => ⟨hT.below h, hD.below h⟩)
  have HB := Lib.hid hal
  have HLC := Lib.hid hD.hl
  obtain ⟨q1, h1⟩ : ∃ q, docOk d = q := ⟨_, rfl⟩
  obtain ⟨q2, h2⟩ : ∃ q, verIn d v = q := ⟨_, rfl⟩
  have HV := Lib.hid (show verOk d v = (q1 && q2) by rw [← h1, ← h2]; rfl)
  have H1 := Lib.hid h1
  have H2 := Lib.hid h2
  clear hD hT hal h1 h2
  have p0 := BX.out.cell 0
  have p1 := BX.out.cell 1
  have p2 := BX.out.cell 2
  have p3 := BX.out.cell 3
  have p4 := BX.out.cell 4
  have p5 := BX.out.cell 5
  go_enter Tryz.func9, Tryz.ntmps9
  go_wp2_with fail
  generalize w.alloc (.cells #[.slice a.s d.start.length a.cs, .slice a.t d.text.length a.ct, .slice a.l d.log.length a.cl, .int .i64 d.clock, .slice a.m d.mem.length a.cm, .slice a.e d.lea.length a.ce] 36) = W at *
  refine (implDocOk_any a d _ (HK.out _ HB.out).1 (HK.out _ HB.out).2).mono ?_
  rintro e w1 ⟨rfl, hb⟩
  rw [H1.out]
  have BX := Lib.hid (BX.out.below hb)
  have HB := Lib.hid (below_then HB.out hb)
  clear hb p0 p1 p2 p3 p4 p5
  cases q1
  · have hn := GivesSi.no (show verOk d v = false by rw [HV.out]; rfl) HB.out
    have HN := Lib.hid hn
    clear hn
    go_wp2
    go_ret2
    exact HN.out
  have p0 := BX.out.cell 0
  have p1 := BX.out.cell 1
  have p2 := BX.out.cell 2
  have p3 := BX.out.cell 3
  have p4 := BX.out.cell 4
  have p5 := BX.out.cell 5
  go_wp2_with fail
  refine (hasVersion_any a d v _).mono ?_
  rintro e w2 ⟨rfl, hb⟩
  rw [H2.out]
  have BX := Lib.hid (BX.out.below hb)
  have HB := Lib.hid (below_then HB.out hb)
  clear hb p0 p1 p2 p3 p4 p5
  cases q2
  · have hn := GivesSi.no (show verOk d v = false by rw [HV.out]; rfl) HB.out
    have HN := Lib.hid hn
    clear hn
    go_wp2
    go_ret2
    exact HN.out
  have hv01 := H2.out
  unfold verIn at hv01
  rw [Bool.and_eq_true] at hv01
  have hv0 := of_decide_eq_true hv01.1
  have hv1 := of_decide_eq_true hv01.2
  have hl6 := docOk_log H1.out
  have HPU := Lib.hid (docOk_puts H1.out)
  obtain ⟨n, rfl⟩ : ∃ n : Nat, v = (n : Int) := ⟨v.toNat, by omega⟩
  have hn9 : n ≤ d.log.length := by omega
  obtain ⟨A', hsl, hcut⟩ := slcC_from a.l d.log.length a.cl n hP hn9 HLC.out.1 HLC.out.2
  have HC := Lib.hid (hcut _ d.log rfl (HK.out _ HB.out).2.l)
  have hdl : (d.log.drop n).length = d.log.length - n := List.length_drop ..
  have HDL := Lib.hid hdl
  have hlog : logE (d.log.drop n) = (logE d.log).drop n := by unfold logE; rw [List.map_drop]
  have HLG := Lib.hid hlog
  clear hv01 hcut hdl hlog
  have p2 := BX.out.cell 2
  go_wp2_with fail
  refine (editsOf_any' A' (d.log.drop n) (a.cl - n) (d.log.length - n) _ HDL.out (by rw [HDL.out]; omega) HC.out).mono ?_
  rintro e w3 ⟨E, ce, rfl, hec, hem, hEE, hb⟩
  rw [HLG.out] at hEE
  have HE := Lib.hid hEE
  have HB := Lib.hid (below_then HB.out hb)
  have hle : d.log.length - n = ((logE d.log).drop n).length := by rw [List.length_drop, logE_length]
  have hl1 : ((logE d.log).drop n).length ≤ 100 := by rw [List.length_drop, logE_length]; omega
  have HLE := Lib.hid hle
  clear hEE hb p2 hsl hec hem hle
  go_wp2_with fail
  refine (copiedEdits_any E ((logE d.log).drop n) ce _ _ HLE.out hl1 (fun e he => HPU.out e (List.mem_of_mem_drop he)) HE.out).mono ?_
  rintro e w4 ⟨A4, c4, fp, rfl, ho, hb⟩
  have hz := HB.out.size
  obtain ⟨mm, hmm⟩ : ∃ m, ((logE d.log).drop n).length = m := ⟨_, rfl⟩
  rw [hmm]
  have hy := GivesSi.yes (w := w) (n := n) (d := d) (m := mm) (show verOk d (n : Int) = true by rw [HV.out]; rfl) hmm.symm (ho.mono hz) (below_then HB.out hb)
  have HY := Lib.hid hy
  clear ho hb hy hmm
  go_wp2
  go_ret2
  exact HY.out

set_option maxHeartbeats 8000000 in
theorem specDocSince_any (a : Da) (d : Dc) (v : Int) (w : World) (hD : RdD w a d) :
    Calls Tryz.prog 7 #[.agg #[.slice a.s d.start.length a.cs, .slice a.t d.text.length a.ct, .slice a.l d.log.length a.cl, .int .i64 d.clock, .slice a.m d.mem.length a.cm, .slice a.e d.lea.length a.ce], .int .i64 v] w (GivesSi d v w) := by
  have hal := (Below.refl w.heap.size w).alloc (Nat.le_refl _) (.cells #[.slice a.s d.start.length a.cs, .slice a.t d.text.length a.ct, .slice a.l d.log.length a.cl, .int .i64 d.clock, .slice a.m d.mem.length a.cm, .slice a.e d.lea.length a.ce] 36)
  have BX := Lib.hid (Blk.new w #[.slice a.s d.start.length a.cs, .slice a.t d.text.length a.ct, .slice a.l d.log.length a.cl, .int .i64 d.clock, .slice a.m d.mem.length a.cm, .slice a.e d.lea.length a.ce] 36)
  have HK := Lib.hid (show ∀ W, Below w.heap.size w W → RdD W a d from fun W h => hD.below h)
  have HB := Lib.hid hal
  obtain ⟨q, hq⟩ : ∃ q, verOk d v = q := ⟨_, rfl⟩
  have HV := Lib.hid hq
  clear hD hal hq
  have p0 := BX.out.cell 0
  have p1 := BX.out.cell 1
  have p2 := BX.out.cell 2
  have p3 := BX.out.cell 3
  have p4 := BX.out.cell 4
  have p5 := BX.out.cell 5
  go_enter Tryz.func7, Tryz.ntmps7
  go_wp2_with fail
  generalize w.alloc (.cells #[.slice a.s d.start.length a.cs, .slice a.t d.text.length a.ct, .slice a.l d.log.length a.cl, .int .i64 d.clock, .slice a.m d.mem.length a.cm, .slice a.e d.lea.length a.ce] 36) = W at *
  refine (l10Version_any a d v _ (HK.out _ HB.out)).mono ?_
  rintro e w1 ⟨rfl, hb⟩
  rw [HV.out]
  have BX := Lib.hid (BX.out.below hb)
  have HB := Lib.hid (below_then HB.out hb)
  clear hb p0 p1 p2 p3 p4 p5
  cases q
  · have hn := GivesSi.no HV.out HB.out
    have HN := Lib.hid hn
    clear hn
    go_wp2
    go_ret2
    exact HN.out
  have hv01 := HV.out
  unfold verOk at hv01
  rw [Bool.and_eq_true] at hv01
  have hl6 := docOk_log hv01.1
  have HPU := Lib.hid (docOk_puts hv01.1)
  have hv02 := hv01.2
  unfold verIn at hv02
  rw [Bool.and_eq_true] at hv02
  have hv0 := of_decide_eq_true hv02.1
  have hv1 := of_decide_eq_true hv02.2
  obtain ⟨n, rfl⟩ : ∃ n : Nat, v = (n : Int) := ⟨v.toNat, by omega⟩
  have hn9 : n ≤ d.log.length := by omega
  clear hv01 hv02
  have p0 := BX.out.cell 0
  have p1 := BX.out.cell 1
  have p2 := BX.out.cell 2
  have p3 := BX.out.cell 3
  have p4 := BX.out.cell 4
  have p5 := BX.out.cell 5
  go_wp2_with fail
  refine (l10LogP_any a d _ (by omega) (HK.out _ HB.out)).mono ?_
  rintro e w2 ⟨E, ce, rfl, hec, hem, hEE, hpl, hb⟩
  obtain ⟨A', hsl, hcut⟩ := slcEd_from E d.log.length ce n hpl hn9 hec hem
  have HE := Lib.hid (hcut _ (logE d.log) (logE_length _) hEE)
  have HB := Lib.hid (below_then HB.out hb)
  have hle : d.log.length - n = ((logE d.log).drop n).length := by rw [List.length_drop, logE_length]
  have hl1 : ((logE d.log).drop n).length ≤ 1000 := by rw [List.length_drop, logE_length]; omega
  have HLE := Lib.hid hle
  clear hEE hb hpl hec hem hcut hle p0 p1 p2 p3 p4 p5
  go_wp2_with fail
  refine (l08Copy_any' A' ((logE d.log).drop n) (ce - n) _ _ HLE.out hl1 (fun e he => HPU.out e (List.mem_of_mem_drop he)) HE.out).mono ?_
  rintro e w3 ⟨A4, c4, fp, rfl, ho, hb⟩
  have hz := HB.out.size
  obtain ⟨mm, hmm⟩ : ∃ m, ((logE d.log).drop n).length = m := ⟨_, rfl⟩
  rw [hmm]
  have hy := GivesSi.yes (w := w) (n := n) (d := d) (m := mm) HV.out hmm.symm (ho.mono hz) (below_then HB.out hb)
  have HY := Lib.hid hy
  clear ho hb hy hsl hmm
  go_wp2
  go_ret2
  exact HY.out
end Go.Proofs.YtaekanhjkpoifaaGreatDoor
