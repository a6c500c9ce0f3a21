/-
  Chapter 10, a document's version and the text at it: the model's contracts. Own work.
-/
import Derived.Test.YtaekanhjkpoifaaGreatDoorQp10
import Derived.Test.YtaekanhjkpoifaaGreatDoorQD06
namespace Go.Proofs.YtaekanhjkpoifaaGreatDoor
open Go.RowKit P
set_option linter.unusedVariables false
set_option linter.unusedSimpArgs false
set_option maxRecDepth 100000

/-- What a list of the edits of a log ends in, told with where it lies. -/
def EsOfP (lg : List Cm) (w : World) (e : Ending) (w' : World) : Prop := ∃ A c, e = .returned (.slice A lg.length c) ∧ lg.length ≤ c ∧ c ≤ maxLen ∧ Es w' A (logE lg) ∧ ((A = none → c = 0) ∧ ∀ x, A = some x → ∃ g, x = ⟨g, 0, none⟩) ∧ Below w.heap.size w w'
theorem EsOfP.mk {lg : List Cm} {w w' : World} {v : Value} {base : Nat} (h : OwnR w w' base v (logE lg)) (hb : Below w.heap.size w w') : EsOfP lg w (.returned v) w' := by
  obtain ⟨A, c, e, h1, h2, h3⟩ := h.es hb
  rw [logE_length] at h1
  obtain ⟨L, _, hrow, _⟩ := h
  subst e
  refine ⟨A, c, by rw [logE_length], h1, h2, h3, ?_, hb⟩
  rcases hrow.2 with ⟨hv, _⟩ | ⟨g, cap, cur, hv, _⟩
  · simp only [Value.slice.injEq] at hv
    exact ⟨fun _ => hv.2.2, fun x hx => (by rw [hv.1] at hx; cases hx)⟩
  · simp only [Value.slice.injEq] at hv
    exact ⟨fun h0 => (by rw [hv.1] at h0; cases h0), fun x hx => ⟨g, (by rw [hv.1] at hx; exact (Option.some.inj hx).symm)⟩⟩

set_option maxHeartbeats 4000000 in
theorem l10LogP_any (a : Da) (d : Dc) (w : World) (hl : d.log.length ≤ 1000) (hD : RdD w a d) :
    Calls Tryz.prog 29 #[.agg #[.slice a.s d.start.length a.cs, .slice a.t d.text.length a.ct, .slice a.l d.log.length a.cl, .int .i64 d.clock, .slice a.m d.mem.length a.cm, .slice a.e d.lea.length a.ce]] w (EsOfP d.log w) := by
  have hal := ((Below.refl w.heap.size w).alloc (Nat.le_refl _) (.cells #[.slice a.s d.start.length a.cs, .slice a.t d.text.length a.ct, .slice a.l d.log.length a.cl, .int .i64 d.clock, .slice a.m d.mem.length a.cm, .slice a.e d.lea.length a.ce] 36)).alloc (by simp) (.cells #[] 71)
  have BX := Lib.hid ((Blk.new w #[.slice a.s d.start.length a.cs, .slice a.t d.text.length a.ct, .slice a.l d.log.length a.cl, .int .i64 d.clock, .slice a.m d.mem.length a.cm, .slice a.e d.lea.length a.ce] 36).alloc (.cells #[] 71))
  have hsz : (w.alloc (.cells #[.slice a.s d.start.length a.cs, .slice a.t d.text.length a.ct, .slice a.l d.log.length a.cl, .int .i64 d.clock, .slice a.m d.mem.length a.cm, .slice a.e d.lea.length a.ce] 36)).heap.size = w.heap.size + 1 := by simp
  have HO0 : Hid (OwnR w ((w.alloc (.cells #[.slice a.s d.start.length a.cs, .slice a.t d.text.length a.ct, .slice a.l d.log.length a.cl, .int .i64 d.clock, .slice a.m d.mem.length a.cm, .slice a.e d.lea.length a.ce] 36)).alloc (.cells #[] 71)) (w.heap.size + 1) (.slice (some ⟨w.heap.size + 1, 0, none⟩) 0 0) []) := Lib.hid (by have h9 := OwnR.empty w (w.alloc (.cells #[.slice a.s d.start.length a.cs, .slice a.t d.text.length a.ct, .slice a.l d.log.length a.cl, .int .i64 d.clock, .slice a.m d.mem.length a.cm, .slice a.e d.lea.length a.ce] 36)); rw [hsz] at h9; exact h9)
  have HB := Lib.hid hal
  have HL := Lib.hid hD.l
  have hn9 := hD.n9.2.2.1
  clear hal hD hsz
  go_enter Tryz.func29, Tryz.ntmps29
  go_wp2
  go_loopw [3, 4] (fun v i wr => ∃ k : Nat, k ≤ d.log.length ∧ i = .int .i64 k ∧ OwnR w wr (w.heap.size + 1) v (logE (d.log.take k)) ∧ Below w.heap.size w wr ∧ Blk wr w.heap.size #[.slice a.s d.start.length a.cs, .slice a.t d.text.length a.ct, .slice a.l d.log.length a.cl, .int .i64 d.clock, .slice a.m d.mem.length a.cm, .slice a.e d.lea.length a.ce] 36) (fun _ i _ => d.log.length - (intOf i).toNat)
  case atStart => exact ⟨0, Nat.zero_le _, rfl, HO0.out, HB.out, BX.out⟩
  case round =>
    obtain ⟨k, hk, rfl, hown, hb, bx⟩ := hrel
    have p2 := bx.cell 2
    by_cases hlt : k < d.log.length
    · obtain ⟨b, off, s, x, m, B, p, dd, hA, hbl, hek, k0, k1, k2, k3, hs, ha, hm, hpd, hdm, hBp⟩ := HL.out.at_ k hlt
      clear p2
      have hi0 : (0 : Int) ≤ (k : Int) := by omega
      have p2 : wr.cell? ⟨w.heap.size, 2, none⟩ = some (.slice (some ⟨b, off, none⟩) d.log.length a.cl) := by rw [← hA]; exact bx.cell 2
      have j1 := (hb.cell (p := ⟨b, off + k * 4 + 1, none⟩) hbl).trans k1
      have j2 := (hb.cell (p := ⟨b, off + k * 4 + 2, none⟩) hbl).trans k2
      have j3 := (hb.cell (p := ⟨b, off + k * 4 + 3, none⟩) hbl).trans k3
      have hnx := logE_take d.log k hlt hek
      have HN := Lib.hid hnx
      have hrd : Lay.edit.rd w [.int .i64 x, .int .i64 m, .slice B p.length dd] (x, m, p) := rd_edit ha hm hpd hdm hBp
      have HRD := Lib.hid (show ∀ e ∈ [([Value.int .i64 x, .int .i64 m, .slice B p.length dd], ((x, m, p) : Ed))], Lay.edit.rd w e.1 e.2 from fun e he => by rw [List.mem_singleton.1 he]; exact hrd)
      have hki : (k : Int) < (d.log.length : Int) := by omega
      have hlen : (logE (d.log.take k)).length ≤ 1000 := by rw [logE_length, List.length_take]; omega
      obtain ⟨l, hll⟩ : ∃ l, logE (d.log.take k) = l := ⟨_, rfl⟩
      rw [hll] at hown hlen HN
      have HO := Lib.hid hown
      have BX := Lib.hid bx
      have hbs := hb.size
      have hbl9 := bx.lt
      clear hnx hrd hek hll hown k0 k1 k2 k3 hs ha hm hpd hdm hBp hA bx
      go_upto_region 5 with fail
      go_wp2_with (at_builtin; go_must (refine wpList_app_R (W0 := w) rfl _ _ rfl (w.heap.size + 1) _ l [([Value.int .i64 x, .int .i64 m, .slice B p.length dd], ((x, m, p) : Ed))] _ 1 1 rfl rfl rfl (by exact HO.out.below (by (repeat (first | exact Below.refl _ _ | assumption | refine Below.setCell ?_ (by first | (simp; done) | (simp; omega) | omega) _ | refine Below.drew ?_ | refine below_drewN ?_ _ | refine Below.alloc ?_ (by first | (simp; done) | (simp; omega) | omega) _)))) HRD.out (by intro j u hu; have h9 := @cell_new3 (wr) 71 (.int .i64 x) (.int .i64 m) (.slice B p.length dd) j u (by simpa using hu); first | exact h9 | simpa using h9) (by simp; omega) (by simp; omega) ?_))
      intro v4 w4 hown4 hg4 _
      have hb4 : Below w.heap.size w w4 := Below.grown (by (repeat (first | exact Below.refl _ _ | assumption | refine Below.setCell ?_ (by first | (simp; done) | (simp; omega) | omega) _ | refine Below.drew ?_ | refine below_drewN ?_ _ | refine Below.alloc ?_ (by first | (simp; done) | (simp; omega) | omega) _))) hg4 (by simp; omega) (fun x hx => by have := (HO.out.lt x hx).1; omega)
      have BX4 := Lib.hid ((BX.out.alloc _).of_block (hg4.block _ (by simp; omega) (fun e => by have := (HO.out.lt _ e.symm).1; omega)))
      have HO4 := Lib.hid (show OwnR w w4 (w.heap.size + 1) v4 (logE (d.log.take (k + 1))) by rw [HN.out]; exact hown4)
      clear hown4 hg4 j1 j2 j3 p2
      go_wp2
      go_roundw
      case rel => exact ⟨k + 1, by omega, by go_num, HO4.out, hb4, BX4.out⟩
      case measure => simp [intOf]; omega
    · have e : k = d.log.length := by omega
      subst e
      rw [List.take_length] at hown
      have HE := Lib.hid (EsOfP.mk hown hb)
      go_wp2
      go_ret
      exact HE.out

set_option maxHeartbeats 8000000 in
theorem l10Version_any (a : Da) (d : Dc) (v : Int) (w : World) (hD : RdD w a d) :
    Calls Tryz.prog 27 #[.agg #[.slice a.s d.start.length a.cs, .slice a.t d.text.length a.ct, .slice a.l d.log.length a.cl, .int .i64 d.clock, .slice a.m d.mem.length a.cm, .slice a.e d.lea.length a.ce], .int .i64 v] w fun e w' => e = .returned (.bool (verOk d v)) ∧ Below w.heap.size w w' := by
  have hal := (Below.refl w.heap.size w).alloc (Nat.le_refl _) (.cells #[.slice a.s d.start.length a.cs, .slice a.t d.text.length a.ct, .slice a.l d.log.length a.cl, .int .i64 d.clock, .slice a.m d.mem.length a.cm, .slice a.e d.lea.length a.ce] 36)
  have BX := Lib.hid (Blk.new w #[.slice a.s d.start.length a.cs, .slice a.t d.text.length a.ct, .slice a.l d.log.length a.cl, .int .i64 d.clock, .slice a.m d.mem.length a.cm, .slice a.e d.lea.length a.ce] 36)
  have HD := Lib.hid (hD.below hal)
  have HB := Lib.hid hal
  obtain ⟨R, hR⟩ : ∃ R, verOk d v = R := ⟨_, rfl⟩
  obtain ⟨q1, h1⟩ : ∃ q, docOk d = q := ⟨_, rfl⟩
  obtain ⟨q2, h2⟩ : ∃ q, verIn d v = q := ⟨_, rfl⟩
  have HV := Lib.hid (show R = (q1 && q2) by rw [← hR, ← h1, ← h2]; rfl)
  have H1 := Lib.hid h1
  have H2 := Lib.hid h2
  rw [hR]
  clear hD hal h1 h2 hR
  have p0 := BX.out.cell 0
  have p1 := BX.out.cell 1
  have p2 := BX.out.cell 2
  have p3 := BX.out.cell 3
  have p4 := BX.out.cell 4
  have p5 := BX.out.cell 5
  go_enter Tryz.func27, Tryz.ntmps27
  go_wp2_with fail
  generalize w.alloc (.cells #[.slice a.s d.start.length a.cs, .slice a.t d.text.length a.ct, .slice a.l d.log.length a.cl, .int .i64 d.clock, .slice a.m d.mem.length a.cm, .slice a.e d.lea.length a.ce] 36) = W at *
  refine (specDocOk_any a d _ HD.out).mono ?_
  rintro e w1 ⟨rfl, hb⟩
  rw [H1.out]
  have BX := Lib.hid (BX.out.below hb)
  have HB := Lib.hid (below_then HB.out hb)
  clear hb p0 p1 p2 p3 p4 p5
  cases q1
  · have e : R = false := by rw [HV.out]; rfl
    subst e
    go_wp2
    go_ret
    exact ⟨rfl, HB.out⟩
  by_cases h0 : 0 ≤ v
  · have e1 : decide (v ≥ 0) = true := decide_eq_true h0
    have p2 := BX.out.cell 2
    have hv : R = decide (v ≤ (d.log.length : Int)) := by rw [HV.out, ← H2.out]; unfold verIn; rw [decide_eq_true h0]; rfl
    subst hv
    go_wp2
    go_ret
    exact ⟨rfl, HB.out⟩
  · have e1 : decide (v ≥ 0) = false := decide_eq_false (by omega)
    have e : R = false := by rw [HV.out, ← H2.out]; unfold verIn; rw [decide_eq_false h0]; rfl
    subst e
    go_wp2
    go_ret
    exact ⟨rfl, HB.out⟩

end Go.Proofs.YtaekanhjkpoifaaGreatDoor
