/-
 Chapter 10, a tick of the clock: contracts of the program and of the model. Own work.
-/
import Derived.Test.YtaekanhjkpoifaaGreatDoorRD17
import Derived.Test.YtaekanhjkpoifaaGreatDoorRp0
import Derived.Test.YtaekanhjkpoifaaGreatDoorRp6
import Derived.Test.YtaekanhjkpoifaaGreatDoorRI23
namespace Go.Proofs.YtaekanhjkpoifaaGreatDoor
open Go.RowKit P
set_option linter.unusedVariables false
set_option linter.unusedSimpArgs false
set_option maxRecDepth 100000

def tickOk (d : Dc) (n : Int) : Bool := docOk d && decide (1 ≤ n ∧ n ≤ 1000)
def tickT (d : Dc) (n : Int) : Int := min (d.clock + n) 1000
/-- A document after a tick. -/
def tickD (d : Dc) (n : Int) : Dc := if tickOk d n = true then ⟨d.start, d.text, d.log, tickT d n, d.mem, leExp d.lea (tickT d n)⟩ else ⟨[], [], [], 0, [], []⟩
def GivesTk (d : Dc) (n : Int) (w : World) (e : Ending) (w' : World) : Prop :=
 ∃ b fs ft fl fm fe, e = .returned (.tuple #[.agg #[.slice b.s (tickD d n).start.length b.cs, .slice b.t (tickD d n).text.length b.ct, .slice b.l (tickD d n).log.length b.cl, .int .i64 (tickD d n).clock, .slice b.m (tickD d n).mem.length b.cm, .slice b.e (tickD d n).lea.length b.ce], .bool (tickOk d n)]) ∧ OwD w' w.heap.size b (tickD d n) fs ft fl fm fe ∧ Below w.heap.size w w'
theorem GivesTk.no {d : Dc} {n : Int} {w w' : World} (h : tickOk d n = false) (hb : Below w.heap.size w w') : GivesTk d n w (.returned (.tuple #[.agg #[.slice none 0 0, .slice none 0 0, .slice none 0 0, .int .i64 0, .slice none 0 0, .slice none 0 0], .bool false])) w' := by
 have e : tickD d n = ⟨[], [], [], 0, [], []⟩ := by unfold tickD; rw [if_neg (by rw [h]; simp)]
 refine ⟨⟨none, 0, none, 0, none, 0, none, 0, none, 0⟩, [], [], [], [], [], by rw [e, h]; rfl, ?_, hb⟩
 rw [e]
 exact ⟨⟨_, rfl, Own.nil _ _, rfl⟩, ⟨_, rfl, Own.nil _ _, rfl⟩, Lay.slice_nil _ _ _, Lay.slice_nil _ _ _, Lay.slice_nil _ _ _, ⟨by decide, by decide⟩, List.nodup_nil, fun _ h => nomatch h⟩
theorem GivesTk.yes {d : Dc} {n k : Int} {w w' : World} {b : Da} {A : Option Addr} {c m : Nat} {fs ft fl fm fe : List Nat} (h : tickOk d n = true) (hk : tickT d n = k) (hm : m = (leExp d.lea k).length) (hI : isI k)
  (hs : Lay.bytes.ow w' [.slice b.s d.start.length b.cs] d.start fs) (ht : Lay.bytes.ow w' [.slice b.t d.text.length b.ct] d.text ft) (hl : Lay.commits.ow w' [.slice b.l d.log.length b.cl] d.log fl) (hmm : Lay.members.ow w' [.slice b.m d.mem.length b.cm] d.mem fm)
  (he : Lay.leases.ow w' [.slice A m c] (leExp d.lea k) fe) (hnd : (fs ++ (ft ++ (fl ++ (fm ++ fe)))).Nodup) (hlo : ∀ q ∈ fs ++ (ft ++ (fl ++ (fm ++ fe))), w.heap.size ≤ q) (hb : Below w.heap.size w w') :
  GivesTk d n w (.returned (.tuple #[.agg #[.slice b.s d.start.length b.cs, .slice b.t d.text.length b.ct, .slice b.l d.log.length b.cl, .int .i64 k, .slice b.m d.mem.length b.cm, .slice A m c], .bool true])) w' := by
 have e : tickD d n = ⟨d.start, d.text, d.log, k, d.mem, leExp d.lea k⟩ := by unfold tickD; rw [if_pos h, hk]
 subst hm
 refine ⟨⟨b.s, b.cs, b.t, b.ct, b.l, b.cl, b.m, b.cm, A, c⟩, fs, ft, fl, fm, fe, by rw [e, h], ?_, hb⟩
 rw [e]
 exact ⟨hs, ht, hl, hmm, he, hI, hnd, hlo⟩
/-- Other leases in their place. -/
theorem nd_last {a b c d e e' : List Nat} {N : Nat} (h : (a ++ (b ++ (c ++ (d ++ e)))).Nodup) (hlt : ∀ q ∈ a ++ (b ++ (c ++ (d ++ e))), q < N) (he : ∀ q ∈ e', N ≤ q) (hn : e'.Nodup) : (a ++ (b ++ (c ++ (d ++ e')))).Nodup := by
 have h1 : (a ++ (b ++ (c ++ d)) ++ e).Nodup := by simpa [List.append_assoc] using h
 rw [List.nodup_append] at h1
 have h2 : (a ++ (b ++ (c ++ d)) ++ e').Nodup := by
  rw [List.nodup_append]
  exact ⟨h1.1, hn, fun x hx y hy e9 => by
   have k1 := hlt x (by simp only [List.mem_append] at hx ⊢; rcases hx with h | h | h | h <;> simp [h])
   have k2 := he y hy
   omega⟩
 simpa [List.append_assoc] using h2

set_option maxHeartbeats 8000000 in
theorem tick_any (g : Nat) (vs vt vl vm : Value) (A : Option Addr) (es : List Le) (c : Nat) (clk n k : Int) (w : World) (hb : Blk w g #[vs, vt, vl, .int .i64 clk, vm, .slice A es.length c] 36) (hk : min (clk + n) 1000 = k) (hc0 : 0 ≤ clk) (hc1 : clk ≤ 1000) (hn0 : 1 ≤ n) (hn1 : n ≤ 1000) (hes : es.length ≤ 1048576) (hE : Ll w A es) (hfar : ∀ W : World, (∀ q, q < w.heap.size → q ≠ g → W.heap[q]? = w.heap[q]?) → w.heap.size ≤ W.heap.size → Ll W A es) :
  Calls Tryz.prog 53 #[.pointer (some ⟨g, 0, none⟩), .int .i64 n] w fun e w' => e = .returned (.tuple #[]) ∧ ∃ A' c', OwR w' w.heap.size (.slice A' (leExp es k).length c') (leExp es k) ∧ Blk w' g #[vs, vt, vl, .int .i64 k, vm, .slice A' (leExp es k).length c'] 36 ∧ Keeps [g] w w' := by
 have HF := Lib.hid hfar
 have HB := Lib.hid hb
 have zg := hb.lt
 have q3 := hb.cell 3
 have f3 := hb.frozen 3
 have hw9 : IntKind.i64.wrap (clk + n) = clk + n := IntWalk.i64_in _ ⟨by omega, by omega⟩
 have hke := (Keeps.refl [g] w).set (List.mem_singleton.2 rfl) 3 (.int .i64 k)
 have B2 := Lib.hid (show Blk _ g #[vs, vt, vl, .int .i64 k, vm, .slice A es.length c] 36 from hb.set 3 (.int .i64 k))
 have KE := Lib.hid hke
 clear hfar hb hke hE
 go_enter Tryz.func53, Tryz.ntmps53
 go_upto_region 1 with fail
 generalize w.setCell ⟨g, 3, none⟩ (.int .i64 k) = W at *
 clear q3 f3 hw9
 have hzW := KE.out.size
 have HS := Lib.hid (show ∀ Y, Below W.heap.size W Y → (fun V : World => V.cell? ⟨g, 3, none⟩ = some (.int .i64 k)) Y from fun Y h => (h.cell (p := ⟨g, 3, none⟩) B2.out.lt).trans (B2.out.cell 3))
 refine wp_region_held_drew (S := (fun V => V.cell? ⟨g, 3, none⟩ = some (.int .i64 k))) (by kernel_rfl) (by exact HS.out _ (Below.refl _ _).drew) (fun hHeld => ?_)
 refine wpAnyH_take (i := 0) (oi := ?_) (v := ?_) ?_ ?_ ?_ ?_ ?_ ?_ (by exact hHeld) ?_
 rotate_left 2
 ·(simp only [List.getElem?_toArray, List.getElem?_cons_zero]; try rfl)
 ·kernel_rfl
 ·kernel_rfl
 ·kernel_rfl
 ·exact fun _ _ _ h => h
 ·refine Or.inl ⟨by rfl, ?_⟩
  (intro V hSV; (try dsimp only at hSV); have q0 := hSV; go_simp; try with_reducible rfl)
 (try simp only [LY9])
 refine wpAnyH_take (i := 1) (oi := ?_) (v := ?_) ?_ ?_ ?_ ?_ ?_ ?_ (by exact hHeld) ?_
 rotate_left 2
 ·(simp only [LX9]; try rfl)
 ·kernel_rfl
 ·kernel_rfl
 ·kernel_rfl
 ·exact fun _ _ _ h => h
 ·refine Or.inl ⟨by rfl, ?_⟩
  (intro V hSV; (try dsimp only at hSV); have q0 := hSV; go_simp; try with_reducible rfl)
 (try simp only [LY9])
 refine wpAnyH_take (i := 2) (oi := ?_) (v := ?_) ?_ ?_ ?_ ?_ ?_ ?_ (by exact hHeld) ?_
 rotate_left 2
 ·(simp only [LX9]; try rfl)
 ·kernel_rfl
 ·kernel_rfl
 ·kernel_rfl
 ·exact fun _ _ _ h => h
 ·refine Or.inl ⟨by rfl, ?_⟩
  (intro V hSV; (try dsimp only at hSV); have q0 := hSV; go_simp; try with_reducible rfl)
 (try simp only [LY9])
 refine wpAnyH_take (i := 3) (oi := ?_) (v := ?_) ?_ ?_ ?_ ?_ ?_ ?_ (by exact hHeld) ?_
 rotate_left 2
 ·(simp only [LX9]; try rfl)
 ·kernel_rfl
 ·kernel_rfl
 ·kernel_rfl
 ·exact fun _ _ _ h => h
 ·refine Or.inl ⟨by rfl, ?_⟩
  (intro V hSV; (try dsimp only at hSV); have q0 := hSV; go_simp; try with_reducible rfl)
 (try simp only [LY9])
 refine wpAnyH_take (i := 5) (oi := ?_) (v := ?_) ?_ ?_ ?_ ?_ ?_ ?_ (by exact hHeld) ?_
 rotate_left 2
 ·(simp only [LX9]; try rfl)
 ·kernel_rfl
 ·kernel_rfl
 ·kernel_rfl
 ·exact fun _ _ _ h => h
 ·refine Or.inl ⟨by rfl, ?_⟩
  (intro V hSV; (try dsimp only at hSV); have q0 := hSV; go_simp; try with_reducible rfl)
 (try simp only [LY9])
 refine wpAnyH_take (i := 6) (oi := ?_) (v := ?_) ?_ ?_ ?_ ?_ ?_ ?_ (by exact hHeld) ?_
 rotate_left 2
 ·(simp only [LX9]; try rfl)
 ·kernel_rfl
 ·kernel_rfl
 ·kernel_rfl
 ·exact fun _ _ _ h => h
 ·refine Or.inl ⟨by rfl, ?_⟩
  (intro V hSV; (try dsimp only at hSV); have q0 := hSV; go_simp; try with_reducible rfl)
 (try simp only [LY9])
 refine wpAnyH_take (i := 7) (oi := ?_) (v := ?_) ?_ ?_ ?_ ?_ ?_ ?_ (by exact hHeld) ?_
 rotate_left 2
 ·(simp only [LX9]; try rfl)
 ·kernel_rfl
 ·kernel_rfl
 ·kernel_rfl
 ·exact fun _ _ _ h => h
 ·refine Or.inl ⟨by rfl, ?_⟩
  (intro V hSV; (try dsimp only at hSV); have q0 := hSV; go_simp; try with_reducible rfl)
 (try simp only [LY9])
 refine wpAnyH_take (i := 8) (oi := ?_) (v := ?_) ?_ ?_ ?_ ?_ ?_ ?_ (by exact hHeld) ?_
 rotate_left 2
 ·(simp only [LX9]; try rfl)
 ·kernel_rfl
 ·kernel_rfl
 ·kernel_rfl
 ·exact fun _ _ _ h => h
 ·refine Or.inl ⟨by rfl, ?_⟩
  (intro V hSV; (try dsimp only at hSV); have q0 := hSV; go_simp; try with_reducible rfl)
 (try simp only [LY9])
 have HE := Lib.hid (show Below W.heap.size W W.drew from (Below.refl _ _).drew)
 generalize W.drew = Y at *
 refine wpAnyH_ready (rs := [4]) (by kernel_rfl) (by simp) ?_
 refine AllReadyH.cons (o := ?_) ?_ (fun K hK => ?_) AllReadyH.nil
 rotate_left 1
 ·(simp only [LX9]; try rfl)
 have ql := (B2.out.below HE.out).cell 5
 go_simp
 clear ql
 refine hK.out _ _ (by exact HS.out _ HE.out) (fun hHeld => ?_)
 clear hK K
 (try simp only [LY9])
 refine wpAnyH_ready (rs := [9]) (by kernel_rfl) (by simp) ?_
 refine AllReadyH.cons (o := ?_) ?_ (fun K hK => ?_) AllReadyH.nil
 rotate_left 1
 ·(simp only [LX9]; try rfl)
 go_simp
 refine (implLeaseExpire_any A es c k _ hes (HF.out _ (fun q h1 h2 => (HE.out.block q (by omega)).trans (KE.out.block q h1 (by simpa using h2))) (by have := HE.out.size; omega))).mono ?_
 rintro e Y ⟨v9, rfl, ho, hb⟩
 obtain ⟨A9, c9, e9, _, _, _⟩ := ho.ll
 subst e9
 have H9 := Lib.hid (ho.mono HE.out.size)
 have HE := Lib.hid (below_then HE.out hb)
 clear ho hb
 go_wp2_with fail
 refine hK.out _ _ (by exact HS.out _ HE.out) (fun hHeld => ?_)
 clear hK K
 (try simp only [LY9])
 refine wpAnyH_take (i := 10) (oi := ?_) (v := ?_) ?_ ?_ ?_ ?_ ?_ ?_ (by exact hHeld) ?_
 rotate_left 2
 ·(simp only [LX9]; try rfl)
 ·kernel_rfl
 ·kernel_rfl
 ·kernel_rfl
 ·exact fun _ _ _ h => h
 ·refine Or.inl ⟨by rfl, ?_⟩
  (intro V hSV; (try dsimp only at hSV); have q0 := hSV; go_simp; try with_reducible rfl)
 (try simp only [LY9])
 refine wpAnyH_take (i := 11) (oi := ?_) (v := ?_) ?_ ?_ ?_ ?_ ?_ ?_ (by exact hHeld) ?_
 rotate_left 2
 ·(simp only [LX9]; try rfl)
 ·kernel_rfl
 ·kernel_rfl
 ·kernel_rfl
 ·exact fun _ _ _ h => h
 ·refine Or.inl ⟨by rfl, ?_⟩
  (intro V hSV; (try dsimp only at hSV); have q0 := hSV; go_simp; try with_reducible rfl)
 (try simp only [LY9])
 refine wpAnyH_ready (rs := [12]) (by kernel_rfl) (by simp) ?_
 refine AllReadyH.cons (o := ?_) ?_ (fun K hK => ?_) AllReadyH.nil
 rotate_left 1
 ·(simp only [LX9]; try rfl)
 have B2 := Lib.hid (B2.out.below HE.out)
 have q5 := B2.out.cell 5
 have f5 := B2.out.frozen 5
 have q3 := B2.out.cell 3
 have hke := (Keeps.refl [g] Y).set (List.mem_singleton.2 rfl) 5 (.slice A9 (leExp es k).length c9)
 have B3 := Lib.hid (show Blk _ g #[vs, vt, vl, .int .i64 k, vm, .slice A9 (leExp es k).length c9] 36 from B2.out.set 5 (.slice A9 (leExp es k).length c9))
 have H9 := Lib.hid (H9.out.heap (fun q hq => hke.block q (World.ownsRow.lt H9.out.row q (by simpa using hq)).2 (fun h => by have := (World.ownsRow.lt H9.out.row q (by simpa using hq)).1; have := B2.out.lt; simp at h; omega)))
 have KF := Lib.hid ((KE.out.trans (Keeps.of_below HE.out)).trans hke)
 have hc3 := B3.out.cell 3
 clear hke
 go_simp
 clear q5 f5 q3
 generalize Y.setCell ⟨g, 5, none⟩ (.slice A9 (leExp es k).length c9) = Z at *
 refine hK.out _ _ (by exact hc3) (fun hHeld => ?_)
 clear hK K
 (try simp only [LY9])
 refine wpAnyH_done (by kernel_rfl) ?_ _
 clear hc3
 (try go_wp2)
 go_end0
 exact ⟨rfl, A9, c9, H9.out.mono hzW, B3.out, KF.out⟩
theorem OwD.keeps {w w' : World} {base : Nat} {a : Da} {d : Dc} {fs ft fl fm fe fq : List Nat} (h : OwD w base a d fs ft fl fm fe) (hk : Keeps fq w w') (hd : ∀ q ∈ fs ++ (ft ++ (fl ++ (fm ++ fe))), q ∉ fq) : OwD w' base a d fs ft fl fm fe :=
 ⟨Lay.bytes.keeps h.s hk (fun q hq => hd q (by simp [hq])), Lay.bytes.keeps h.t hk (fun q hq => hd q (by simp [hq])), Lay.commits.keeps h.l hk (fun q hq => hd q (by simp [hq])), Lay.members.keeps h.m hk (fun q hq => hd q (by simp [hq])), Lay.leases.keeps h.e hk (fun q hq => hd q (by simp [hq])), h.clk, h.nd, h.lo⟩
theorem leases_far {w : World} {A : Option Addr} {l : List Le} {c : Nat} {fe : List Nat} (h : Lay.leases.ow w [.slice A l.length c] l fe) (W : World) (hk : ∀ q ∈ fe, W.heap[q]? = w.heap[q]?) (hz : w.heap.size ≤ W.heap.size) : Ll W A l := by
 obtain ⟨A', c', e, _, _, hl⟩ := Lay.leases.read (Lay.leases.kept h hk hz)
 simp only [List.cons.injEq, Value.slice.injEq, and_true, true_and] at e
 obtain ⟨rfl, rfl⟩ := e
 exact hl

set_option maxHeartbeats 16000000 in
theorem implDocTick_any (a : Da) (d : Dc) (n : Int) (w : World) (hT : Tab w) (hD : RdD w a d) :
  Calls Tryz.prog 16 #[.agg #[.slice a.s d.start.length a.cs, .slice a.t d.text.length a.ct, .slice a.l d.log.length a.cl, .int .i64 d.clock, .slice a.m d.mem.length a.cm, .slice a.e d.lea.length a.ce], .int .i64 n] w (GivesTk d n w) := by
 have hal := ((Below.refl w.heap.size w).alloc (Nat.le_refl _) (.cells #[.slice a.s d.start.length a.cs, .slice a.t d.text.length a.ct, .slice a.l d.log.length a.cl, .int .i64 d.clock, .slice a.m d.mem.length a.cm, .slice a.e d.lea.length a.ce] 36)).alloc (by simp) (.cells #[.slice none 0 0, .slice none 0 0, .slice none 0 0, .int .i64 0, .slice none 0 0, .slice none 0 0] 36)
 have hbx := (Blk.new w #[.slice a.s d.start.length a.cs, .slice a.t d.text.length a.ct, .slice a.l d.log.length a.cl, .int .i64 d.clock, .slice a.m d.mem.length a.cm, .slice a.e d.lea.length a.ce] 36).alloc (.cells #[.slice none 0 0, .slice none 0 0, .slice none 0 0, .int .i64 0, .slice none 0 0, .slice none 0 0] 36)
 have hrx := Blk.new (w.alloc (.cells #[.slice a.s d.start.length a.cs, .slice a.t d.text.length a.ct, .slice a.l d.log.length a.cl, .int .i64 d.clock, .slice a.m d.mem.length a.cm, .slice a.e d.lea.length a.ce] 36)) #[.slice none 0 0, .slice none 0 0, .slice none 0 0, .int .i64 0, .slice none 0 0, .slice none 0 0] 36
 simp only [World.size_alloc] at hrx
 have hzw : ((w.alloc (.cells #[.slice a.s d.start.length a.cs, .slice a.t d.text.length a.ct, .slice a.l d.log.length a.cl, .int .i64 d.clock, .slice a.m d.mem.length a.cm, .slice a.e d.lea.length a.ce] 36)).alloc (.cells #[.slice none 0 0, .slice none 0 0, .slice none 0 0, .int .i64 0, .slice none 0 0, .slice none 0 0] 36)).heap.size = w.heap.size + 2 := by simp
 have HB := Lib.hid hal
 have BX := Lib.hid hbx
 have RX := Lib.hid hrx
 have HT := Lib.hid (show ∀ W, Below w.heap.size w W → Tab W from fun W h => hT.below h)
 have HD := Lib.hid (show ∀ W, Below w.heap.size w W → RdD W a d from fun W h => hD.below h)
 obtain ⟨q1, h1⟩ : ∃ q, docOk d = q := ⟨_, rfl⟩
 obtain ⟨q2, h2⟩ : ∃ q, decide (1 ≤ n ∧ n ≤ 1000) = q := ⟨_, rfl⟩
 have HV := Lib.hid (show tickOk d n = (q1 && q2) by rw [← h1, ← h2]; rfl)
 have H1 := Lib.hid h1
 have H2 := Lib.hid h2
 clear hal hbx hrx hD h1 h2 hT
 have p0 := BX.out.cell 0
 have p1 := BX.out.cell 1
 have p2 := BX.out.cell 2
 have p3 := BX.out.cell 3
 have p4 := BX.out.cell 4
 have p5 := BX.out.cell 5
 go_enter Tryz.func16, Tryz.ntmps16
 go_wp2_with fail
 generalize (w.alloc (.cells #[.slice a.s d.start.length a.cs, .slice a.t d.text.length a.ct, .slice a.l d.log.length a.cl, .int .i64 d.clock, .slice a.m d.mem.length a.cm, .slice a.e d.lea.length a.ce] 36)).alloc (.cells #[.slice none 0 0, .slice none 0 0, .slice none 0 0, .int .i64 0, .slice none 0 0, .slice none 0 0] 36) = W at *
 have hz0 : w.heap.size + 2 ≤ W.heap.size := Nat.le_of_eq hzw.symm
 clear hzw
 refine (implDocOk_any a d _ (HT.out _ HB.out) (HD.out _ HB.out)).mono ?_
 rintro e w1 ⟨rfl, hb⟩
 rw [H1.out]
 have zw1 := hb.size
 have BX := Lib.hid (BX.out.below hb)
 have RX := Lib.hid (RX.out.below hb)
 have HB := Lib.hid (below_then HB.out hb)
 clear hb
 clear p0 p1 p2 p3 p4 p5
 cases q1
 ·have HN := Lib.hid (GivesTk.no (show tickOk d n = false by rw [HV.out]; rfl) ((((((HB.out.setCell (p := ⟨w.heap.size + 1, 0, none⟩) (by simp) (.slice none 0 0)).setCell (p := ⟨w.heap.size + 1, 1, none⟩) (by simp) (.slice none 0 0)).setCell (p := ⟨w.heap.size + 1, 2, none⟩) (by simp) (.slice none 0 0)).setCell (p := ⟨w.heap.size + 1, 3, none⟩) (by simp) (.int .i64 0)).setCell (p := ⟨w.heap.size + 1, 4, none⟩) (by simp) (.slice none 0 0)).setCell (p := ⟨w.heap.size + 1, 5, none⟩) (by simp) (.slice none 0 0)))
  have r0 := RX.out.cell 0
  have g0 := RX.out.frozen 0
  have r1 := RX.out.cell 1
  have g1 := RX.out.frozen 1
  have r2 := RX.out.cell 2
  have g2 := RX.out.frozen 2
  have r3 := RX.out.cell 3
  have g3 := RX.out.frozen 3
  have r4 := RX.out.cell 4
  have g4 := RX.out.frozen 4
  have r5 := RX.out.cell 5
  have g5 := RX.out.frozen 5
  go_wp2
  refine bodyPost_ret (v := .tuple #[.agg #[.slice none 0 0, .slice none 0 0, .slice none 0 0, .int .i64 0, .slice none 0 0, .slice none 0 0], .bool false]) (by simp [results, Tryz.results16, go_sem, r0, r1, r2, r3, r4, r5]) rfl ?_
  exact HN.out
 go_wp2_with fail
 refine (isTick_any n _).mono ?_
 rintro e w2 ⟨rfl, rfl⟩
 rw [H2.out]
 cases q2
 ·have HN := Lib.hid (GivesTk.no (show tickOk d n = false by rw [HV.out]; rfl) ((((((HB.out.setCell (p := ⟨w.heap.size + 1, 0, none⟩) (by simp) (.slice none 0 0)).setCell (p := ⟨w.heap.size + 1, 1, none⟩) (by simp) (.slice none 0 0)).setCell (p := ⟨w.heap.size + 1, 2, none⟩) (by simp) (.slice none 0 0)).setCell (p := ⟨w.heap.size + 1, 3, none⟩) (by simp) (.int .i64 0)).setCell (p := ⟨w.heap.size + 1, 4, none⟩) (by simp) (.slice none 0 0)).setCell (p := ⟨w.heap.size + 1, 5, none⟩) (by simp) (.slice none 0 0)))
  have r0 := RX.out.cell 0
  have g0 := RX.out.frozen 0
  have r1 := RX.out.cell 1
  have g1 := RX.out.frozen 1
  have r2 := RX.out.cell 2
  have g2 := RX.out.frozen 2
  have r3 := RX.out.cell 3
  have g3 := RX.out.frozen 3
  have r4 := RX.out.cell 4
  have g4 := RX.out.frozen 4
  have r5 := RX.out.cell 5
  have g5 := RX.out.frozen 5
  go_wp2
  refine bodyPost_ret (v := .tuple #[.agg #[.slice none 0 0, .slice none 0 0, .slice none 0 0, .int .i64 0, .slice none 0 0, .slice none 0 0], .bool false]) (by simp [results, Tryz.results16, go_sem, r0, r1, r2, r3, r4, r5]) rfl ?_
  exact HN.out
 have hn := of_decide_eq_true H2.out
 obtain ⟨hn0, hn1⟩ := hn
 have hpt := docOk_parts H1.out
 have hc0 := hpt.2.2.2.2.1
 have hc1 := hpt.2.2.2.2.2
 have hle := leOk_len hpt.2.2.2.1
 obtain ⟨k, hk⟩ : ∃ k, min (d.clock + n) 1000 = k := ⟨_, rfl⟩
 have hk2 : min 1000 (d.clock + n) = k := by rw [← hk]; omega
 have hkI : isI k := ⟨by omega, by omega⟩
 have HKE := Lib.hid hk
 have HTT := Lib.hid (show tickT d n = k from hk)
 have HYE := Lib.hid (show tickOk d n = true by rw [HV.out]; rfl)
 clear hpt
 have p0 := BX.out.cell 0
 have p1 := BX.out.cell 1
 have p2 := BX.out.cell 2
 have p3 := BX.out.cell 3
 have p4 := BX.out.cell 4
 have p5 := BX.out.cell 5
 go_wp2_with fail
 refine (implCopied_any a d _ H1.out (HD.out _ HB.out)).mono ?_
 rintro e w3 ⟨b, fs, ft, fl, fm, fe, rfl, ho, hb⟩
 have zw3 := hb.size
 have BX := Lib.hid (BX.out.below hb)
 have RX := Lib.hid (RX.out.below hb)
 have HB := Lib.hid (below_then HB.out hb)
 clear p0 p1 p2 p3 p4 p5
 clear hb
 have hal := (Below.refl w3.heap.size w3).alloc (Nat.le_refl _) (.cells #[.slice b.s d.start.length b.cs, .slice b.t d.text.length b.ct, .slice b.l d.log.length b.cl, .int .i64 d.clock, .slice b.m d.mem.length b.cm, .slice b.e d.lea.length b.ce] 36)
 have BN := Lib.hid (Blk.new w3 #[.slice b.s d.start.length b.cs, .slice b.t d.text.length b.ct, .slice b.l d.log.length b.cl, .int .i64 d.clock, .slice b.m d.mem.length b.cm, .slice b.e d.lea.length b.ce] 36)
 have HO := Lib.hid (ho.below hal)
 have HLT := Lib.hid (show ∀ q ∈ fs ++ (ft ++ (fl ++ (fm ++ fe))), q < w3.heap.size from fun q hq => by
  simp only [List.mem_append] at hq
  rcases hq with h | h | h | h | h
  ·exact Lay.bytes.lt ho.s q h
  ·exact Lay.bytes.lt ho.t q h
  ·exact Lay.commits.lt ho.l q h
  ·exact Lay.members.lt ho.m q h
  ·exact Lay.leases.lt ho.e q h)
 have BX := Lib.hid (BX.out.below hal)
 have RX := Lib.hid (RX.out.below hal)
 have HB := Lib.hid (below_then HB.out hal)
 have hzn : w3.heap.size < (w3.alloc (.cells #[.slice b.s d.start.length b.cs, .slice b.t d.text.length b.ct, .slice b.l d.log.length b.cl, .int .i64 d.clock, .slice b.m d.mem.length b.cm, .slice b.e d.lea.length b.ce] 36)).heap.size := by simp
 clear hal ho
 go_wp2_with fail
 generalize w3.alloc (.cells #[.slice b.s d.start.length b.cs, .slice b.t d.text.length b.ct, .slice b.l d.log.length b.cl, .int .i64 d.clock, .slice b.m d.mem.length b.cm, .slice b.e d.lea.length b.ce] 36) = W3 at *
 generalize w3.heap.size = gb at *
 refine (tick_any gb _ _ _ _ b.e d.lea b.ce d.clock n k _ BN.out HKE.out hc0 hc1 hn0 hn1 (by omega) HO.out.rd.e (fun V hV hz => leases_far HO.out.e V (fun q hq => hV q (Lay.leases.lt HO.out.e q hq) (fun h => by have := HLT.out q (by simp [hq]); omega)) hz)).mono ?_
 rintro e w4 ⟨rfl, A9, c9, ho9, hB9, hK9⟩
 have zw4 := hK9.size
 have BN := Lib.hid hB9
 have RX := Lib.hid (RX.out.of_block (hK9.block _ RX.out.lt (by simp; omega)))
 have HBL := Lib.hid (HB.out.trans (hK9.below (B := w.heap.size) HB.out.size (fun q h => by simp at h; omega)))
 have hkk := hK9
 have H9 := Lib.hid ho9
 clear ho9 hB9 hK9
 obtain ⟨A', c', e', hw9⟩ := H9.out.owL
 simp only [Value.slice.injEq, true_and] at e'
 obtain ⟨rfl, rfl⟩ := e'
 have hkf := ((((((Keeps.refl [w.heap.size + 1] w4).set (List.mem_singleton.2 rfl) 0 (.slice b.s d.start.length b.cs)).set (List.mem_singleton.2 rfl) 1 (.slice b.t d.text.length b.ct)).set (List.mem_singleton.2 rfl) 2 (.slice b.l d.log.length b.cl)).set (List.mem_singleton.2 rfl) 3 (.int .i64 k)).set (List.mem_singleton.2 rfl) 4 (.slice b.m d.mem.length b.cm)).set (List.mem_singleton.2 rfl) 5 (.slice A9 (leExp d.lea k).length c9)
 have hlow := HO.out.lo
 have far : ∀ q ∈ fs ++ (ft ++ (fl ++ (fm ++ fe))), q ∉ [gb] := fun q hq h => by have := HLT.out q hq; simp at h; omega
 have far2 : ∀ q ∈ fs ++ (ft ++ (fl ++ (fm ++ fe))), q ∉ [w.heap.size + 1] := fun q hq h => by have := hlow q hq; simp at h; omega
 have ks := Lay.bytes.keeps (Lay.bytes.keeps HO.out.s hkk (fun q hq => far q (by simp [hq]))) hkf (fun q hq => far2 q (by simp [hq]))
 have kt := Lay.bytes.keeps (Lay.bytes.keeps HO.out.t hkk (fun q hq => far q (by simp [hq]))) hkf (fun q hq => far2 q (by simp [hq]))
 have kl := Lay.commits.keeps (Lay.commits.keeps HO.out.l hkk (fun q hq => far q (by simp [hq]))) hkf (fun q hq => far2 q (by simp [hq]))
 have km := Lay.members.keeps (Lay.members.keeps HO.out.m hkk (fun q hq => far q (by simp [hq]))) hkf (fun q hq => far2 q (by simp [hq]))
 have hlo9 := hw9.lo
 have k9 := Lay.leases.keeps hw9.ow hkf (fun q hq h => by have := hlo9 q hq; simp at h; omega)
 have hnd := nd_last HO.out.nd HLT.out (fun q hq => by have := hlo9 q hq; omega) hw9.nd
 have hlo2 : ∀ q ∈ fs ++ (ft ++ (fl ++ (fm ++ (Value.slice A9 (leExp d.lea k).length c9).ownBlock.toList))), w.heap.size ≤ q := fun q hq => by
  have k1 := hlow q
  have k2 := hlo9 q
  simp only [List.mem_append] at hq k1 k2
  rcases hq with h | h | h | h | h
  ·have := k1 (.inl h); omega
  ·have := k1 (.inr (.inl h)); omega
  ·have := k1 (.inr (.inr (.inl h))); omega
  ·have := k1 (.inr (.inr (.inr (.inl h)))); omega
  ·have := k2 h; omega
 have HY := Lib.hid (GivesTk.yes HYE.out HTT.out rfl hkI ks kt kl km k9 hnd hlo2 (HBL.out.trans (hkf.below (B := w.heap.size) HBL.out.size (fun q h => by simp at h; omega))))
 clear hkf hlow far far2 ks kt kl km hlo9 k9 hnd hlo2 hw9 hkk
 have q0 := BN.out.cell 0
 have r0 := RX.out.cell 0
 have g0 := RX.out.frozen 0
 have q1 := BN.out.cell 1
 have r1 := RX.out.cell 1
 have g1 := RX.out.frozen 1
 have q2 := BN.out.cell 2
 have r2 := RX.out.cell 2
 have g2 := RX.out.frozen 2
 have q3 := BN.out.cell 3
 have r3 := RX.out.cell 3
 have g3 := RX.out.frozen 3
 have q4 := BN.out.cell 4
 have r4 := RX.out.cell 4
 have g4 := RX.out.frozen 4
 have q5 := BN.out.cell 5
 have r5 := RX.out.cell 5
 have g5 := RX.out.frozen 5
 go_wp2
 refine bodyPost_ret (v := .tuple #[.agg #[.slice b.s d.start.length b.cs, .slice b.t d.text.length b.ct, .slice b.l d.log.length b.cl, .int .i64 k, .slice b.m d.mem.length b.cm, .slice A9 (leExp d.lea k).length c9], .bool true]) (by simp [results, Tryz.results16, go_sem, q0, q1, q2, q3, q4, q5, r0, r1, r2, r3, r4, r5]) rfl ?_
 exact HY.out

set_option maxHeartbeats 16000000 in
theorem specDocTick_any (a : Da) (d : Dc) (n : Int) (w : World) (hD : RdD w a d) :
  Calls Tryz.prog 15 #[.agg #[.slice a.s d.start.length a.cs, .slice a.t d.text.length a.ct, .slice a.l d.log.length a.cl, .int .i64 d.clock, .slice a.m d.mem.length a.cm, .slice a.e d.lea.length a.ce], .int .i64 n] w (GivesTk d n w) := by
 have hal := ((Below.refl w.heap.size w).alloc (Nat.le_refl _) (.cells #[.slice a.s d.start.length a.cs, .slice a.t d.text.length a.ct, .slice a.l d.log.length a.cl, .int .i64 d.clock, .slice a.m d.mem.length a.cm, .slice a.e d.lea.length a.ce] 36)).alloc (by simp) (.cells #[.slice none 0 0, .slice none 0 0, .slice none 0 0, .int .i64 0, .slice none 0 0, .slice none 0 0] 36)
 have hbx := (Blk.new w #[.slice a.s d.start.length a.cs, .slice a.t d.text.length a.ct, .slice a.l d.log.length a.cl, .int .i64 d.clock, .slice a.m d.mem.length a.cm, .slice a.e d.lea.length a.ce] 36).alloc (.cells #[.slice none 0 0, .slice none 0 0, .slice none 0 0, .int .i64 0, .slice none 0 0, .slice none 0 0] 36)
 have hrx := Blk.new (w.alloc (.cells #[.slice a.s d.start.length a.cs, .slice a.t d.text.length a.ct, .slice a.l d.log.length a.cl, .int .i64 d.clock, .slice a.m d.mem.length a.cm, .slice a.e d.lea.length a.ce] 36)) #[.slice none 0 0, .slice none 0 0, .slice none 0 0, .int .i64 0, .slice none 0 0, .slice none 0 0] 36
 simp only [World.size_alloc] at hrx
 have hzw : ((w.alloc (.cells #[.slice a.s d.start.length a.cs, .slice a.t d.text.length a.ct, .slice a.l d.log.length a.cl, .int .i64 d.clock, .slice a.m d.mem.length a.cm, .slice a.e d.lea.length a.ce] 36)).alloc (.cells #[.slice none 0 0, .slice none 0 0, .slice none 0 0, .int .i64 0, .slice none 0 0, .slice none 0 0] 36)).heap.size = w.heap.size + 2 := by simp
 have HB := Lib.hid hal
 have BX := Lib.hid hbx
 have RX := Lib.hid hrx
 have HD := Lib.hid (show ∀ W, Below w.heap.size w W → RdD W a d from fun W h => hD.below h)
 obtain ⟨q1, h1⟩ : ∃ q, docOk d = q := ⟨_, rfl⟩
 obtain ⟨q2, h2⟩ : ∃ q, decide (1 ≤ n ∧ n ≤ 1000) = q := ⟨_, rfl⟩
 have HV := Lib.hid (show tickOk d n = (q1 && q2) by rw [← h1, ← h2]; rfl)
 have H1 := Lib.hid h1
 have H2 := Lib.hid h2
 clear hal hbx hrx hD h1 h2 
 have p0 := BX.out.cell 0
 have p1 := BX.out.cell 1
 have p2 := BX.out.cell 2
 have p3 := BX.out.cell 3
 have p4 := BX.out.cell 4
 have p5 := BX.out.cell 5
 go_enter Tryz.func15, Tryz.ntmps15
 go_wp2_with fail
 generalize (w.alloc (.cells #[.slice a.s d.start.length a.cs, .slice a.t d.text.length a.ct, .slice a.l d.log.length a.cl, .int .i64 d.clock, .slice a.m d.mem.length a.cm, .slice a.e d.lea.length a.ce] 36)).alloc (.cells #[.slice none 0 0, .slice none 0 0, .slice none 0 0, .int .i64 0, .slice none 0 0, .slice none 0 0] 36) = W at *
 have hz0 : w.heap.size + 2 ≤ W.heap.size := Nat.le_of_eq hzw.symm
 clear hzw
 refine (specDocOk_any a d _ (HD.out _ HB.out)).mono ?_
 rintro e w1 ⟨rfl, hb⟩
 rw [H1.out]
 have zw1 := hb.size
 have BX := Lib.hid (BX.out.below hb)
 have RX := Lib.hid (RX.out.below hb)
 have HB := Lib.hid (below_then HB.out hb)
 clear hb
 clear p0 p1 p2 p3 p4 p5
 cases q1
 ·have HN := Lib.hid (GivesTk.no (show tickOk d n = false by rw [HV.out]; rfl) ((((((HB.out.setCell (p := ⟨w.heap.size + 1, 0, none⟩) (by simp) (.slice none 0 0)).setCell (p := ⟨w.heap.size + 1, 1, none⟩) (by simp) (.slice none 0 0)).setCell (p := ⟨w.heap.size + 1, 2, none⟩) (by simp) (.slice none 0 0)).setCell (p := ⟨w.heap.size + 1, 3, none⟩) (by simp) (.int .i64 0)).setCell (p := ⟨w.heap.size + 1, 4, none⟩) (by simp) (.slice none 0 0)).setCell (p := ⟨w.heap.size + 1, 5, none⟩) (by simp) (.slice none 0 0)))
  have r0 := RX.out.cell 0
  have g0 := RX.out.frozen 0
  have r1 := RX.out.cell 1
  have g1 := RX.out.frozen 1
  have r2 := RX.out.cell 2
  have g2 := RX.out.frozen 2
  have r3 := RX.out.cell 3
  have g3 := RX.out.frozen 3
  have r4 := RX.out.cell 4
  have g4 := RX.out.frozen 4
  have r5 := RX.out.cell 5
  have g5 := RX.out.frozen 5
  go_wp2
  refine bodyPost_ret (v := .tuple #[.agg #[.slice none 0 0, .slice none 0 0, .slice none 0 0, .int .i64 0, .slice none 0 0, .slice none 0 0], .bool false]) (by simp [results, Tryz.results15, go_sem, r0, r1, r2, r3, r4, r5]) rfl ?_
  exact HN.out
 by_cases hn0 : 1 ≤ n
 rotate_left 1
 ·have hq : q2 = false := by rw [← H2.out]; exact decide_eq_false (fun h => hn0 h.1)
  subst hq
  have e1 : decide (n < 1) = true := decide_eq_true (by omega)
  have e2 : n < 1 := by omega
  have HN := Lib.hid (GivesTk.no (show tickOk d n = false by rw [HV.out]; rfl) ((((((HB.out.setCell (p := ⟨w.heap.size + 1, 0, none⟩) (by simp) (.slice none 0 0)).setCell (p := ⟨w.heap.size + 1, 1, none⟩) (by simp) (.slice none 0 0)).setCell (p := ⟨w.heap.size + 1, 2, none⟩) (by simp) (.slice none 0 0)).setCell (p := ⟨w.heap.size + 1, 3, none⟩) (by simp) (.int .i64 0)).setCell (p := ⟨w.heap.size + 1, 4, none⟩) (by simp) (.slice none 0 0)).setCell (p := ⟨w.heap.size + 1, 5, none⟩) (by simp) (.slice none 0 0)))
  have r0 := RX.out.cell 0
  have g0 := RX.out.frozen 0
  have r1 := RX.out.cell 1
  have g1 := RX.out.frozen 1
  have r2 := RX.out.cell 2
  have g2 := RX.out.frozen 2
  have r3 := RX.out.cell 3
  have g3 := RX.out.frozen 3
  have r4 := RX.out.cell 4
  have g4 := RX.out.frozen 4
  have r5 := RX.out.cell 5
  have g5 := RX.out.frozen 5
  go_wp2
  refine bodyPost_ret (v := .tuple #[.agg #[.slice none 0 0, .slice none 0 0, .slice none 0 0, .int .i64 0, .slice none 0 0, .slice none 0 0], .bool false]) (by simp [results, Tryz.results15, go_sem, r0, r1, r2, r3, r4, r5]) rfl ?_
  exact HN.out
 by_cases hn1 : n ≤ 1000
 rotate_left 1
 ·have hq : q2 = false := by rw [← H2.out]; exact decide_eq_false (fun h => hn1 h.2)
  subst hq
  have e1 : decide (n < 1) = false := decide_eq_false (by omega)
  have e2 : decide (n > 1000) = true := decide_eq_true (by omega)
  have e3 : 1000 < n := by omega
  have HN := Lib.hid (GivesTk.no (show tickOk d n = false by rw [HV.out]; rfl) ((((((HB.out.setCell (p := ⟨w.heap.size + 1, 0, none⟩) (by simp) (.slice none 0 0)).setCell (p := ⟨w.heap.size + 1, 1, none⟩) (by simp) (.slice none 0 0)).setCell (p := ⟨w.heap.size + 1, 2, none⟩) (by simp) (.slice none 0 0)).setCell (p := ⟨w.heap.size + 1, 3, none⟩) (by simp) (.int .i64 0)).setCell (p := ⟨w.heap.size + 1, 4, none⟩) (by simp) (.slice none 0 0)).setCell (p := ⟨w.heap.size + 1, 5, none⟩) (by simp) (.slice none 0 0)))
  have r0 := RX.out.cell 0
  have g0 := RX.out.frozen 0
  have r1 := RX.out.cell 1
  have g1 := RX.out.frozen 1
  have r2 := RX.out.cell 2
  have g2 := RX.out.frozen 2
  have r3 := RX.out.cell 3
  have g3 := RX.out.frozen 3
  have r4 := RX.out.cell 4
  have g4 := RX.out.frozen 4
  have r5 := RX.out.cell 5
  have g5 := RX.out.frozen 5
  go_wp2
  refine bodyPost_ret (v := .tuple #[.agg #[.slice none 0 0, .slice none 0 0, .slice none 0 0, .int .i64 0, .slice none 0 0, .slice none 0 0], .bool false]) (by simp [results, Tryz.results15, go_sem, r0, r1, r2, r3, r4, r5]) rfl ?_
  exact HN.out
 have hq : q2 = true := by rw [← H2.out]; exact decide_eq_true ⟨hn0, hn1⟩
 subst hq
 have e1 : decide (n < 1) = false := decide_eq_false (by omega)
 have e2 : decide (n > 1000) = false := decide_eq_false (by omega)
 have e4 : ¬ n < 1 := by omega
 have e5 : ¬ 1000 < n := by omega
 have hpt := docOk_parts H1.out
 have hc0 := hpt.2.2.2.2.1
 have hc1 := hpt.2.2.2.2.2
 have hle := leOk_len hpt.2.2.2.1
 obtain ⟨k, hk⟩ : ∃ k, min (d.clock + n) 1000 = k := ⟨_, rfl⟩
 have hk2 : min 1000 (d.clock + n) = k := by rw [← hk]; omega
 have hkI : isI k := ⟨by omega, by omega⟩
 have HKE := Lib.hid hk
 have HTT := Lib.hid (show tickT d n = k from hk)
 have HYE := Lib.hid (show tickOk d n = true by rw [HV.out]; rfl)
 clear hpt
 have p0 := BX.out.cell 0
 have p1 := BX.out.cell 1
 have p2 := BX.out.cell 2
 have p3 := BX.out.cell 3
 have p4 := BX.out.cell 4
 have p5 := BX.out.cell 5
 go_wp2_with fail
 refine (l10Copy_any a d _ H1.out (HD.out _ HB.out)).mono ?_
 rintro e w3 ⟨b, fs, ft, fl, fm, fe, rfl, ho, hb⟩
 have zw3 := hb.size
 have BX := Lib.hid (BX.out.below hb)
 have RX := Lib.hid (RX.out.below hb)
 have HB := Lib.hid (below_then HB.out hb)
 clear p0 p1 p2 p3 p4 p5
 clear hb
 have p3 := (BX.out.alloc (.cells #[.slice b.s d.start.length b.cs, .slice b.t d.text.length b.ct, .slice b.l d.log.length b.cl, .int .i64 d.clock, .slice b.m d.mem.length b.cm, .slice b.e d.lea.length b.ce] 36)).cell 3
 have hal := (Below.refl w3.heap.size w3).alloc (Nat.le_refl _) (.cells #[.slice b.s d.start.length b.cs, .slice b.t d.text.length b.ct, .slice b.l d.log.length b.cl, .int .i64 k, .slice b.m d.mem.length b.cm, .slice b.e d.lea.length b.ce] 36)
 have BN := Lib.hid (Blk.new w3 #[.slice b.s d.start.length b.cs, .slice b.t d.text.length b.ct, .slice b.l d.log.length b.cl, .int .i64 k, .slice b.m d.mem.length b.cm, .slice b.e d.lea.length b.ce] 36)
 have HO := Lib.hid (ho.below hal)
 have HLT := Lib.hid (show ∀ q ∈ fs ++ (ft ++ (fl ++ (fm ++ fe))), q < w3.heap.size from fun q hq => by
  simp only [List.mem_append] at hq
  rcases hq with h | h | h | h | h
  ·exact Lay.bytes.lt ho.s q h
  ·exact Lay.bytes.lt ho.t q h
  ·exact Lay.commits.lt ho.l q h
  ·exact Lay.members.lt ho.m q h
  ·exact Lay.leases.lt ho.e q h)
 have BX := Lib.hid (BX.out.below hal)
 have RX := Lib.hid (RX.out.below hal)
 have HB := Lib.hid (below_then HB.out hal)
 have hzn : w3.heap.size < (w3.alloc (.cells #[.slice b.s d.start.length b.cs, .slice b.t d.text.length b.ct, .slice b.l d.log.length b.cl, .int .i64 k, .slice b.m d.mem.length b.cm, .slice b.e d.lea.length b.ce] 36)).heap.size := by simp
 clear hal ho
 have hwr : IntKind.i64.wrap (d.clock + n) = d.clock + n := IntWalk.i64_in _ ⟨by omega, by omega⟩
 have p5 := BX.out.cell 5
 have m3 := BN.out.cell 3
 go_wp2_with fail
 generalize w3.alloc (.cells #[.slice b.s d.start.length b.cs, .slice b.t d.text.length b.ct, .slice b.l d.log.length b.cl, .int .i64 k, .slice b.m d.mem.length b.cm, .slice b.e d.lea.length b.ce] 36) = W4 at *
 refine (specLeaseExpire_any a.e d.lea a.ce k _ (by omega) (HD.out _ HB.out).e).mono ?_
 rintro e w4 ⟨v9, rfl, ho9, hb⟩
 obtain ⟨A9, c9, e9, _, _, _⟩ := ho9.ll
 subst e9
 have zw4 := hb.size
 have BN := Lib.hid (BN.out.below hb)
 have BX := Lib.hid (BX.out.below hb)
 have RX := Lib.hid (RX.out.below hb)
 have HB := Lib.hid (below_then HB.out hb)
 clear p3 p5 m3 hwr
 have n5 := BN.out.cell 5
 have f5 := BN.out.frozen 5
 have hk2' := (Keeps.refl [w3.heap.size] w4).set (List.mem_singleton.2 rfl) 5 (.slice A9 (leExp d.lea k).length c9)
 have hlo9 : ∀ q ∈ (Value.slice A9 (leExp d.lea k).length c9).ownBlock.toList, W4.heap.size ≤ q ∧ q < w4.heap.size := fun q hq => World.ownsRow.lt ho9.row q (by simpa using hq)
 have H9 := Lib.hid (ho9.heap (fun q hq => hk2'.block q (hlo9 q hq).2 (fun h => by have := (hlo9 q hq).1; simp at h; omega)))
 have BN := Lib.hid (show Blk _ w3.heap.size #[.slice b.s d.start.length b.cs, .slice b.t d.text.length b.ct, .slice b.l d.log.length b.cl, .int .i64 k, .slice b.m d.mem.length b.cm, .slice A9 (leExp d.lea k).length c9] 36 from BN.out.set 5 (.slice A9 (leExp d.lea k).length c9))
 have RX := Lib.hid (RX.out.of_block (hk2'.block _ RX.out.lt (by simp; omega)))
 have HBL := Lib.hid (HB.out.trans (hk2'.below (B := w.heap.size) HB.out.size (fun q h => by simp at h; omega)))
 have hkk := (Keeps.of_below (fp := [w3.heap.size]) hb).trans hk2'
 have zk2 := hk2'.size
 clear hb hk2' ho9 hlo9
 go_upto_region 6 with fail
 generalize w4.setCell ⟨w3.heap.size, 5, none⟩ (.slice A9 (leExp d.lea k).length c9) = W5 at *
 clear n5 f5
 generalize w3.heap.size = gb at *
 obtain ⟨A', c', e', hw9⟩ := H9.out.owL
 simp only [Value.slice.injEq, true_and] at e'
 obtain ⟨rfl, rfl⟩ := e'
 have hkf := ((((((Keeps.refl [w.heap.size + 1] W5).set (List.mem_singleton.2 rfl) 0 (.slice b.s d.start.length b.cs)).set (List.mem_singleton.2 rfl) 1 (.slice b.t d.text.length b.ct)).set (List.mem_singleton.2 rfl) 2 (.slice b.l d.log.length b.cl)).set (List.mem_singleton.2 rfl) 3 (.int .i64 k)).set (List.mem_singleton.2 rfl) 4 (.slice b.m d.mem.length b.cm)).set (List.mem_singleton.2 rfl) 5 (.slice A9 (leExp d.lea k).length c9)
 have hlow := HO.out.lo
 have far : ∀ q ∈ fs ++ (ft ++ (fl ++ (fm ++ fe))), q ∉ [gb] := fun q hq h => by have := HLT.out q hq; simp at h; omega
 have far2 : ∀ q ∈ fs ++ (ft ++ (fl ++ (fm ++ fe))), q ∉ [w.heap.size + 1] := fun q hq h => by have := hlow q hq; simp at h; omega
 have ks := Lay.bytes.keeps (Lay.bytes.keeps HO.out.s hkk (fun q hq => far q (by simp [hq]))) hkf (fun q hq => far2 q (by simp [hq]))
 have kt := Lay.bytes.keeps (Lay.bytes.keeps HO.out.t hkk (fun q hq => far q (by simp [hq]))) hkf (fun q hq => far2 q (by simp [hq]))
 have kl := Lay.commits.keeps (Lay.commits.keeps HO.out.l hkk (fun q hq => far q (by simp [hq]))) hkf (fun q hq => far2 q (by simp [hq]))
 have km := Lay.members.keeps (Lay.members.keeps HO.out.m hkk (fun q hq => far q (by simp [hq]))) hkf (fun q hq => far2 q (by simp [hq]))
 have hlo9 := hw9.lo
 have k9 := Lay.leases.keeps hw9.ow hkf (fun q hq h => by have := hlo9 q hq; simp at h; omega)
 have hnd := nd_last HO.out.nd HLT.out (fun q hq => by have := hlo9 q hq; omega) hw9.nd
 have hlo2 : ∀ q ∈ fs ++ (ft ++ (fl ++ (fm ++ (Value.slice A9 (leExp d.lea k).length c9).ownBlock.toList))), w.heap.size ≤ q := fun q hq => by
  have k1 := hlow q
  have k2 := hlo9 q
  simp only [List.mem_append] at hq k1 k2
  rcases hq with h | h | h | h | h
  ·have := k1 (.inl h); omega
  ·have := k1 (.inr (.inl h)); omega
  ·have := k1 (.inr (.inr (.inl h))); omega
  ·have := k1 (.inr (.inr (.inr (.inl h)))); omega
  ·have := k2 h; omega
 have HY := Lib.hid (GivesTk.yes HYE.out HTT.out rfl hkI ks kt kl km k9 hnd hlo2 (HBL.out.trans (hkf.below (B := w.heap.size) HBL.out.size (fun q h => by simp at h; omega))))
 clear hkf hlow far far2 ks kt kl km hlo9 k9 hnd hlo2 hw9 hkk
 have q0 := BN.out.cell 0
 have r0 := RX.out.cell 0
 have g0 := RX.out.frozen 0
 have q1 := BN.out.cell 1
 have r1 := RX.out.cell 1
 have g1 := RX.out.frozen 1
 have q2 := BN.out.cell 2
 have r2 := RX.out.cell 2
 have g2 := RX.out.frozen 2
 have q3 := BN.out.cell 3
 have r3 := RX.out.cell 3
 have g3 := RX.out.frozen 3
 have q4 := BN.out.cell 4
 have r4 := RX.out.cell 4
 have g4 := RX.out.frozen 4
 have q5 := BN.out.cell 5
 have r5 := RX.out.cell 5
 have g5 := RX.out.frozen 5
 go_wp2
 refine bodyPost_ret (v := .tuple #[.agg #[.slice b.s d.start.length b.cs, .slice b.t d.text.length b.ct, .slice b.l d.log.length b.cl, .int .i64 k, .slice b.m d.mem.length b.cm, .slice A9 (leExp d.lea k).length c9], .bool true]) (by simp [results, Tryz.results15, go_sem, q0, q1, q2, q3, q4, q5, r0, r1, r2, r3, r4, r5]) rfl ?_
 exact HY.out
end Go.Proofs.YtaekanhjkpoifaaGreatDoor
