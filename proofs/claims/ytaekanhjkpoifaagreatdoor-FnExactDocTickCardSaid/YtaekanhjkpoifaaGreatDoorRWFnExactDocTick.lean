/-
 FnExactDocTick, its walk. Own work.
-/
import Derived.Test.YtaekanhjkpoifaaGreatDoorRp0
import Derived.Test.YtaekanhjkpoifaaGreatDoorRC20
import Derived.Test.YtaekanhjkpoifaaGreatDoorRD18
import Derived.Deep.RegionHeld3
import Derived.Deep.DeepCutAuto
namespace Go.Proofs.YtaekanhjkpoifaaGreatDoor.fnExactDocTick
open Go.ChangeShapes Go.WideShapes Go.ChangeAt Go.RowKit P
set_option linter.unusedVariables false
set_option maxRecDepth 100000

theorem tot_le {c : Nat} : ∀ (L : List Ed), (∀ e ∈ L, e.2.2.length ≤ c) → tot (puts L) ≤ c * L.length := by
 intro L
 induction L with
 | nil => intro _; simp [tot, puts]
 | cons e t ih =>
  intro h
  have h1 := ih (fun x hx => h x (List.mem_cons_of_mem _ hx))
  have h2 := h e (List.mem_cons_self ..)
  have h3 : tot (puts (e :: t)) = e.2.2.length + tot (puts t) := by unfold tot puts; simp
  rw [h3, List.length_cons, Nat.mul_add, Nat.mul_one]
  omega
theorem cputs_log (lg : List Cm) : cputs lg = puts (logE lg) := by unfold cputs puts logE; rw [List.map_map]; rfl
theorem msum_le {c : Nat} : ∀ (L : List Mb), (∀ m ∈ L, mtot m ≤ c) → msum L ≤ c * L.length := by
 intro L
 induction L with
 | nil => intro _; simp [msum]
 | cons e t ih =>
  intro h
  have h1 := ih (fun x hx => h x (List.mem_cons_of_mem _ hx))
  have h2 := h e (List.mem_cons_self ..)
  have h3 : msum (e :: t) = mtot e + msum t := by unfold msum; simp
  rw [h3, List.length_cons, Nat.mul_add, Nat.mul_one]
  omega
theorem doc_wD {d : Dc} (h : docOk d = true) (e : List Le) (t : Int) (he : e.length ≤ 1000) : wD 1 ⟨d.start, d.text, d.log, t, d.mem, e⟩ ≤ 380000 := by
 obtain ⟨h1, h2, _⟩ := docOk_parts h
 have h3 := docOk_start_len h
 have h4 := docOk_text_len h
 have h5 := tot_le (logE d.log) (docOk_puts0 h)
 rw [← cputs_log, logE_length] at h5
 have h6 := msum_le (c := 12012) d.mem (fun m hm => by
  have k1 := docOk_mem_six h m hm
  have k2 := docOk_mem_small h m hm
  have k3 := tot_le m.2.2.1 k2.2.1
  have k4 := tot_le m.2.2.2 k2.2.2
  unfold mtot
  omega)
 unfold wD
 simp only
 omega
theorem tick_wD (d : Dc) (n : Int) : wD 1 (tickD d n) ≤ 380000 := by
 unfold tickD
 by_cases h : tickOk d n = true
 ·rw [if_pos h]
  unfold tickOk at h
  rw [Bool.and_eq_true] at h
  refine doc_wD h.1 _ _ ?_
  have h1 := leOk_len (docOk_parts h.1).2.2.2.1
  unfold leExp
  split
  ·have h2 := List.length_filter_le (fun l : Le => decide (tickT d n < l.2.2.2)) d.lea
   omega
  ·simp
 ·rw [if_neg h]
  unfold wD tot cputs msum
  simp

set_option maxHeartbeats 16000000 in
theorem walk (b0 : Da) (d0 : Dc) (a1 : Int) (hb1 : -9223372036854775808 ≤ a1 ∧ a1 ≤ 9223372036854775807) (w : World) (hR0 : RdD w b0 d0) (hT : Tab w) :
  Calls Tryz.prog 4 #[.agg #[.slice b0.s d0.start.length b0.cs, .slice b0.t d0.text.length b0.ct, .slice b0.l d0.log.length b0.cl, .int .i64 d0.clock, .slice b0.m d0.mem.length b0.cm, .slice b0.e d0.lea.length b0.ce], .int .i64 a1] w fun e w' => e = .returned (.bool true) ∧ Below w.heap.size w w' := by
 have AX := Lib.hid (Blk.new w #[.slice b0.s d0.start.length b0.cs, .slice b0.t d0.text.length b0.ct, .slice b0.l d0.log.length b0.cl, .int .i64 d0.clock, .slice b0.m d0.mem.length b0.cm, .slice b0.e d0.lea.length b0.ce] 27)
 have HB := Lib.hid ((Below.refl w.heap.size w).alloc (Nat.le_refl _) (.cells #[.slice b0.s d0.start.length b0.cs, .slice b0.t d0.text.length b0.ct, .slice b0.l d0.log.length b0.cl, .int .i64 d0.clock, .slice b0.m d0.mem.length b0.cm, .slice b0.e d0.lea.length b0.ce] 27))
 obtain ⟨R, hRe⟩ : ∃ R, tickD d0 a1 = R := ⟨_, rfl⟩
 obtain ⟨z, hze⟩ : ∃ z, tickOk d0 a1 = z := ⟨_, rfl⟩
 have HZE := Lib.hid hze
 have HRE := Lib.hid hRe
 have hzz : (z != z) = false := by simp
 have hw4 : wD 1 R ≤ 380000 := by rw [← hRe]; exact tick_wD d0 a1
 clear hRe hze hb1
 go_enter Tryz.func4, Tryz.ntmps4
 have HR := Lib.hid (hR0.below HB.out)
 have p0 := AX.out.cell 0
 have p1 := AX.out.cell 1
 have p2 := AX.out.cell 2
 have p3 := AX.out.cell 3
 have p4 := AX.out.cell 4
 have p5 := AX.out.cell 5
 go_wp2_with fail
 refine (szDoc_any b0 d0 1048576 _ (by omega) (by omega) HR.out).mono ?_
 rintro e s0 ⟨⟨q0, rfl, hq0⟩, hb⟩
 have z1 := hb.size
 have AX := Lib.hid (AX.out.below hb)
 have HB := Lib.hid (below_then HB.out hb)
 clear hb HR
 have zAX : w.heap.size < s0.heap.size := AX.out.lt
 clear p0 p1 p2 p3 p4 p5
 by_cases hneg : q0 < 0
 ·go_wp2
  go_ret
  exact ⟨rfl, HB.out⟩
 have hsz : dtot d0 ≤ 1048576 := by omega
 clear hq0
 have HR := Lib.hid (hR0.below HB.out)
 have p0 := AX.out.cell 0
 have p1 := AX.out.cell 1
 have p2 := AX.out.cell 2
 have p3 := AX.out.cell 3
 have p4 := AX.out.cell 4
 have p5 := AX.out.cell 5
 go_wp2_with fail
 refine (toDoc_any b0 d0 _ hsz HR.out).mono ?_
 rintro e m1 ⟨ma, mfs, mft, mfl, mfm, mfe, rfl, ho, hb⟩
 have z2 := hb.size
 have AX := Lib.hid (AX.out.below hb)
 have HB := Lib.hid (below_then HB.out hb)
 have mO := Lib.hid (ho.below (Below.refl _ _))
 have Rm := Lib.hid ho.range
 clear ho HR
 clear hb
 clear p0 p1 p2 p3 p4 p5
 go_wp2_with fail
 refine (specDocTick_any ma d0 a1 _ mO.out.rd).mono ?_
 rintro e m2 hgv
 unfold GivesTk at hgv
 rw [HRE.out, HZE.out] at hgv
 obtain ⟨Ob, Ofs, Oft, Ofl, Ofm, Ofe, rfl, ho, hb⟩ := hgv
 have z3 := hb.size
 have AX := Lib.hid (AX.out.below hb)
 have mO := Lib.hid (mO.out.below hb)
 have HB := Lib.hid (below_then HB.out hb)
 have O := Lib.hid (ho.below (Below.refl _ _))
 have RO := Lib.hid ho.range
 clear ho
 clear hb
 have hal := (Below.refl m2.heap.size m2).alloc (Nat.le_refl _) (.cells #[.slice Ob.s R.start.length Ob.cs, .slice Ob.t R.text.length Ob.ct, .slice Ob.l R.log.length Ob.cl, .int .i64 R.clock, .slice Ob.m R.mem.length Ob.cm, .slice Ob.e R.lea.length Ob.ce] 36)
 have hbx := Blk.new m2 #[.slice Ob.s R.start.length Ob.cs, .slice Ob.t R.text.length Ob.ct, .slice Ob.l R.log.length Ob.cl, .int .i64 R.clock, .slice Ob.m R.mem.length Ob.cm, .slice Ob.e R.lea.length Ob.ce] 36
 have zbOX : m2.heap.size < (m2.alloc (.cells #[.slice Ob.s R.start.length Ob.cs, .slice Ob.t R.text.length Ob.ct, .slice Ob.l R.log.length Ob.cl, .int .i64 R.clock, .slice Ob.m R.mem.length Ob.cm, .slice Ob.e R.lea.length Ob.ce] 36)).heap.size := by simp
 have AX := Lib.hid (AX.out.below hal)
 have mO := Lib.hid (mO.out.below hal)
 have O := Lib.hid (O.out.below hal)
 have HB := Lib.hid (below_then HB.out hal)
 have z4 := hal.size
 have OX := Lib.hid hbx
 clear hbx hal
 clear mO Rm
 have HR := Lib.hid (hR0.below HB.out)
 have p0 := AX.out.cell 0
 have p1 := AX.out.cell 1
 have p2 := AX.out.cell 2
 have p3 := AX.out.cell 3
 have p4 := AX.out.cell 4
 have p5 := AX.out.cell 5
 go_wp2_with fail
 generalize m2.alloc (.cells #[.slice Ob.s R.start.length Ob.cs, .slice Ob.t R.text.length Ob.ct, .slice Ob.l R.log.length Ob.cl, .int .i64 R.clock, .slice Ob.m R.mem.length Ob.cm, .slice Ob.e R.lea.length Ob.ce] 36) = m2w at *
 refine (toDoc_any b0 d0 _ hsz HR.out).mono ?_
 rintro e x1 ⟨xa, xfs, xft, xfl, xfm, xfe, rfl, ho, hb⟩
 have z5 := hb.size
 have AX := Lib.hid (AX.out.below hb)
 have O := Lib.hid (O.out.below hb)
 have OX := Lib.hid (OX.out.below hb)
 have HB := Lib.hid (below_then HB.out hb)
 have xO := Lib.hid (ho.below (Below.refl _ _))
 have Rx := Lib.hid ho.range
 clear ho HR
 clear hb
 clear p0 p1 p2 p3 p4 p5
 have hal := (Below.refl x1.heap.size x1).alloc (Nat.le_refl _) (.cells #[.slice xa.s d0.start.length xa.cs, .slice xa.t d0.text.length xa.ct, .slice xa.l d0.log.length xa.cl, .int .i64 d0.clock, .slice xa.m d0.mem.length xa.cm, .slice xa.e d0.lea.length xa.ce] 36)
 have hbx := Blk.new x1 #[.slice xa.s d0.start.length xa.cs, .slice xa.t d0.text.length xa.ct, .slice xa.l d0.log.length xa.cl, .int .i64 d0.clock, .slice xa.m d0.mem.length xa.cm, .slice xa.e d0.lea.length xa.ce] 36
 have zbx : x1.heap.size < (x1.alloc (.cells #[.slice xa.s d0.start.length xa.cs, .slice xa.t d0.text.length xa.ct, .slice xa.l d0.log.length xa.cl, .int .i64 d0.clock, .slice xa.m d0.mem.length xa.cm, .slice xa.e d0.lea.length xa.ce] 36)).heap.size := by simp
 have AX := Lib.hid (AX.out.below hal)
 have O := Lib.hid (O.out.below hal)
 have OX := Lib.hid (OX.out.below hal)
 have xO := Lib.hid (xO.out.below hal)
 have HB := Lib.hid (below_then HB.out hal)
 have z6 := hal.size
 have XB := Lib.hid hbx
 clear hbx hal
 have HT := Lib.hid (hT.below HB.out)
 have q0 := XB.out.cell 0
 have q1 := XB.out.cell 1
 have q2 := XB.out.cell 2
 have q3 := XB.out.cell 3
 have q4 := XB.out.cell 4
 have q5 := XB.out.cell 5
 go_wp2_with fail
 generalize x1.alloc (.cells #[.slice xa.s d0.start.length xa.cs, .slice xa.t d0.text.length xa.ct, .slice xa.l d0.log.length xa.cl, .int .i64 d0.clock, .slice xa.m d0.mem.length xa.cm, .slice xa.e d0.lea.length xa.ce] 36) = xw at *
 refine (implDocTick_any xa d0 a1 _ (by exact HT.out) xO.out.rd).mono ?_
 rintro e g1 hgv
 unfold GivesTk at hgv
 rw [HRE.out, HZE.out] at hgv
 obtain ⟨Gb, Gfs, Gft, Gfl, Gfm, Gfe, rfl, ho, hb⟩ := hgv
 have z7 := hb.size
 have AX := Lib.hid (AX.out.below hb)
 have O := Lib.hid (O.out.below hb)
 have OX := Lib.hid (OX.out.below hb)
 have xO := Lib.hid (xO.out.below hb)
 have XB := Lib.hid (XB.out.below hb)
 have HB := Lib.hid (below_then HB.out hb)
 have G := Lib.hid (ho.below (Below.refl _ _))
 have RG := Lib.hid ho.range
 clear ho
 clear hb
 have hal := (Below.refl g1.heap.size g1).alloc (Nat.le_refl _) (.cells #[.slice Gb.s R.start.length Gb.cs, .slice Gb.t R.text.length Gb.ct, .slice Gb.l R.log.length Gb.cl, .int .i64 R.clock, .slice Gb.m R.mem.length Gb.cm, .slice Gb.e R.lea.length Gb.ce] 36)
 have hbx := Blk.new g1 #[.slice Gb.s R.start.length Gb.cs, .slice Gb.t R.text.length Gb.ct, .slice Gb.l R.log.length Gb.cl, .int .i64 R.clock, .slice Gb.m R.mem.length Gb.cm, .slice Gb.e R.lea.length Gb.ce] 36
 have zbGX : g1.heap.size < (g1.alloc (.cells #[.slice Gb.s R.start.length Gb.cs, .slice Gb.t R.text.length Gb.ct, .slice Gb.l R.log.length Gb.cl, .int .i64 R.clock, .slice Gb.m R.mem.length Gb.cm, .slice Gb.e R.lea.length Gb.ce] 36)).heap.size := by simp
 have AX := Lib.hid (AX.out.below hal)
 have O := Lib.hid (O.out.below hal)
 have OX := Lib.hid (OX.out.below hal)
 have xO := Lib.hid (xO.out.below hal)
 have XB := Lib.hid (XB.out.below hal)
 have G := Lib.hid (G.out.below hal)
 have HB := Lib.hid (below_then HB.out hal)
 have z8 := hal.size
 have GX := Lib.hid hbx
 clear hbx hal
 clear q0 q1 q2 q3 q4 q5
 clear HT
 have q0 := GX.out.cell 0
 have q1 := GX.out.cell 1
 have q2 := GX.out.cell 2
 have q3 := GX.out.cell 3
 have q4 := GX.out.cell 4
 have q5 := GX.out.cell 5
 have p0 := OX.out.cell 0
 have p1 := OX.out.cell 1
 have p2 := OX.out.cell 2
 have p3 := OX.out.cell 3
 have p4 := OX.out.cell 4
 have p5 := OX.out.cell 5
 go_wp2_with fail
 generalize g1.alloc (.cells #[.slice Gb.s R.start.length Gb.cs, .slice Gb.t R.text.length Gb.ct, .slice Gb.l R.log.length Gb.cl, .int .i64 R.clock, .slice Gb.m R.mem.length Gb.cm, .slice Gb.e R.lea.length Gb.ce] 36) = g1w at *
 refine (eqDoc_any Gb Ob R R _ (by exact G.out.rd) (by exact O.out.rd)).mono ?_
 rintro e v0 ⟨rfl, hb⟩
 rw [decide_eq_true (rfl : R = R)]
 have z9 := hb.size
 have AX := Lib.hid (AX.out.below hb)
 have O := Lib.hid (O.out.below hb)
 have OX := Lib.hid (OX.out.below hb)
 have xO := Lib.hid (xO.out.below hb)
 have XB := Lib.hid (XB.out.below hb)
 have G := Lib.hid (G.out.below hb)
 have GX := Lib.hid (GX.out.below hb)
 have HB := Lib.hid (below_then HB.out hb)
 clear hb
 clear q0 q1 q2 q3 q4 q5
 clear p0 p1 p2 p3 p4 p5
 have HR := Lib.hid (hR0.below HB.out)
 have p0 := AX.out.cell 0
 have p1 := AX.out.cell 1
 have p2 := AX.out.cell 2
 have p3 := AX.out.cell 3
 have p4 := AX.out.cell 4
 have p5 := AX.out.cell 5
 have q0 := XB.out.cell 0
 have q1 := XB.out.cell 1
 have q2 := XB.out.cell 2
 have q3 := XB.out.cell 3
 have q4 := XB.out.cell 4
 have q5 := XB.out.cell 5
 have zA := AX.out.lt
 have zX := XB.out.lt
 have xO1 := xO
 go_wp2_with fail
 refine wp_region_held_drew (S := (fun V => V.cell? ⟨w.heap.size, 0, none⟩ = some (.slice b0.s d0.start.length b0.cs) ∧ V.cell? ⟨w.heap.size, 1, none⟩ = some (.slice b0.t d0.text.length b0.ct) ∧ V.cell? ⟨w.heap.size, 2, none⟩ = some (.slice b0.l d0.log.length b0.cl) ∧ V.cell? ⟨w.heap.size, 3, none⟩ = some (.int .i64 d0.clock) ∧ V.cell? ⟨w.heap.size, 4, none⟩ = some (.slice b0.m d0.mem.length b0.cm) ∧ V.cell? ⟨w.heap.size, 5, none⟩ = some (.slice b0.e d0.lea.length b0.ce) ∧ V.cell? ⟨x1.heap.size, 0, none⟩ = some (.slice xa.s d0.start.length xa.cs) ∧ V.cell? ⟨x1.heap.size, 1, none⟩ = some (.slice xa.t d0.text.length xa.ct) ∧ V.cell? ⟨x1.heap.size, 2, none⟩ = some (.slice xa.l d0.log.length xa.cl) ∧ V.cell? ⟨x1.heap.size, 3, none⟩ = some (.int .i64 d0.clock) ∧ V.cell? ⟨x1.heap.size, 4, none⟩ = some (.slice xa.m d0.mem.length xa.cm) ∧ V.cell? ⟨x1.heap.size, 5, none⟩ = some (.slice xa.e d0.lea.length xa.ce))) (by kernel_rfl) (by exact ⟨p0, p1, p2, p3, p4, p5, q0, q1, q2, q3, q4, q5⟩) (fun hHeld => ?_)
 refine wpAnyH_take (i := 0) (oi := ?_) (v := ?_) ?_ ?_ ?_ ?_ ?_ ?_ (by exact hHeld) ?_
 rotate_left 2
 ·(simp only [List.getElem?_toArray, List.getElem?_cons_zero]; try rfl)
 ·kernel_rfl
 ·kernel_rfl
 ·kernel_rfl
 ·exact fun _ _ _ h => h
 ·refine Or.inl ⟨by rfl, ?_⟩
  (intro V hSV; (try dsimp only at hSV); obtain ⟨q0, q1, q2, q3, q4, q5, q6, q7, q8, q9, q10, q11⟩ := hSV; go_simp; try with_reducible rfl)
 (try simp only [LY9])
 refine wpAnyH_take (i := 1) (oi := ?_) (v := ?_) ?_ ?_ ?_ ?_ ?_ ?_ (by exact hHeld) ?_
 rotate_left 2
 ·(simp only [LX9]; try rfl)
 ·kernel_rfl
 ·kernel_rfl
 ·kernel_rfl
 ·exact fun _ _ _ h => h
 ·refine Or.inl ⟨by rfl, ?_⟩
  (intro V hSV; (try dsimp only at hSV); obtain ⟨q0, q1, q2, q3, q4, q5, q6, q7, q8, q9, q10, q11⟩ := hSV; go_simp; try with_reducible rfl)
 (try simp only [LY9])
 refine wpAnyH_ready (rs := [2]) (by kernel_rfl) (by simp) ?_
 refine AllReadyH.cons rfl (fun K hK => ?_) AllReadyH.nil
 go_simp
 refine (toDoc_any b0 d0 _ hsz (by first | exact HR.out | exact HR.out.below (bsk4 _))).mono ?_
 rintro e y1 ⟨ya, yfs, yft, yfl, yfm, yfe, rfl, ho, hby1⟩
 have hby1 : Below v0.heap.size v0 y1 := ⟨hby1.os, hby1.tape, hby1.output, hby1.size, hby1.block⟩
 have hbR := hby1
 have yO := Lib.hid ho.rd
 have xO2 := Lib.hid (xO1.out.below hby1)
 clear ho
 go_wp2_with fail
 refine hK.out _ _ (by exact ⟨((hbR).cell (p := ⟨w.heap.size, 0, none⟩) zA).trans p0, ((hbR).cell (p := ⟨w.heap.size, 1, none⟩) zA).trans p1, ((hbR).cell (p := ⟨w.heap.size, 2, none⟩) zA).trans p2, ((hbR).cell (p := ⟨w.heap.size, 3, none⟩) zA).trans p3, ((hbR).cell (p := ⟨w.heap.size, 4, none⟩) zA).trans p4, ((hbR).cell (p := ⟨w.heap.size, 5, none⟩) zA).trans p5, ((hbR).cell (p := ⟨x1.heap.size, 0, none⟩) zX).trans q0, ((hbR).cell (p := ⟨x1.heap.size, 1, none⟩) zX).trans q1, ((hbR).cell (p := ⟨x1.heap.size, 2, none⟩) zX).trans q2, ((hbR).cell (p := ⟨x1.heap.size, 3, none⟩) zX).trans q3, ((hbR).cell (p := ⟨x1.heap.size, 4, none⟩) zX).trans q4, ((hbR).cell (p := ⟨x1.heap.size, 5, none⟩) zX).trans q5⟩) (fun hHeld => ?_)
 clear hK K
 (try simp only [LY9])
 refine wpAnyH_ready (rs := [3]) (by kernel_rfl) (by simp) ?_
 refine AllReadyH.cons rfl (fun K hK => ?_) AllReadyH.nil
 go_simp
 refine (eqDoc_any xa ya d0 d0 _ (by first | exact xO2.out.rd | exact xO2.out.rd.below (bsk4 _)) (by first | exact yO.out | exact yO.out.below (bsk4 _))).mono ?_
 rintro e y2 ⟨rfl, hby2⟩
 rw [decide_eq_true (rfl : d0 = d0)]
 have hby2 : Below y1.heap.size y1 y2 := ⟨hby2.os, hby2.tape, hby2.output, hby2.size, hby2.block⟩
 have hbR := below_then hbR hby2
 go_wp2_with fail
 refine hK.out _ _ (by exact ⟨((hbR).cell (p := ⟨w.heap.size, 0, none⟩) zA).trans p0, ((hbR).cell (p := ⟨w.heap.size, 1, none⟩) zA).trans p1, ((hbR).cell (p := ⟨w.heap.size, 2, none⟩) zA).trans p2, ((hbR).cell (p := ⟨w.heap.size, 3, none⟩) zA).trans p3, ((hbR).cell (p := ⟨w.heap.size, 4, none⟩) zA).trans p4, ((hbR).cell (p := ⟨w.heap.size, 5, none⟩) zA).trans p5, ((hbR).cell (p := ⟨x1.heap.size, 0, none⟩) zX).trans q0, ((hbR).cell (p := ⟨x1.heap.size, 1, none⟩) zX).trans q1, ((hbR).cell (p := ⟨x1.heap.size, 2, none⟩) zX).trans q2, ((hbR).cell (p := ⟨x1.heap.size, 3, none⟩) zX).trans q3, ((hbR).cell (p := ⟨x1.heap.size, 4, none⟩) zX).trans q4, ((hbR).cell (p := ⟨x1.heap.size, 5, none⟩) zX).trans q5⟩) (fun hHeld => ?_)
 clear hK K
 (try simp only [LY9])
 refine wpAnyH_take (i := 4) (oi := ?_) (v := ?_) ?_ ?_ ?_ ?_ ?_ ?_ (by exact hHeld) ?_
 rotate_left 2
 ·(simp only [LX9]; try rfl)
 ·kernel_rfl
 ·kernel_rfl
 ·kernel_rfl
 ·exact fun _ _ _ h => h
 ·refine Or.inl ⟨by rfl, ?_⟩
  (intro V hSV; (try dsimp only at hSV); obtain ⟨q0, q1, q2, q3, q4, q5, q6, q7, q8, q9, q10, q11⟩ := hSV; go_simp; try with_reducible rfl)
 (try simp only [LY9])
 refine wpAnyH_done (by kernel_rfl) ?_ _
 clear hHeld yO xO1 xO2 HR zA zX hby1 hby2
 clear p0 p1 p2 p3 p4 p5
 clear q0 q1 q2 q3 q4 q5
 have z10 := hbR.size
 have AX := Lib.hid (AX.out.below hbR)
 have O := Lib.hid (O.out.below hbR)
 have OX := Lib.hid (OX.out.below hbR)
 have xO := Lib.hid (xO.out.below hbR)
 have XB := Lib.hid (XB.out.below hbR)
 have G := Lib.hid (G.out.below hbR)
 have GX := Lib.hid (GX.out.below hbR)
 have HB := Lib.hid (below_then HB.out hbR)
 clear hbR
 have hwd : wD 1 d0 ≤ 4400000 := by have := wD_le 1 d0; omega
 have q0 := XB.out.cell 0
 have q1 := XB.out.cell 1
 have q2 := XB.out.cell 2
 have q3 := XB.out.cell 3
 have q4 := XB.out.cell 4
 have q5 := XB.out.cell 5
 go_wp2_with fail
 refine (markDoc_any xa d0 _ _ _ _ _ _ 1 _ hwd (by exact xO.out)).mono ?_
 rintro e k1 ⟨rfl, _, hke⟩
 clear q0 q1 q2 q3 q4 q5
 have AX := Lib.hid (AX.out.of_block (hke.block _ AX.out.lt (fun h => by have h1 := Rx.out _ h; omega)))
 have O := Lib.hid (O.out.keeps hke (fun b hb h => by have h1 := Rx.out b h; have h2 := RO.out b hb; omega))
 have OX := Lib.hid (OX.out.of_block (hke.block _ OX.out.lt (fun h => by have h1 := Rx.out _ h; omega)))
 have G := Lib.hid (G.out.keeps hke (fun b hb h => by have h1 := Rx.out b h; have h2 := RG.out b hb; omega))
 have GX := Lib.hid (GX.out.of_block (hke.block _ GX.out.lt (fun h => by have h1 := Rx.out _ h; omega)))
 have HB := Lib.hid (HB.out.trans (hke.below (B := w.heap.size) HB.out.size (fun k hk => by have h1 := Rx.out k hk; omega)))
 have z11 := hke.size
 clear hke xO XB
 obtain ⟨K, hK, hK0⟩ : ∃ K : Int, ((nD5 1 d0 : Nat) : Int) = K ∧ ¬ K < 0 := ⟨_, rfl, by omega⟩
 have hKd : decide (K < 0) = false := decide_eq_false hK0
 rw [hK]
 clear hK hK0
 have q0 := GX.out.cell 0
 have q1 := GX.out.cell 1
 have q2 := GX.out.cell 2
 have q3 := GX.out.cell 3
 have q4 := GX.out.cell 4
 have q5 := GX.out.cell 5
 have p0 := OX.out.cell 0
 have p1 := OX.out.cell 1
 have p2 := OX.out.cell 2
 have p3 := OX.out.cell 3
 have p4 := OX.out.cell 4
 have p5 := OX.out.cell 5
 go_wp2_with fail
 refine (eqDoc_any Gb Ob R R _ (by exact G.out.rd) (by exact O.out.rd)).mono ?_
 rintro e v2 ⟨rfl, hb⟩
 rw [decide_eq_true (rfl : R = R)]
 have z12 := hb.size
 have AX := Lib.hid (AX.out.below hb)
 have O := Lib.hid (O.out.below hb)
 have OX := Lib.hid (OX.out.below hb)
 have G := Lib.hid (G.out.below hb)
 have GX := Lib.hid (GX.out.below hb)
 have HB := Lib.hid (below_then HB.out hb)
 clear hb
 clear q0 q1 q2 q3 q4 q5
 clear p0 p1 p2 p3 p4 p5
 clear hKd
 obtain ⟨K2, hK2, hK20⟩ : ∃ K : Int, ((nD5 1 R : Nat) : Int) = K ∧ ¬ K < 0 := ⟨_, rfl, by omega⟩
 have hKd2 : decide (K2 < 0) = false := decide_eq_false hK20
 have hKn2 : (K2 != K2) = false := by simp
 have HK2 := Lib.hid hK2
 clear hK2 hK20
 have q0 := GX.out.cell 0
 have q1 := GX.out.cell 1
 have q2 := GX.out.cell 2
 have q3 := GX.out.cell 3
 have q4 := GX.out.cell 4
 have q5 := GX.out.cell 5
 go_wp2_with fail
 refine (markDoc_any Gb R _ _ _ _ _ _ 1 _ (by omega) (by exact G.out)).mono ?_
 rintro e k2 ⟨rfl, hmk, hke⟩
 rw [HK2.out]
 have AX := Lib.hid (AX.out.of_block (hke.block _ AX.out.lt (fun h => by have h1 := RG.out _ h; omega)))
 have O := Lib.hid (O.out.keeps hke (fun b hb h => by have h1 := RG.out b h; have h2 := RO.out b hb; omega))
 have OX := Lib.hid (OX.out.of_block (hke.block _ OX.out.lt (fun h => by have h1 := RG.out _ h; omega)))
 have GX := Lib.hid (GX.out.of_block (hke.block _ GX.out.lt (fun h => by have h1 := RG.out _ h; omega)))
 have HB := Lib.hid (HB.out.trans (hke.below (B := w.heap.size) HB.out.size (fun k hk => by have h1 := RG.out k hk; omega)))
 have z13 := hke.size
 have MK := Lib.hid hmk
 clear hmk hke G
 clear q0 q1 q2 q3 q4 q5
 have q0 := GX.out.cell 0
 have q1 := GX.out.cell 1
 have q2 := GX.out.cell 2
 have q3 := GX.out.cell 3
 have q4 := GX.out.cell 4
 have q5 := GX.out.cell 5
 go_wp2_with fail
 refine (heldDoc_any Gb R 1 _ (by omega) (by exact MK.out)).mono ?_
 rintro e k3 ⟨rfl, hb⟩
 rw [HK2.out]
 have z14 := hb.size
 have AX := Lib.hid (AX.out.below hb)
 have O := Lib.hid (O.out.below hb)
 have OX := Lib.hid (OX.out.below hb)
 have GX := Lib.hid (GX.out.below hb)
 have MK := Lib.hid (MK.out.below hb)
 have HB := Lib.hid (below_then HB.out hb)
 clear hb
 clear q0 q1 q2 q3 q4 q5
 have HR := Lib.hid (hR0.below HB.out)
 have p0 := AX.out.cell 0
 have p1 := AX.out.cell 1
 have p2 := AX.out.cell 2
 have p3 := AX.out.cell 3
 have p4 := AX.out.cell 4
 have p5 := AX.out.cell 5
 go_wp2_with fail
 refine (toDoc_any b0 d0 _ hsz HR.out).mono ?_
 rintro e y1 ⟨ya, yfs, yft, yfl, yfm, yfe, rfl, ho, hb⟩
 have z15 := hb.size
 have AX := Lib.hid (AX.out.below hb)
 have O := Lib.hid (O.out.below hb)
 have OX := Lib.hid (OX.out.below hb)
 have GX := Lib.hid (GX.out.below hb)
 have MK := Lib.hid (MK.out.below hb)
 have HB := Lib.hid (below_then HB.out hb)
 have yO := Lib.hid (ho.below (Below.refl _ _))
 have Ry := Lib.hid ho.range
 clear ho HR
 clear hb
 clear p0 p1 p2 p3 p4 p5
 have HT := Lib.hid (hT.below HB.out)
 go_wp2_with fail
 refine (implDocTick_any ya d0 a1 _ (by exact HT.out) yO.out.rd).mono ?_
 rintro e h1 hgv
 unfold GivesTk at hgv
 rw [HRE.out, HZE.out] at hgv
 obtain ⟨Hb, Hfs, Hft, Hfl, Hfm, Hfe, rfl, ho, hb⟩ := hgv
 have z16 := hb.size
 have AX := Lib.hid (AX.out.below hb)
 have O := Lib.hid (O.out.below hb)
 have OX := Lib.hid (OX.out.below hb)
 have GX := Lib.hid (GX.out.below hb)
 have MK := Lib.hid (MK.out.below hb)
 have yO := Lib.hid (yO.out.below hb)
 have HB := Lib.hid (below_then HB.out hb)
 have H := Lib.hid (ho.below (Below.refl _ _))
 have RH := Lib.hid ho.range
 clear ho
 clear hb
 have hal := (Below.refl h1.heap.size h1).alloc (Nat.le_refl _) (.cells #[.slice Hb.s R.start.length Hb.cs, .slice Hb.t R.text.length Hb.ct, .slice Hb.l R.log.length Hb.cl, .int .i64 R.clock, .slice Hb.m R.mem.length Hb.cm, .slice Hb.e R.lea.length Hb.ce] 36)
 have hbx := Blk.new h1 #[.slice Hb.s R.start.length Hb.cs, .slice Hb.t R.text.length Hb.ct, .slice Hb.l R.log.length Hb.cl, .int .i64 R.clock, .slice Hb.m R.mem.length Hb.cm, .slice Hb.e R.lea.length Hb.ce] 36
 have zbHX : h1.heap.size < (h1.alloc (.cells #[.slice Hb.s R.start.length Hb.cs, .slice Hb.t R.text.length Hb.ct, .slice Hb.l R.log.length Hb.cl, .int .i64 R.clock, .slice Hb.m R.mem.length Hb.cm, .slice Hb.e R.lea.length Hb.ce] 36)).heap.size := by simp
 have AX := Lib.hid (AX.out.below hal)
 have O := Lib.hid (O.out.below hal)
 have OX := Lib.hid (OX.out.below hal)
 have GX := Lib.hid (GX.out.below hal)
 have MK := Lib.hid (MK.out.below hal)
 have yO := Lib.hid (yO.out.below hal)
 have H := Lib.hid (H.out.below hal)
 have HB := Lib.hid (below_then HB.out hal)
 have z17 := hal.size
 have HX := Lib.hid hbx
 clear hbx hal
 clear HT
 have q0 := HX.out.cell 0
 have q1 := HX.out.cell 1
 have q2 := HX.out.cell 2
 have q3 := HX.out.cell 3
 have q4 := HX.out.cell 4
 have q5 := HX.out.cell 5
 have p0 := OX.out.cell 0
 have p1 := OX.out.cell 1
 have p2 := OX.out.cell 2
 have p3 := OX.out.cell 3
 have p4 := OX.out.cell 4
 have p5 := OX.out.cell 5
 go_wp2_with fail
 generalize h1.alloc (.cells #[.slice Hb.s R.start.length Hb.cs, .slice Hb.t R.text.length Hb.ct, .slice Hb.l R.log.length Hb.cl, .int .i64 R.clock, .slice Hb.m R.mem.length Hb.cm, .slice Hb.e R.lea.length Hb.ce] 36) = h1w at *
 refine (eqDoc_any Hb Ob R R _ (by exact H.out.rd) (by exact O.out.rd)).mono ?_
 rintro e v3 ⟨rfl, hb⟩
 rw [decide_eq_true (rfl : R = R)]
 have z18 := hb.size
 have AX := Lib.hid (AX.out.below hb)
 have O := Lib.hid (O.out.below hb)
 have OX := Lib.hid (OX.out.below hb)
 have GX := Lib.hid (GX.out.below hb)
 have MK := Lib.hid (MK.out.below hb)
 have yO := Lib.hid (yO.out.below hb)
 have H := Lib.hid (H.out.below hb)
 have HX := Lib.hid (HX.out.below hb)
 have HB := Lib.hid (below_then HB.out hb)
 clear hb
 clear q0 q1 q2 q3 q4 q5
 clear p0 p1 p2 p3 p4 p5
 have q0 := GX.out.cell 0
 have q1 := GX.out.cell 1
 have q2 := GX.out.cell 2
 have q3 := GX.out.cell 3
 have q4 := GX.out.cell 4
 have q5 := GX.out.cell 5
 go_wp2_with fail
 refine (heldDoc_any Gb R 1 _ (by omega) (by exact MK.out)).mono ?_
 rintro e k4 ⟨rfl, hb⟩
 rw [HK2.out]
 have z19 := hb.size
 have AX := Lib.hid (AX.out.below hb)
 have O := Lib.hid (O.out.below hb)
 have OX := Lib.hid (OX.out.below hb)
 have GX := Lib.hid (GX.out.below hb)
 have MK := Lib.hid (MK.out.below hb)
 have yO := Lib.hid (yO.out.below hb)
 have H := Lib.hid (H.out.below hb)
 have HX := Lib.hid (HX.out.below hb)
 have HB := Lib.hid (below_then HB.out hb)
 clear hb
 clear q0 q1 q2 q3 q4 q5
 go_wp2
 go_ret
 exact ⟨rfl, HB.out⟩

end Go.Proofs.YtaekanhjkpoifaaGreatDoor.fnExactDocTick
