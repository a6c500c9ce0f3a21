/-
 Chapter 10, the member of a session, whole: contracts of the program and of the model. Own work.
-/
import Derived.Test.YtaekanhjkpoifaaGreatDoorRD19
import Derived.Test.YtaekanhjkpoifaaGreatDoorRD16
namespace Go.Proofs.YtaekanhjkpoifaaGreatDoor
open Go.RowKit P
set_option linter.unusedVariables false
set_option linter.unusedSimpArgs false
set_option maxRecDepth 100000

def memIs (d : Dc) (s : Int) : Bool := docOk d && decide (mIx d.mem s < d.mem.length)
/-- The member of a session. -/
def memG (d : Dc) (s : Int) : Mb := if memIs d s = true then (d.mem[mIx d.mem s]?).getD (0, (0, 0), ([], [])) else (0, (0, 0), ([], []))
theorem memG_no {d : Dc} {s : Int} (h : memIs d s = false) : memG d s = (0, (0, 0), ([], [])) := by unfold memG; rw [if_neg (by rw [h]; simp)]
theorem memG_yes {d : Dc} {s : Int} {k : Nat} (h1 : docOk d = true) (hk : k < d.mem.length) (h2 : mIx d.mem s = k) : memIs d s = true ∧ memG d s = d.mem[k] := by
 have h3 : memIs d s = true := by unfold memIs; rw [h1, h2, decide_eq_true hk]; rfl
 refine ⟨h3, ?_⟩
 unfold memG
 rw [if_pos h3, h2, List.getElem?_eq_getElem hk]
 rfl
def GivesMm (d : Dc) (s : Int) (w : World) (e : Ending) (w' : World) : Prop :=
 ∃ A c fp B dd gp, e = .returned (.tuple #[.agg #[.int .i64 (memG d s).1, .int .i64 (memG d s).2.1.1, .int .i64 (memG d s).2.1.2, .slice A (memG d s).2.2.1.length c, .slice B (memG d s).2.2.2.length dd], .bool (memIs d s)]) ∧ OwS w' w.heap.size A (memG d s).2.2.1 c fp B (memG d s).2.2.2 dd gp ∧ Below w.heap.size w w'
theorem GivesMm.no {d : Dc} {s : Int} {w w' : World} (h : memIs d s = false) (hb : Below w.heap.size w w') : GivesMm d s w (.returned (.tuple #[.agg #[.int .i64 0, .int .i64 0, .int .i64 0, .slice none 0 0, .slice none 0 0], .bool false])) w' := by
 refine ⟨none, 0, [], none, 0, [], by rw [memG_no h, h]; rfl, ?_, hb⟩
 rw [memG_no h]
 exact ⟨⟨Lay.slice_nil _ _ _, List.nodup_nil, fun _ h => nomatch h⟩, ⟨Lay.slice_nil _ _ _, List.nodup_nil, fun _ h => nomatch h⟩, fun _ h => nomatch h⟩
theorem GivesMm.yes {d : Dc} {s : Int} {k : Nat} {w w' : World} {s0 f0 t0 : Int} {u r : List Ed} {A : Option Addr} {c : Nat} {fp : List Nat} {B : Option Addr} {dd : Nat} {gp : List Nat} (h1 : docOk d = true) (hk : k < d.mem.length) (h2 : mIx d.mem s = k) (he : d.mem[k] = (s0, (f0, t0), (u, r)))
  (ho : OwS w' w.heap.size A u c fp B r dd gp) (hb : Below w.heap.size w w') : GivesMm d s w (.returned (.tuple #[.agg #[.int .i64 s0, .int .i64 f0, .int .i64 t0, .slice A u.length c, .slice B r.length dd], .bool true])) w' := by
 obtain ⟨h3, h4⟩ := memG_yes h1 hk h2
 rw [he] at h4
 exact ⟨A, c, fp, B, dd, gp, by rw [h4, h3], by rw [h4]; exact ho, hb⟩
theorem member_ow_two {w : World} {us : List Value} {s f t : Int} {u r : List Ed} {fi : List Nat} (h : Lay.member.ow w us (s, (f, t), (u, r)) fi) (hn : fi.Nodup) (base : Nat) (hb : ∀ k ∈ fi, base ≤ k) :
  ∃ A c fp B d gp, us = [.int .i64 s, .int .i64 f, .int .i64 t, .slice A u.length c, .slice B r.length d] ∧ OwS w base A u c fp B r d gp ∧ ∀ k ∈ fp ++ gp, k ∈ fi := by
 obtain ⟨c1, c2, f1, f2, rfl, ⟨rfl, _, rfl⟩, ⟨c3, c4, f3, f4, rfl, ⟨c5, c6, f5, f6, rfl, ⟨rfl, _, rfl⟩, ⟨rfl, _, rfl⟩, rfl⟩, ⟨c7, c8, fp, gp, rfl, hu, hr, rfl⟩, rfl⟩, rfl⟩ := h
 obtain ⟨A, c, rfl, _, _, _⟩ := Lay.edits.read hu
 obtain ⟨B, d, rfl, _, _, _⟩ := Lay.edits.read hr
 simp only [List.nil_append] at hn hb
 rw [List.nodup_append] at hn
 exact ⟨A, c, fp, B, d, gp, rfl, ⟨⟨hu, hn.1, fun k hk => hb k (List.mem_append.2 (.inl hk))⟩, ⟨hr, hn.2.1, fun k hk => hb k (List.mem_append.2 (.inr hk))⟩, fun k h1 h2 => hn.2.2 k h1 k h2 rfl⟩, fun k hk => by simpa using hk⟩

set_option maxHeartbeats 16000000 in
theorem implDocMember_any (a : Da) (d : Dc) (s : Int) (w : World) (hT : Tab w) (hD : RdD w a d) :
  Calls Tryz.prog 19 #[.agg #[.slice a.s d.start.length a.cs, .slice a.t d.text.length a.ct, .slice a.l d.log.length a.cl, .int .i64 d.clock, .slice a.m d.mem.length a.cm, .slice a.e d.lea.length a.ce], .int .i64 s] w (GivesMm d s w) := by
 have hal := ((Below.refl w.heap.size w).alloc (Nat.le_refl _) (.cells #[.slice a.s d.start.length a.cs, .slice a.t d.text.length a.ct, .slice a.l d.log.length a.cl, .int .i64 d.clock, .slice a.m d.mem.length a.cm, .slice a.e d.lea.length a.ce] 36)).alloc (by simp) (.cells #[.int .i64 0, .int .i64 0, .int .i64 0, .slice none 0 0, .slice none 0 0] 50)
 have hbx := (Blk.new w #[.slice a.s d.start.length a.cs, .slice a.t d.text.length a.ct, .slice a.l d.log.length a.cl, .int .i64 d.clock, .slice a.m d.mem.length a.cm, .slice a.e d.lea.length a.ce] 36).alloc (.cells #[.int .i64 0, .int .i64 0, .int .i64 0, .slice none 0 0, .slice none 0 0] 50)
 have hrx := Blk.new (w.alloc (.cells #[.slice a.s d.start.length a.cs, .slice a.t d.text.length a.ct, .slice a.l d.log.length a.cl, .int .i64 d.clock, .slice a.m d.mem.length a.cm, .slice a.e d.lea.length a.ce] 36)) #[.int .i64 0, .int .i64 0, .int .i64 0, .slice none 0 0, .slice none 0 0] 50
 simp only [World.size_alloc] at hrx
 have hzw : ((w.alloc (.cells #[.slice a.s d.start.length a.cs, .slice a.t d.text.length a.ct, .slice a.l d.log.length a.cl, .int .i64 d.clock, .slice a.m d.mem.length a.cm, .slice a.e d.lea.length a.ce] 36)).alloc (.cells #[.int .i64 0, .int .i64 0, .int .i64 0, .slice none 0 0, .slice none 0 0] 50)).heap.size = w.heap.size + 2 := by simp
 have HB := Lib.hid hal
 have BX := Lib.hid hbx
 have RX := Lib.hid hrx
 have HT := Lib.hid (show ∀ W, Below w.heap.size w W → Tab W from fun W h => hT.below h)
 have HD := Lib.hid (show ∀ W, Below w.heap.size w W → RdD W a d from fun W h => hD.below h)
 have HD0 := Lib.hid hD
 have hm9 := hD.n9.2.2.2.1
 obtain ⟨q1, h1⟩ : ∃ q, docOk d = q := ⟨_, rfl⟩
 have H1 := Lib.hid h1
 clear hal hbx hrx hD h1 hT
 have p0 := BX.out.cell 0
 have p1 := BX.out.cell 1
 have p2 := BX.out.cell 2
 have p3 := BX.out.cell 3
 have p4 := BX.out.cell 4
 have p5 := BX.out.cell 5
 go_enter Tryz.func19, Tryz.ntmps19
 go_wp2_with fail
 generalize (w.alloc (.cells #[.slice a.s d.start.length a.cs, .slice a.t d.text.length a.ct, .slice a.l d.log.length a.cl, .int .i64 d.clock, .slice a.m d.mem.length a.cm, .slice a.e d.lea.length a.ce] 36)).alloc (.cells #[.int .i64 0, .int .i64 0, .int .i64 0, .slice none 0 0, .slice none 0 0] 50) = W at *
 have hz0 : w.heap.size + 2 ≤ W.heap.size := Nat.le_of_eq hzw.symm
 clear hzw
 refine (implDocOk_any a d _ (HT.out _ HB.out) (HD.out _ HB.out)).mono ?_
 rintro e w1 ⟨rfl, hb⟩
 rw [H1.out]
 have zw1 := hb.size
 have BX := Lib.hid (BX.out.below hb)
 have RX := Lib.hid (RX.out.below hb)
 have HB := Lib.hid (below_then HB.out hb)
 clear hb
 clear p0 p1 p2 p3 p4 p5
 cases q1
 ·have HN := Lib.hid (GivesMm.no (show memIs d s = false by unfold memIs; rw [H1.out]; rfl) (((((HB.out.setCell (p := ⟨w.heap.size + 1, 0, none⟩) (by simp) (.int .i64 0)).setCell (p := ⟨w.heap.size + 1, 1, none⟩) (by simp) (.int .i64 0)).setCell (p := ⟨w.heap.size + 1, 2, none⟩) (by simp) (.int .i64 0)).setCell (p := ⟨w.heap.size + 1, 3, none⟩) (by simp) (.slice none 0 0)).setCell (p := ⟨w.heap.size + 1, 4, none⟩) (by simp) (.slice none 0 0)))
  have cr0 := RX.out.cell 0
  have cg0 := RX.out.frozen 0
  have cr1 := RX.out.cell 1
  have cg1 := RX.out.frozen 1
  have cr2 := RX.out.cell 2
  have cg2 := RX.out.frozen 2
  have cr3 := RX.out.cell 3
  have cg3 := RX.out.frozen 3
  have cr4 := RX.out.cell 4
  have cg4 := RX.out.frozen 4
  go_wp2
  refine bodyPost_ret (v := .tuple #[.agg #[.int .i64 0, .int .i64 0, .int .i64 0, .slice none 0 0, .slice none 0 0], .bool false]) (by simp [results, Tryz.results19, go_sem, cr0, cr1, cr2, cr3, cr4]) rfl ?_
  exact HN.out
 have hpt := docOk_parts H1.out
 have hm8 := hpt.2.1
 have p0 := BX.out.cell 0
 have p1 := BX.out.cell 1
 have p2 := BX.out.cell 2
 have p3 := BX.out.cell 3
 have p4 := BX.out.cell 4
 have p5 := BX.out.cell 5
 go_wp2_with fail
 refine (placeOf_doc a d s _ hm8 hpt.2.2.1 (HD.out _ HB.out)).mono ?_
 rintro e w2 ⟨k, f, rfl, hf, hfi, hb⟩
 have zw2 := hb.size
 have BX := Lib.hid (BX.out.below hb)
 have RX := Lib.hid (RX.out.below hb)
 have HB := Lib.hid (below_then HB.out hb)
 clear hb
 clear p0 p1 p2 p3 p4 p5
 have HFF := Lib.hid hf
 have HFI := Lib.hid hfi
 clear hf hfi hpt
 cases f
 ·have HN := Lib.hid (GivesMm.no (show memIs d s = false by unfold memIs; rw [← HFF.out]; simp) (((((HB.out.setCell (p := ⟨w.heap.size + 1, 0, none⟩) (by simp) (.int .i64 0)).setCell (p := ⟨w.heap.size + 1, 1, none⟩) (by simp) (.int .i64 0)).setCell (p := ⟨w.heap.size + 1, 2, none⟩) (by simp) (.int .i64 0)).setCell (p := ⟨w.heap.size + 1, 3, none⟩) (by simp) (.slice none 0 0)).setCell (p := ⟨w.heap.size + 1, 4, none⟩) (by simp) (.slice none 0 0)))
  have cr0 := RX.out.cell 0
  have cg0 := RX.out.frozen 0
  have cr1 := RX.out.cell 1
  have cg1 := RX.out.frozen 1
  have cr2 := RX.out.cell 2
  have cg2 := RX.out.frozen 2
  have cr3 := RX.out.cell 3
  have cg3 := RX.out.frozen 3
  have cr4 := RX.out.cell 4
  have cg4 := RX.out.frozen 4
  go_wp2
  refine bodyPost_ret (v := .tuple #[.agg #[.int .i64 0, .int .i64 0, .int .i64 0, .slice none 0 0, .slice none 0 0], .bool false]) (by simp [results, Tryz.results19, go_sem, cr0, cr1, cr2, cr3, cr4]) rfl ?_
  exact HN.out
 have hix := HFI.out rfl
 have hkl : k < d.mem.length := by have h9 := HFF.out; rw [← hix] at h9; exact of_decide_eq_true h9.symm
 have HIX := Lib.hid hix.symm
 obtain ⟨b, off, s0, f0, t0, U0, u0, uc, R0, r0, rc, hA, hbl, hek, k0, k1, k2, k3, k4, _, _, _, _, _, _, _, hU, hR⟩ := HD0.out.m.at_ k hkl
 have p4 : w2.cell? ⟨w.heap.size, 4, none⟩ = some (.slice (some ⟨b, off, none⟩) d.mem.length a.cm) := by rw [← hA]; exact BX.out.cell 4
 have j0 := (HB.out.cell (p := ⟨b, off + k * 5, none⟩) hbl).trans k0
 have j1 := (HB.out.cell (p := ⟨b, off + k * 5 + 1, none⟩) hbl).trans k1
 have j2 := (HB.out.cell (p := ⟨b, off + k * 5 + 2, none⟩) hbl).trans k2
 have j3 := (HB.out.cell (p := ⟨b, off + k * 5 + 3, none⟩) hbl).trans k3
 have j4 := (HB.out.cell (p := ⟨b, off + k * 5 + 4, none⟩) hbl).trans k4
 have hsm := docOk_mem_small H1.out _ (List.getElem_mem hkl)
 have hs6 := docOk_mem_six H1.out _ (List.getElem_mem hkl)
 rw [hek] at hsm hs6
 have HSM := Lib.hid hsm
 have HS6 := Lib.hid hs6
 have HEK := Lib.hid hek
 have HU := Lib.hid hU
 have HR := Lib.hid hR
 have hki0 : (0 : Int) ≤ (k : Int) := by omega
 have hki : (k : Int) < (d.mem.length : Int) := by omega
 clear hsm hs6 hek hU hR hA k0 k1 k2 k3 k4 hix
 go_wp2_with fail
 refine (memberCopied_any s0 f0 t0 U0 u0 uc R0 r0 rc _ (by have := HS6.out.1; omega) (by have := HS6.out.2; omega) HSM.out.2.1 HSM.out.2.2 (HU.out.below HB.out) (HR.out.below HB.out)).mono ?_
 rintro e w3 ⟨A4, c4, f4, A5, c5, f5, rfl, ho, hb⟩
 have HO := Lib.hid ho
 have RX := Lib.hid (RX.out.below hb)
 have HB := Lib.hid (below_then HB.out hb)
 clear ho hb j0 j1 j2 j3 j4 p4
 have hkf := (((((Keeps.refl [w.heap.size + 1] w3).set (List.mem_singleton.2 rfl) 0 (.int .i64 s0)).set (List.mem_singleton.2 rfl) 1 (.int .i64 f0)).set (List.mem_singleton.2 rfl) 2 (.int .i64 t0)).set (List.mem_singleton.2 rfl) 3 (.slice A4 u0.length c4)).set (List.mem_singleton.2 rfl) 4 (.slice A5 r0.length c5)
 have hl4 := HO.out.u.lo
 have hl5 := HO.out.r.lo
 have HO9 := Lib.hid (HO.out.keeps hkf (fun q hq h => by have := hl4 q hq; simp at h; omega) (fun q hq h => by have := hl5 q hq; simp at h; omega))
 have HY := Lib.hid (GivesMm.yes (w := w) H1.out hkl HIX.out HEK.out (show OwS _ w.heap.size A4 u0 c4 _ A5 r0 c5 _ from ⟨HO9.out.u.mono (by omega), HO9.out.r.mono (by omega), HO9.out.dis⟩) (HB.out.trans (hkf.below (B := w.heap.size) HB.out.size (fun q h => by simp at h; omega))))
 clear hkf hl4 hl5
 have cr0 := RX.out.cell 0
 have cg0 := RX.out.frozen 0
 have cr1 := RX.out.cell 1
 have cg1 := RX.out.frozen 1
 have cr2 := RX.out.cell 2
 have cg2 := RX.out.frozen 2
 have cr3 := RX.out.cell 3
 have cg3 := RX.out.frozen 3
 have cr4 := RX.out.cell 4
 have cg4 := RX.out.frozen 4
 go_wp2
 refine bodyPost_ret (v := .tuple #[.agg #[.int .i64 s0, .int .i64 f0, .int .i64 t0, .slice A4 u0.length c4, .slice A5 r0.length c5], .bool true]) (by simp [results, Tryz.results19, go_sem, cr0, cr1, cr2, cr3, cr4]) rfl ?_
 exact HY.out

set_option maxHeartbeats 16000000 in
theorem specDocMember_any (a : Da) (d : Dc) (s : Int) (w : World) (hD : RdD w a d) :
  Calls Tryz.prog 18 #[.agg #[.slice a.s d.start.length a.cs, .slice a.t d.text.length a.ct, .slice a.l d.log.length a.cl, .int .i64 d.clock, .slice a.m d.mem.length a.cm, .slice a.e d.lea.length a.ce], .int .i64 s] w (GivesMm d s w) := by
 have hal := ((Below.refl w.heap.size w).alloc (Nat.le_refl _) (.cells #[.slice a.s d.start.length a.cs, .slice a.t d.text.length a.ct, .slice a.l d.log.length a.cl, .int .i64 d.clock, .slice a.m d.mem.length a.cm, .slice a.e d.lea.length a.ce] 36)).alloc (by simp) (.cells #[.int .i64 0, .int .i64 0, .int .i64 0, .slice none 0 0, .slice none 0 0] 50)
 have hbx := (Blk.new w #[.slice a.s d.start.length a.cs, .slice a.t d.text.length a.ct, .slice a.l d.log.length a.cl, .int .i64 d.clock, .slice a.m d.mem.length a.cm, .slice a.e d.lea.length a.ce] 36).alloc (.cells #[.int .i64 0, .int .i64 0, .int .i64 0, .slice none 0 0, .slice none 0 0] 50)
 have hrx := Blk.new (w.alloc (.cells #[.slice a.s d.start.length a.cs, .slice a.t d.text.length a.ct, .slice a.l d.log.length a.cl, .int .i64 d.clock, .slice a.m d.mem.length a.cm, .slice a.e d.lea.length a.ce] 36)) #[.int .i64 0, .int .i64 0, .int .i64 0, .slice none 0 0, .slice none 0 0] 50
 simp only [World.size_alloc] at hrx
 have hzw : ((w.alloc (.cells #[.slice a.s d.start.length a.cs, .slice a.t d.text.length a.ct, .slice a.l d.log.length a.cl, .int .i64 d.clock, .slice a.m d.mem.length a.cm, .slice a.e d.lea.length a.ce] 36)).alloc (.cells #[.int .i64 0, .int .i64 0, .int .i64 0, .slice none 0 0, .slice none 0 0] 50)).heap.size = w.heap.size + 2 := by simp
 have HB := Lib.hid hal
 have BX := Lib.hid hbx
 have RX := Lib.hid hrx
 have HD := Lib.hid (show ∀ W, Below w.heap.size w W → RdD W a d from fun W h => hD.below h)
 have HD0 := Lib.hid hD
 have hm9 := hD.n9.2.2.2.1
 obtain ⟨q1, h1⟩ : ∃ q, docOk d = q := ⟨_, rfl⟩
 have H1 := Lib.hid h1
 clear hal hbx hrx hD h1 
 have p0 := BX.out.cell 0
 have p1 := BX.out.cell 1
 have p2 := BX.out.cell 2
 have p3 := BX.out.cell 3
 have p4 := BX.out.cell 4
 have p5 := BX.out.cell 5
 go_enter Tryz.func18, Tryz.ntmps18
 go_wp2_with fail
 generalize (w.alloc (.cells #[.slice a.s d.start.length a.cs, .slice a.t d.text.length a.ct, .slice a.l d.log.length a.cl, .int .i64 d.clock, .slice a.m d.mem.length a.cm, .slice a.e d.lea.length a.ce] 36)).alloc (.cells #[.int .i64 0, .int .i64 0, .int .i64 0, .slice none 0 0, .slice none 0 0] 50) = W at *
 have hz0 : w.heap.size + 2 ≤ W.heap.size := Nat.le_of_eq hzw.symm
 clear hzw
 refine (l10Member_any a d s _ hm9 (HD.out _ HB.out)).mono ?_
 rintro e w0 ⟨rfl, hb⟩
 have zw0 := hb.size
 have BX := Lib.hid (BX.out.below hb)
 have RX := Lib.hid (RX.out.below hb)
 have HB := Lib.hid (below_then HB.out hb)
 clear hb
 clear p0 p1 p2 p3 p4 p5
 obtain ⟨x, hx⟩ : ∃ x : Int, (if mIx d.mem s < d.mem.length then (mIx d.mem s : Int) else -1) = x := ⟨_, rfl⟩
 rw [hx]
 have HXX := Lib.hid hx
 clear hx
 have p0 := BX.out.cell 0
 have p1 := BX.out.cell 1
 have p2 := BX.out.cell 2
 have p3 := BX.out.cell 3
 have p4 := BX.out.cell 4
 have p5 := BX.out.cell 5
 go_wp2_with fail
 refine (specDocOk_any a d _ (HD.out _ HB.out)).mono ?_
 rintro e w1 ⟨rfl, hb⟩
 rw [H1.out]
 have zw1 := hb.size
 have BX := Lib.hid (BX.out.below hb)
 have RX := Lib.hid (RX.out.below hb)
 have HB := Lib.hid (below_then HB.out hb)
 clear hb
 clear p0 p1 p2 p3 p4 p5
 cases q1
 ·have HN := Lib.hid (GivesMm.no (show memIs d s = false by unfold memIs; rw [H1.out]; rfl) (((((HB.out.setCell (p := ⟨w.heap.size + 1, 0, none⟩) (by simp) (.int .i64 0)).setCell (p := ⟨w.heap.size + 1, 1, none⟩) (by simp) (.int .i64 0)).setCell (p := ⟨w.heap.size + 1, 2, none⟩) (by simp) (.int .i64 0)).setCell (p := ⟨w.heap.size + 1, 3, none⟩) (by simp) (.slice none 0 0)).setCell (p := ⟨w.heap.size + 1, 4, none⟩) (by simp) (.slice none 0 0)))
  have cr0 := RX.out.cell 0
  have cg0 := RX.out.frozen 0
  have cr1 := RX.out.cell 1
  have cg1 := RX.out.frozen 1
  have cr2 := RX.out.cell 2
  have cg2 := RX.out.frozen 2
  have cr3 := RX.out.cell 3
  have cg3 := RX.out.frozen 3
  have cr4 := RX.out.cell 4
  have cg4 := RX.out.frozen 4
  go_wp2
  refine bodyPost_ret (v := .tuple #[.agg #[.int .i64 0, .int .i64 0, .int .i64 0, .slice none 0 0, .slice none 0 0], .bool false]) (by simp [results, Tryz.results18, go_sem, cr0, cr1, cr2, cr3, cr4]) rfl ?_
  exact HN.out
 have hpt := docOk_parts H1.out
 have hm8 := hpt.2.1
 by_cases hlt : mIx d.mem s < d.mem.length
 rotate_left 1
 ·have hxx : x = -1 := by rw [← HXX.out, if_neg hlt]
  subst hxx
  have HN := Lib.hid (GivesMm.no (show memIs d s = false by unfold memIs; rw [decide_eq_false hlt]; simp) (((((HB.out.setCell (p := ⟨w.heap.size + 1, 0, none⟩) (by simp) (.int .i64 0)).setCell (p := ⟨w.heap.size + 1, 1, none⟩) (by simp) (.int .i64 0)).setCell (p := ⟨w.heap.size + 1, 2, none⟩) (by simp) (.int .i64 0)).setCell (p := ⟨w.heap.size + 1, 3, none⟩) (by simp) (.slice none 0 0)).setCell (p := ⟨w.heap.size + 1, 4, none⟩) (by simp) (.slice none 0 0)))
  have cr0 := RX.out.cell 0
  have cg0 := RX.out.frozen 0
  have cr1 := RX.out.cell 1
  have cg1 := RX.out.frozen 1
  have cr2 := RX.out.cell 2
  have cg2 := RX.out.frozen 2
  have cr3 := RX.out.cell 3
  have cg3 := RX.out.frozen 3
  have cr4 := RX.out.cell 4
  have cg4 := RX.out.frozen 4
  go_wp2
  refine bodyPost_ret (v := .tuple #[.agg #[.int .i64 0, .int .i64 0, .int .i64 0, .slice none 0 0, .slice none 0 0], .bool false]) (by simp [results, Tryz.results18, go_sem, cr0, cr1, cr2, cr3, cr4]) rfl ?_
  exact HN.out
 obtain ⟨k, hix⟩ : ∃ k, mIx d.mem s = k := ⟨_, rfl⟩
 have hkl : k < d.mem.length := by omega
 have hxx : x = (k : Int) := by rw [← HXX.out, if_pos hlt, hix]
 subst hxx
 have HIX := Lib.hid hix
 clear hlt hpt hix
 have hk0 : ¬ (k : Int) < 0 := by omega
 have p0 := BX.out.cell 0
 have p1 := BX.out.cell 1
 have p2 := BX.out.cell 2
 have p3 := BX.out.cell 3
 have p4 := BX.out.cell 4
 have p5 := BX.out.cell 5
 go_wp2_with fail
 refine (l10Copy_any a d _ H1.out (HD.out _ HB.out)).mono ?_
 rintro e w3 ⟨b, fs, ft, fl, fm, fe, rfl, ho, hb⟩
 have zw3 := hb.size
 have RX := Lib.hid (RX.out.below hb)
 have HB := Lib.hid (below_then HB.out hb)
 clear p0 p1 p2 p3 p4 p5
 clear hb
 have hnd := ho.nd
 rw [List.nodup_append] at hnd
 have hnd := hnd.2.1
 rw [List.nodup_append] at hnd
 have hnd := hnd.2.1
 rw [List.nodup_append] at hnd
 have hnd := hnd.2.1
 rw [List.nodup_append] at hnd
 obtain ⟨g, c, us, fi, hv, hus, hcell, hg, _, how, hfn, hfi, _⟩ := Lay.focus ho.m hnd.1 k hkl
 obtain ⟨⟨s0, ⟨f0, t0⟩, ⟨u0, r0⟩⟩, hek⟩ : ∃ m, d.mem[k] = m := ⟨_, rfl⟩
 rw [hek] at how
 obtain ⟨A4, c4, f4, A5, c5, f5, hus2, hos, hsub⟩ := member_ow_two how hfn w1.heap.size (fun q hq => ho.lo q (by simp [(hfi q hq).1]))
 subst hus2
 have n0 : w3.cell? ⟨g, k * 5, none⟩ = some (.int .i64 s0) := hcell 0 (by simp)
 have n1 : w3.cell? ⟨g, k * 5 + 1, none⟩ = some (.int .i64 f0) := hcell 1 (by simp)
 have n2 : w3.cell? ⟨g, k * 5 + 2, none⟩ = some (.int .i64 t0) := hcell 2 (by simp)
 have n3 : w3.cell? ⟨g, k * 5 + 3, none⟩ = some (.slice A4 u0.length c4) := hcell 3 (by simp)
 have n4 : w3.cell? ⟨g, k * 5 + 4, none⟩ = some (.slice A5 r0.length c5) := hcell 4 (by simp)
 have hf : ∀ W, (Instr.field 36 (.agg #[.slice b.s d.start.length b.cs, .slice b.t d.text.length b.ct, .slice b.l d.log.length b.cl, .int .i64 d.clock, .slice b.m d.mem.length b.cm, .slice b.e d.lea.length b.ce]) 4).run Tryz.prog W = .ok (.slice (some ⟨g, 0, none⟩) d.mem.length c) W := fun W => by rw [← hv]; kernel_rfl
 have HEK := Lib.hid hek
 have HO := Lib.hid hos
 have hki0 : (0 : Int) ≤ (k : Int) := by omega
 have hki : (k : Int) < (d.mem.length : Int) := by omega
 clear hv hus hcell how hfn hfi hnd ho hek hos hsub
 have hkf := (((((Keeps.refl [w.heap.size + 1] w3).set (List.mem_singleton.2 rfl) 0 (.int .i64 s0)).set (List.mem_singleton.2 rfl) 1 (.int .i64 f0)).set (List.mem_singleton.2 rfl) 2 (.int .i64 t0)).set (List.mem_singleton.2 rfl) 3 (.slice A4 u0.length c4)).set (List.mem_singleton.2 rfl) 4 (.slice A5 r0.length c5)
 have hl4 := HO.out.u.lo
 have hl5 := HO.out.r.lo
 have HO9 := Lib.hid (HO.out.keeps hkf (fun q hq h => by have := hl4 q hq; simp at h; omega) (fun q hq h => by have := hl5 q hq; simp at h; omega))
 have HY := Lib.hid (GivesMm.yes (w := w) H1.out hkl HIX.out HEK.out (show OwS _ w.heap.size A4 u0 c4 _ A5 r0 c5 _ from ⟨HO9.out.u.mono (by omega), HO9.out.r.mono (by omega), HO9.out.dis⟩) (HB.out.trans (hkf.below (B := w.heap.size) HB.out.size (fun q h => by simp at h; omega))))
 clear hkf hl4 hl5
 have cr0 := RX.out.cell 0
 have cg0 := RX.out.frozen 0
 have cr1 := RX.out.cell 1
 have cg1 := RX.out.frozen 1
 have cr2 := RX.out.cell 2
 have cg2 := RX.out.frozen 2
 have cr3 := RX.out.cell 3
 have cg3 := RX.out.frozen 3
 have cr4 := RX.out.cell 4
 have cg4 := RX.out.frozen 4
 go_wp2
 refine bodyPost_ret (v := .tuple #[.agg #[.int .i64 s0, .int .i64 f0, .int .i64 t0, .slice A4 u0.length c4, .slice A5 r0.length c5], .bool true]) (by simp [results, Tryz.results18, go_sem, cr0, cr1, cr2, cr3, cr4]) rfl ?_
 exact HY.out
end Go.Proofs.YtaekanhjkpoifaaGreatDoor
