/-
 Chapter 10, copies of documents in the model: contract. Own work.
-/
import Derived.Test.YtaekanhjkpoifaaGreatDoorRD15
namespace Go.Proofs.YtaekanhjkpoifaaGreatDoor
open Go.RowKit P
set_option linter.unusedVariables false
set_option linter.unusedSimpArgs false
set_option maxRecDepth 100000

/-- A list of the call's own. -/
structure OwX {α : Type} (T : TypeId) (E : Lay α) (w : World) (B : Nat) (v : Value) (l : List α) (fp : List Nat) : Prop where
 ow : (Lay.slice T E).ow w [v] l fp
 nd : fp.Nodup
 lo : ∀ k ∈ fp, B ≤ k
theorem OwX.range {α : Type} {T : TypeId} {E : Lay α} {w : World} {B : Nat} {v : Value} {l : List α} {fp : List Nat} (h : OwX T E w B v l fp) : ∀ k ∈ fp, B ≤ k ∧ k < w.heap.size := fun k hk => ⟨h.lo k hk, (Lay.slice T E).lt h.ow k hk⟩
theorem OwX.below {α : Type} {T : TypeId} {E : Lay α} {w w' : World} {B : Nat} {v : Value} {l : List α} {fp : List Nat} (h : OwX T E w B v l fp) (hb : Below w.heap.size w w') : OwX T E w' B v l fp := ⟨(Lay.slice T E).owBelow h.ow hb, h.nd, h.lo⟩
theorem OwX.keeps {α : Type} {T : TypeId} {E : Lay α} {w w' : World} {B : Nat} {v : Value} {l : List α} {fp fq : List Nat} (h : OwX T E w B v l fp) (hk : Keeps fq w w') (hd : ∀ k ∈ fp, k ∉ fq) : OwX T E w' B v l fp := ⟨(Lay.slice T E).keeps h.ow hk hd, h.nd, h.lo⟩
theorem OwX.nil {α : Type} {T : TypeId} {E : Lay α} (w : World) (B : Nat) : OwX T E w B (.slice none 0 0) [] [] := ⟨Lay.slice_nil _ _ _, List.nodup_nil, fun _ h => nomatch h⟩
theorem own_inL {α : Type} {T : TypeId} {E : Lay α} {w : World} {v : Value} {l : List α} {fp : List Nat} (h : (Lay.slice T E).ow w [v] l fp) : ∀ k ∈ v.ownBlock.toList, k ∈ fp := by
 obtain ⟨es, _, _, _, rfl⟩ := ow_one h
 exact fun k hk => List.mem_append.2 (.inl hk)
/-- What is turned behind lies above. -/
theorem Keeps.after {fp fq : List Nat} {a b c : World} (h : Keeps fp a b) (k : Keeps fq b c) (hq : ∀ x ∈ fq, a.heap.size ≤ x) : Keeps fp a c :=
 ⟨k.os.trans h.os, k.tape.trans h.tape, k.output.trans h.output, Nat.le_trans h.size k.size, fun i hi hn => (k.block i (Nat.lt_of_lt_of_le hi h.size) (fun hx => by have := hq i hx; omega)).trans (h.block i hi hn)⟩

theorem fp5 {fs ft fl fm fe : List Nat} {N0 N1 N2 : Nat} (ns : fs.Nodup) (nt : ft.Nodup) (nl : fl.Nodup) (nm : fm.Nodup) (ne : fe.Nodup) (st : ∀ k ∈ fs, k ∉ ft) (se : ∀ k ∈ fs, k ∉ fe) (te : ∀ k ∈ ft, k ∉ fe)
  (hs : ∀ k ∈ fs, N0 ≤ k ∧ k < N1) (ht : ∀ k ∈ ft, N0 ≤ k ∧ k < N1) (he : ∀ k ∈ fe, N0 ≤ k ∧ k < N1) (hl : ∀ k ∈ fl, N1 ≤ k ∧ k < N2) (hm : ∀ k ∈ fm, N2 ≤ k) (h12 : N1 ≤ N2) (h01 : N0 ≤ N1) :
  (fs ++ (ft ++ (fl ++ (fm ++ fe)))).Nodup ∧ ∀ k ∈ fs ++ (ft ++ (fl ++ (fm ++ fe))), N0 ≤ k := by
 constructor
 ·rw [List.nodup_append]
  refine ⟨ns, ?_, fun a ha b hb e => ?_⟩
  ·rw [List.nodup_append]
   refine ⟨nt, ?_, fun a ha b hb e => ?_⟩
   ·rw [List.nodup_append]
    refine ⟨nl, ?_, fun a ha b hb e => ?_⟩
    ·rw [List.nodup_append]
     exact ⟨nm, ne, fun a ha b hb e => by have := hm a ha; have := he b hb; omega⟩
    ·rcases List.mem_append.1 hb with h | h
     ·have := hl a ha; have := hm b h; omega
     ·have := hl a ha; have := he b h; omega
   ·rcases List.mem_append.1 hb with h | h
    ·have := ht a ha; have := hl b h; omega
    ·rcases List.mem_append.1 h with h | h
     ·have := ht a ha; have := hm b h; omega
     ·exact te a ha (by rw [e]; exact h)
  ·rcases List.mem_append.1 hb with h | h
   ·exact st a ha (by rw [e]; exact h)
   ·rcases List.mem_append.1 h with h | h
    ·have := hs a ha; have := hl b h; omega
    ·rcases List.mem_append.1 h with h | h
     ·have := hs a ha; have := hm b h; omega
     ·exact se a ha (by rw [e]; exact h)
 ·intro k hk
  simp only [List.mem_append] at hk
  rcases hk with h | h | h | h | h
  ·exact (hs k h).1
  ·exact (ht k h).1
  ·have := hl k h; omega
  ·have := hm k h; omega
  ·exact (he k h).1

set_option maxHeartbeats 32000000 in
theorem l10Copy_any (a : Da) (d : Dc) (w : World) (hok : docOk d = true) (hD : RdD w a d) :
  Calls Tryz.prog 49 #[.agg #[.slice a.s d.start.length a.cs, .slice a.t d.text.length a.ct, .slice a.l d.log.length a.cl, .int .i64 d.clock, .slice a.m d.mem.length a.cm, .slice a.e d.lea.length a.ce]] w (GivesD d w) := by
 obtain ⟨hl60, hm8, _, hlo, _, _⟩ := docOk_parts hok
 have hle := leOk_len hlo
 have hPU := docOk_puts0 hok
 have hMU := docOk_mem_small hok
 have hst := docOk_start_len hok
 have htx := docOk_text_len hok
 have hal := ((Below.refl w.heap.size w).alloc (Nat.le_refl _) (.cells #[.slice a.s d.start.length a.cs, .slice a.t d.text.length a.ct, .slice a.l d.log.length a.cl, .int .i64 d.clock, .slice a.m d.mem.length a.cm, .slice a.e d.lea.length a.ce] 36)).alloc (by simp) (.cells #[.slice none 0 0, .slice none 0 0, .slice none 0 0, .int .i64 0, .slice none 0 0, .slice none 0 0] 36)
 have hbx := (Blk.new w #[.slice a.s d.start.length a.cs, .slice a.t d.text.length a.ct, .slice a.l d.log.length a.cl, .int .i64 d.clock, .slice a.m d.mem.length a.cm, .slice a.e d.lea.length a.ce] 36).alloc (.cells #[.slice none 0 0, .slice none 0 0, .slice none 0 0, .int .i64 0, .slice none 0 0, .slice none 0 0] 36)
 have hrx := Blk.new (w.alloc (.cells #[.slice a.s d.start.length a.cs, .slice a.t d.text.length a.ct, .slice a.l d.log.length a.cl, .int .i64 d.clock, .slice a.m d.mem.length a.cm, .slice a.e d.lea.length a.ce] 36)) #[.slice none 0 0, .slice none 0 0, .slice none 0 0, .int .i64 0, .slice none 0 0, .slice none 0 0] 36
 simp only [World.size_alloc] at hrx
 have hzw : ((w.alloc (.cells #[.slice a.s d.start.length a.cs, .slice a.t d.text.length a.ct, .slice a.l d.log.length a.cl, .int .i64 d.clock, .slice a.m d.mem.length a.cm, .slice a.e d.lea.length a.ce] 36)).alloc (.cells #[.slice none 0 0, .slice none 0 0, .slice none 0 0, .int .i64 0, .slice none 0 0, .slice none 0 0] 36)).heap.size = w.heap.size + 2 := by simp
 have HB := Lib.hid hal
 have BX := Lib.hid hbx
 have RX := Lib.hid hrx
 have HPU := Lib.hid hPU
 have HMU := Lib.hid hMU
 have HCK := Lib.hid hD.clk
 have HD := Lib.hid (show ∀ W, Below w.heap.size w W → RdD W a d from fun W h => hD.below h)
 have zs := BX.out.lt
 have p0 := BX.out.cell 0
 have p1 := BX.out.cell 1
 have p3 := BX.out.cell 3
 have p5 := BX.out.cell 5
 clear hal hbx hrx hD hPU hMU hok hlo
 go_enter Tryz.func49, Tryz.ntmps49
 go_upto_region 1 with fail
 generalize (w.alloc (.cells #[.slice a.s d.start.length a.cs, .slice a.t d.text.length a.ct, .slice a.l d.log.length a.cl, .int .i64 d.clock, .slice a.m d.mem.length a.cm, .slice a.e d.lea.length a.ce] 36)).alloc (.cells #[.slice none 0 0, .slice none 0 0, .slice none 0 0, .int .i64 0, .slice none 0 0, .slice none 0 0] 36) = W at *
 have HS := Lib.hid (show ∀ Y, Below W.heap.size W Y → (fun V => V.cell? ⟨w.heap.size, 0, none⟩ = some (.slice a.s d.start.length a.cs) ∧ V.cell? ⟨w.heap.size, 1, none⟩ = some (.slice a.t d.text.length a.ct) ∧ V.cell? ⟨w.heap.size, 3, none⟩ = some (.int .i64 d.clock) ∧ V.cell? ⟨w.heap.size, 5, none⟩ = some (.slice a.e d.lea.length a.ce)) Y from fun Y h => ⟨(h.cell (p := ⟨w.heap.size, 0, none⟩) zs).trans p0, (h.cell (p := ⟨w.heap.size, 1, none⟩) zs).trans p1, (h.cell (p := ⟨w.heap.size, 3, none⟩) zs).trans p3, (h.cell (p := ⟨w.heap.size, 5, none⟩) zs).trans p5⟩)
 go_cut [3] (fun x wx => ∃ (gD : Nat) (A1 : Option Addr) (c1 : Nat) (A2 : Option Addr) (c2 : Nat) (A3 : Option Addr) (c3 : Nat), x = .pointer (some ⟨gD, 0, none⟩) ∧ Sp4 W wx (Itm.txt (.slice A1 d.start.length c1) d.start) (Itm.txt (.slice A2 d.text.length c2) d.text) (Itm.lea (.slice A3 d.lea.length c3) d.lea) (Itm.blk gD #[.slice A1 d.start.length c1, .slice A2 d.text.length c2, .slice none 0 0, .int .i64 d.clock, .slice none 0 0, .slice A3 d.lea.length c3] 36))
 case first =>
  refine wp_region_noPanic ?_
  refine wp_region_held_drew (S := (fun V => V.cell? ⟨w.heap.size, 0, none⟩ = some (.slice a.s d.start.length a.cs) ∧ V.cell? ⟨w.heap.size, 1, none⟩ = some (.slice a.t d.text.length a.ct) ∧ V.cell? ⟨w.heap.size, 3, none⟩ = some (.int .i64 d.clock) ∧ V.cell? ⟨w.heap.size, 5, none⟩ = some (.slice a.e d.lea.length a.ce))) (by kernel_rfl) (by exact HS.out _ (Below.refl _ _).drew) (fun hHeld => ?_)
  refine wpAnyH_take (i := 1) (oi := ?_) (v := ?_) ?_ ?_ ?_ ?_ ?_ ?_ (by exact hHeld) ?_
  rotate_left 2
  ·(simp only [LX9]; try rfl)
  ·kernel_rfl
  ·kernel_rfl
  ·kernel_rfl
  ·exact fun _ _ _ h => h
  ·refine Or.inl ⟨by rfl, ?_⟩
   (intro V hSV; (try dsimp only at hSV); obtain ⟨q0, q1, q2, q3⟩ := hSV; go_simp; try with_reducible rfl)
  (try simp only [LY9])
  refine wpAnyH_take (i := 2) (oi := ?_) (v := ?_) ?_ ?_ ?_ ?_ ?_ ?_ (by exact hHeld) ?_
  rotate_left 2
  ·(simp only [LX9]; try rfl)
  ·kernel_rfl
  ·kernel_rfl
  ·kernel_rfl
  ·exact fun _ _ _ h => h
  ·refine Or.inl ⟨by rfl, ?_⟩
   (intro V hSV; (try dsimp only at hSV); obtain ⟨q0, q1, q2, q3⟩ := hSV; go_simp; try with_reducible rfl)
  (try simp only [LY9])
  refine wpAnyH_take (i := 5) (oi := ?_) (v := ?_) ?_ ?_ ?_ ?_ ?_ ?_ (by exact hHeld) ?_
  rotate_left 2
  ·(simp only [LX9]; try rfl)
  ·kernel_rfl
  ·kernel_rfl
  ·kernel_rfl
  ·exact fun _ _ _ h => h
  ·refine Or.inl ⟨by rfl, ?_⟩
   (intro V hSV; (try dsimp only at hSV); obtain ⟨q0, q1, q2, q3⟩ := hSV; go_simp; try with_reducible rfl)
  (try simp only [LY9])
  refine wpAnyH_take (i := 6) (oi := ?_) (v := ?_) ?_ ?_ ?_ ?_ ?_ ?_ (by exact hHeld) ?_
  rotate_left 2
  ·(simp only [LX9]; try rfl)
  ·kernel_rfl
  ·kernel_rfl
  ·kernel_rfl
  ·exact fun _ _ _ h => h
  ·refine Or.inl ⟨by rfl, ?_⟩
   (intro V hSV; (try dsimp only at hSV); obtain ⟨q0, q1, q2, q3⟩ := hSV; go_simp; try with_reducible rfl)
  (try simp only [LY9])
  refine wpAnyH_take (i := 8) (oi := ?_) (v := ?_) ?_ ?_ ?_ ?_ ?_ ?_ (by exact hHeld) ?_
  rotate_left 2
  ·(simp only [LX9]; try rfl)
  ·kernel_rfl
  ·kernel_rfl
  ·kernel_rfl
  ·exact fun _ _ _ h => h
  ·refine Or.inl ⟨by rfl, ?_⟩
   (intro V hSV; (try dsimp only at hSV); obtain ⟨q0, q1, q2, q3⟩ := hSV; go_simp; try with_reducible rfl)
  (try simp only [LY9])
  refine wpAnyH_take (i := 9) (oi := ?_) (v := ?_) ?_ ?_ ?_ ?_ ?_ ?_ (by exact hHeld) ?_
  rotate_left 2
  ·(simp only [LX9]; try rfl)
  ·kernel_rfl
  ·kernel_rfl
  ·kernel_rfl
  ·exact fun _ _ _ h => h
  ·refine Or.inl ⟨by rfl, ?_⟩
   (intro V hSV; (try dsimp only at hSV); obtain ⟨q0, q1, q2, q3⟩ := hSV; go_simp; try with_reducible rfl)
  (try simp only [LY9])
  refine wpAnyH_take (i := 11) (oi := ?_) (v := ?_) ?_ ?_ ?_ ?_ ?_ ?_ (by exact hHeld) ?_
  rotate_left 2
  ·(simp only [LX9]; try rfl)
  ·kernel_rfl
  ·kernel_rfl
  ·kernel_rfl
  ·exact fun _ _ _ h => h
  ·refine Or.inl ⟨by rfl, ?_⟩
   (intro V hSV; (try dsimp only at hSV); obtain ⟨q0, q1, q2, q3⟩ := hSV; go_simp; try with_reducible rfl)
  (try simp only [LY9])
  refine wpAnyH_take (i := 12) (oi := ?_) (v := ?_) ?_ ?_ ?_ ?_ ?_ ?_ (by exact hHeld) ?_
  rotate_left 2
  ·(simp only [LX9]; try rfl)
  ·kernel_rfl
  ·kernel_rfl
  ·kernel_rfl
  ·exact fun _ _ _ h => h
  ·refine Or.inl ⟨by rfl, ?_⟩
   (intro V hSV; (try dsimp only at hSV); obtain ⟨q0, q1, q2, q3⟩ := hSV; go_simp; try with_reducible rfl)
  (try simp only [LY9])
  have HE := Lib.hid (Sp4.new (W0 := W) (Below.refl _ _).drew)
  generalize W.drew = Y at *
  apply meetAt (T := ∀ (Y : World) (gA : Nat) (A1 : Option Addr) (c1 : Nat) (gB : Nat) (A2 : Option Addr) (c2 : Nat) (gC : Nat) (A3 : Option Addr) (c3 : Nat) (gD : Nat), Hid (Sp4 W Y (Itm.txt (.slice A1 d.start.length c1) d.start) (Itm.txt (.slice A2 d.text.length c2) d.text) (Itm.lea (.slice A3 d.lea.length c3) d.lea) (Itm.blk gD #[.slice none 0 0, .slice none 0 0, .slice none 0 0, .int .i64 0, .slice none 0 0, .slice none 0 0] 36)) → _)
  intro tail0_3_4_7_10_13_15
  apply meetAt (T := ∀ (Y : World) (gA : Nat) (A1 : Option Addr) (c1 : Nat) (gB : Nat) (A2 : Option Addr) (c2 : Nat) (gC : Nat) (gD : Nat), Hid (Sp4 W Y (Itm.txt (.slice A1 d.start.length c1) d.start) (Itm.txt (.slice A2 d.text.length c2) d.text) (Itm.lea (.slice (some ⟨gC, 0, none⟩) 0 0) []) (Itm.blk gD #[.slice none 0 0, .slice none 0 0, .slice none 0 0, .int .i64 0, .slice none 0 0, .slice none 0 0] 36)) → _)
  intro tail0_3_4_7_10_15
  apply meetAt (T := ∀ (Y : World) (gA : Nat) (A1 : Option Addr) (c1 : Nat) (gB : Nat) (gC : Nat) (gD : Nat), Hid (Sp4 W Y (Itm.txt (.slice A1 d.start.length c1) d.start) (Itm.txt (.slice (some ⟨gB, 0, none⟩) 0 0) []) (Itm.lea (.slice (some ⟨gC, 0, none⟩) 0 0) []) (Itm.blk gD #[.slice none 0 0, .slice none 0 0, .slice none 0 0, .int .i64 0, .slice none 0 0, .slice none 0 0] 36)) → _)
  intro tail0_3_4_10_15
  apply meetAt (T := ∀ (Y : World) (gA : Nat) (A1 : Option Addr) (c1 : Nat) (gB : Nat) (A2 : Option Addr) (c2 : Nat) (gD : Nat), Hid (Sp4 W Y (Itm.txt (.slice A1 d.start.length c1) d.start) (Itm.txt (.slice A2 d.text.length c2) d.text) Itm.emp (Itm.blk gD #[.slice none 0 0, .slice none 0 0, .slice none 0 0, .int .i64 0, .slice none 0 0, .slice none 0 0] 36)) → _)
  intro tail0_3_4_7_15
  apply meetAt (T := ∀ (Y : World) (gA : Nat) (A1 : Option Addr) (c1 : Nat) (gB : Nat) (A2 : Option Addr) (c2 : Nat) (gC : Nat), Hid (Sp4 W Y (Itm.txt (.slice A1 d.start.length c1) d.start) (Itm.txt (.slice A2 d.text.length c2) d.text) (Itm.lea (.slice (some ⟨gC, 0, none⟩) 0 0) []) Itm.emp) → _)
  intro tail0_3_4_7_10
  apply meetAt (T := ∀ (Y : World) (gA : Nat) (gB : Nat) (gC : Nat) (gD : Nat), Hid (Sp4 W Y (Itm.txt (.slice (some ⟨gA, 0, none⟩) 0 0) []) (Itm.txt (.slice (some ⟨gB, 0, none⟩) 0 0) []) (Itm.lea (.slice (some ⟨gC, 0, none⟩) 0 0) []) (Itm.blk gD #[.slice none 0 0, .slice none 0 0, .slice none 0 0, .int .i64 0, .slice none 0 0, .slice none 0 0] 36)) → _)
  intro tail0_4_10_15
  apply meetAt (T := ∀ (Y : World) (gA : Nat) (A1 : Option Addr) (c1 : Nat) (gC : Nat) (gD : Nat), Hid (Sp4 W Y (Itm.txt (.slice A1 d.start.length c1) d.start) Itm.emp (Itm.lea (.slice (some ⟨gC, 0, none⟩) 0 0) []) (Itm.blk gD #[.slice none 0 0, .slice none 0 0, .slice none 0 0, .int .i64 0, .slice none 0 0, .slice none 0 0] 36)) → _)
  intro tail0_3_10_15
  apply meetAt (T := ∀ (Y : World) (gA : Nat) (A1 : Option Addr) (c1 : Nat) (gB : Nat) (gD : Nat), Hid (Sp4 W Y (Itm.txt (.slice A1 d.start.length c1) d.start) (Itm.txt (.slice (some ⟨gB, 0, none⟩) 0 0) []) Itm.emp (Itm.blk gD #[.slice none 0 0, .slice none 0 0, .slice none 0 0, .int .i64 0, .slice none 0 0, .slice none 0 0] 36)) → _)
  intro tail0_3_4_15
  apply meetAt (T := ∀ (Y : World) (gA : Nat) (A1 : Option Addr) (c1 : Nat) (gB : Nat) (gC : Nat), Hid (Sp4 W Y (Itm.txt (.slice A1 d.start.length c1) d.start) (Itm.txt (.slice (some ⟨gB, 0, none⟩) 0 0) []) (Itm.lea (.slice (some ⟨gC, 0, none⟩) 0 0) []) Itm.emp) → _)
  intro tail0_3_4_10
  apply meetAt (T := ∀ (Y : World) (gB : Nat) (gC : Nat) (gD : Nat), Hid (Sp4 W Y Itm.emp (Itm.txt (.slice (some ⟨gB, 0, none⟩) 0 0) []) (Itm.lea (.slice (some ⟨gC, 0, none⟩) 0 0) []) (Itm.blk gD #[.slice none 0 0, .slice none 0 0, .slice none 0 0, .int .i64 0, .slice none 0 0, .slice none 0 0] 36)) → _)
  intro tail4_10_15
  apply meetAt (T := ∀ (Y : World) (gA : Nat) (gC : Nat) (gD : Nat), Hid (Sp4 W Y (Itm.txt (.slice (some ⟨gA, 0, none⟩) 0 0) []) Itm.emp (Itm.lea (.slice (some ⟨gC, 0, none⟩) 0 0) []) (Itm.blk gD #[.slice none 0 0, .slice none 0 0, .slice none 0 0, .int .i64 0, .slice none 0 0, .slice none 0 0] 36)) → _)
  intro tail0_10_15
  apply meetAt (T := ∀ (Y : World) (gA : Nat) (gB : Nat) (gD : Nat), Hid (Sp4 W Y (Itm.txt (.slice (some ⟨gA, 0, none⟩) 0 0) []) (Itm.txt (.slice (some ⟨gB, 0, none⟩) 0 0) []) Itm.emp (Itm.blk gD #[.slice none 0 0, .slice none 0 0, .slice none 0 0, .int .i64 0, .slice none 0 0, .slice none 0 0] 36)) → _)
  intro tail0_4_15
  apply meetAt (T := ∀ (Y : World) (gA : Nat) (gB : Nat) (gC : Nat), Hid (Sp4 W Y (Itm.txt (.slice (some ⟨gA, 0, none⟩) 0 0) []) (Itm.txt (.slice (some ⟨gB, 0, none⟩) 0 0) []) (Itm.lea (.slice (some ⟨gC, 0, none⟩) 0 0) []) Itm.emp) → _)
  intro tail0_4_10
  apply meetAt (T := ∀ (Y : World) (gA : Nat) (A1 : Option Addr) (c1 : Nat) (gD : Nat), Hid (Sp4 W Y (Itm.txt (.slice A1 d.start.length c1) d.start) Itm.emp Itm.emp (Itm.blk gD #[.slice none 0 0, .slice none 0 0, .slice none 0 0, .int .i64 0, .slice none 0 0, .slice none 0 0] 36)) → _)
  intro tail0_3_15
  apply meetAt (T := ∀ (Y : World) (gA : Nat) (A1 : Option Addr) (c1 : Nat) (gC : Nat), Hid (Sp4 W Y (Itm.txt (.slice A1 d.start.length c1) d.start) Itm.emp (Itm.lea (.slice (some ⟨gC, 0, none⟩) 0 0) []) Itm.emp) → _)
  intro tail0_3_10
  apply meetAt (T := ∀ (Y : World) (gA : Nat) (A1 : Option Addr) (c1 : Nat) (gB : Nat), Hid (Sp4 W Y (Itm.txt (.slice A1 d.start.length c1) d.start) (Itm.txt (.slice (some ⟨gB, 0, none⟩) 0 0) []) Itm.emp Itm.emp) → _)
  intro tail0_3_4
  apply meetAt (T := ∀ (Y : World) (gC : Nat) (gD : Nat), Hid (Sp4 W Y Itm.emp Itm.emp (Itm.lea (.slice (some ⟨gC, 0, none⟩) 0 0) []) (Itm.blk gD #[.slice none 0 0, .slice none 0 0, .slice none 0 0, .int .i64 0, .slice none 0 0, .slice none 0 0] 36)) → _)
  intro tail10_15
  apply meetAt (T := ∀ (Y : World) (gB : Nat) (gD : Nat), Hid (Sp4 W Y Itm.emp (Itm.txt (.slice (some ⟨gB, 0, none⟩) 0 0) []) Itm.emp (Itm.blk gD #[.slice none 0 0, .slice none 0 0, .slice none 0 0, .int .i64 0, .slice none 0 0, .slice none 0 0] 36)) → _)
  intro tail4_15
  apply meetAt (T := ∀ (Y : World) (gB : Nat) (gC : Nat), Hid (Sp4 W Y Itm.emp (Itm.txt (.slice (some ⟨gB, 0, none⟩) 0 0) []) (Itm.lea (.slice (some ⟨gC, 0, none⟩) 0 0) []) Itm.emp) → _)
  intro tail4_10
  apply meetAt (T := ∀ (Y : World) (gA : Nat) (gD : Nat), Hid (Sp4 W Y (Itm.txt (.slice (some ⟨gA, 0, none⟩) 0 0) []) Itm.emp Itm.emp (Itm.blk gD #[.slice none 0 0, .slice none 0 0, .slice none 0 0, .int .i64 0, .slice none 0 0, .slice none 0 0] 36)) → _)
  intro tail0_15
  apply meetAt (T := ∀ (Y : World) (gA : Nat) (gC : Nat), Hid (Sp4 W Y (Itm.txt (.slice (some ⟨gA, 0, none⟩) 0 0) []) Itm.emp (Itm.lea (.slice (some ⟨gC, 0, none⟩) 0 0) []) Itm.emp) → _)
  intro tail0_10
  apply meetAt (T := ∀ (Y : World) (gA : Nat) (gB : Nat), Hid (Sp4 W Y (Itm.txt (.slice (some ⟨gA, 0, none⟩) 0 0) []) (Itm.txt (.slice (some ⟨gB, 0, none⟩) 0 0) []) Itm.emp Itm.emp) → _)
  intro tail0_4
  refine wpAnyH_ready (rs := [0, 4, 10, 15]) (by kernel_rfl) (by simp) ?_
  refine AllReadyH.cons (o := ?_) ?_ (fun K hK => ?_) ?_
  rotate_left 1
  ·(simp only [List.getElem?_toArray, List.getElem?_cons_zero]; try rfl)
  ·have HN := Lib.hid (HE.out.row)
   go_simp
   generalize Y.heap.size = gA at HN ⊢
   generalize Y.alloc (.cells #[] 5) = Y at HN ⊢
   have HE := HN
   clear HN
   refine hK.out _ _ (by exact HS.out _ HE.out.bel) (fun hHeld => ?_)
   clear hK K
   (try simp only [LY9])
   refine wpAnyH_ready (rs := [3, 4, 10, 15]) (by kernel_rfl) (by simp) ?_
   refine AllReadyH.cons (o := ?_) ?_ (fun K hK => ?_) ?_
   rotate_left 1
   ·(simp only [LX9]; try rfl)
   ·have hx := HE.out.p.1
    have hr := (HD.out _ (below_then HB.out HE.out.bel)).s
    refine step_app_bytes9 rfl (.tmp 7) (.tmp 9) rfl 0 _ [] d.start a.s d.start.length a.cs rfl rfl rfl (by exact hx) (by exact hr) (by simp; omega) (Nat.zero_le _) ?_
    intro v9 Y ho hg hv
    rw [List.nil_append] at ho
    obtain ⟨A1, c1, e1, _, _, _⟩ := ho.form
    subst e1
    have HN := Lib.hid (HE.out.app ho hg hv)
    have HE := Lib.hid HN.out
    clear ho hg hv hx hr HN
    refine hK.out _ _ (by exact HS.out _ HE.out.bel) (fun hHeld => ?_)
    clear hK K
    (try simp only [LY9])
    refine wpAnyH_ready (rs := [4, 10, 15]) (by kernel_rfl) (by simp) ?_
    refine AllReadyH.cons (o := ?_) ?_ (fun K hK => ?_) ?_
    rotate_left 1
    ·(simp only [LX9]; try rfl)
    ·have HN := Lib.hid (HE.out.rot.row.rot.rot.rot)
     go_simp
     generalize Y.heap.size = gB at HN ⊢
     generalize Y.alloc (.cells #[] 5) = Y at HN ⊢
     have HE := HN
     clear HN
     refine hK.out _ _ (by exact HS.out _ HE.out.bel) (fun hHeld => ?_)
     clear hK K
     (try simp only [LY9])
     exact tail0_3_4 Y gA A1 c1 gB HE
    refine AllReadyH.cons (o := ?_) ?_ (fun K hK => ?_) ?_
    rotate_left 1
    ·(simp only [LX9]; try rfl)
    ·have HN := Lib.hid (HE.out.rot.rot.lrow.rot.rot)
     go_simp
     generalize Y.heap.size = gC at HN ⊢
     generalize Y.alloc (.cells #[] 106) = Y at HN ⊢
     have HE := HN
     clear HN
     refine hK.out _ _ (by exact HS.out _ HE.out.bel) (fun hHeld => ?_)
     clear hK K
     (try simp only [LY9])
     exact tail0_3_10 Y gA A1 c1 gC HE
    refine AllReadyH.cons (o := ?_) ?_ (fun K hK => ?_) AllReadyH.nil
    rotate_left 1
    ·(simp only [LX9]; try rfl)
    have HN := Lib.hid ((HE.out.rot.rot.rot.box #[.slice none 0 0, .slice none 0 0, .slice none 0 0, .int .i64 0, .slice none 0 0, .slice none 0 0] 36).rot)
    go_simp
    generalize Y.heap.size = gD at HN ⊢
    generalize Y.alloc (.cells #[.slice none 0 0, .slice none 0 0, .slice none 0 0, .int .i64 0, .slice none 0 0, .slice none 0 0] 36) = Y at HN ⊢
    have HE := HN
    clear HN
    refine hK.out _ _ (by exact HS.out _ HE.out.bel) (fun hHeld => ?_)
    clear hK K
    (try simp only [LY9])
    exact tail0_3_15 Y gA A1 c1 gD HE
   refine AllReadyH.cons (o := ?_) ?_ (fun K hK => ?_) ?_
   rotate_left 1
   ·(simp only [LX9]; try rfl)
   ·have HN := Lib.hid (HE.out.rot.row.rot.rot.rot)
    go_simp
    generalize Y.heap.size = gB at HN ⊢
    generalize Y.alloc (.cells #[] 5) = Y at HN ⊢
    have HE := HN
    clear HN
    refine hK.out _ _ (by exact HS.out _ HE.out.bel) (fun hHeld => ?_)
    clear hK K
    (try simp only [LY9])
    exact tail0_4 Y gA gB HE
   refine AllReadyH.cons (o := ?_) ?_ (fun K hK => ?_) ?_
   rotate_left 1
   ·(simp only [LX9]; try rfl)
   ·have HN := Lib.hid (HE.out.rot.rot.lrow.rot.rot)
    go_simp
    generalize Y.heap.size = gC at HN ⊢
    generalize Y.alloc (.cells #[] 106) = Y at HN ⊢
    have HE := HN
    clear HN
    refine hK.out _ _ (by exact HS.out _ HE.out.bel) (fun hHeld => ?_)
    clear hK K
    (try simp only [LY9])
    exact tail0_10 Y gA gC HE
   refine AllReadyH.cons (o := ?_) ?_ (fun K hK => ?_) AllReadyH.nil
   rotate_left 1
   ·(simp only [LX9]; try rfl)
   have HN := Lib.hid ((HE.out.rot.rot.rot.box #[.slice none 0 0, .slice none 0 0, .slice none 0 0, .int .i64 0, .slice none 0 0, .slice none 0 0] 36).rot)
   go_simp
   generalize Y.heap.size = gD at HN ⊢
   generalize Y.alloc (.cells #[.slice none 0 0, .slice none 0 0, .slice none 0 0, .int .i64 0, .slice none 0 0, .slice none 0 0] 36) = Y at HN ⊢
   have HE := HN
   clear HN
   refine hK.out _ _ (by exact HS.out _ HE.out.bel) (fun hHeld => ?_)
   clear hK K
   (try simp only [LY9])
   exact tail0_15 Y gA gD HE
  refine AllReadyH.cons (o := ?_) ?_ (fun K hK => ?_) ?_
  rotate_left 1
  ·(simp only [LX9]; try rfl)
  ·have HN := Lib.hid (HE.out.rot.row.rot.rot.rot)
   go_simp
   generalize Y.heap.size = gB at HN ⊢
   generalize Y.alloc (.cells #[] 5) = Y at HN ⊢
   have HE := HN
   clear HN
   refine hK.out _ _ (by exact HS.out _ HE.out.bel) (fun hHeld => ?_)
   clear hK K
   (try simp only [LY9])
   refine wpAnyH_ready (rs := [0, 10, 15]) (by kernel_rfl) (by simp) ?_
   refine AllReadyH.cons (o := ?_) ?_ (fun K hK => ?_) ?_
   rotate_left 1
   ·(simp only [List.getElem?_toArray, List.getElem?_cons_zero]; try rfl)
   ·have HN := Lib.hid (HE.out.row)
    go_simp
    generalize Y.heap.size = gA at HN ⊢
    generalize Y.alloc (.cells #[] 5) = Y at HN ⊢
    have HE := HN
    clear HN
    refine hK.out _ _ (by exact HS.out _ HE.out.bel) (fun hHeld => ?_)
    clear hK K
    (try simp only [LY9])
    exact tail0_4 Y gA gB HE
   refine AllReadyH.cons (o := ?_) ?_ (fun K hK => ?_) ?_
   rotate_left 1
   ·(simp only [LX9]; try rfl)
   ·have HN := Lib.hid (HE.out.rot.rot.lrow.rot.rot)
    go_simp
    generalize Y.heap.size = gC at HN ⊢
    generalize Y.alloc (.cells #[] 106) = Y at HN ⊢
    have HE := HN
    clear HN
    refine hK.out _ _ (by exact HS.out _ HE.out.bel) (fun hHeld => ?_)
    clear hK K
    (try simp only [LY9])
    exact tail4_10 Y gB gC HE
   refine AllReadyH.cons (o := ?_) ?_ (fun K hK => ?_) AllReadyH.nil
   rotate_left 1
   ·(simp only [LX9]; try rfl)
   have HN := Lib.hid ((HE.out.rot.rot.rot.box #[.slice none 0 0, .slice none 0 0, .slice none 0 0, .int .i64 0, .slice none 0 0, .slice none 0 0] 36).rot)
   go_simp
   generalize Y.heap.size = gD at HN ⊢
   generalize Y.alloc (.cells #[.slice none 0 0, .slice none 0 0, .slice none 0 0, .int .i64 0, .slice none 0 0, .slice none 0 0] 36) = Y at HN ⊢
   have HE := HN
   clear HN
   refine hK.out _ _ (by exact HS.out _ HE.out.bel) (fun hHeld => ?_)
   clear hK K
   (try simp only [LY9])
   exact tail4_15 Y gB gD HE
  refine AllReadyH.cons (o := ?_) ?_ (fun K hK => ?_) ?_
  rotate_left 1
  ·(simp only [LX9]; try rfl)
  ·have HN := Lib.hid (HE.out.rot.rot.lrow.rot.rot)
   go_simp
   generalize Y.heap.size = gC at HN ⊢
   generalize Y.alloc (.cells #[] 106) = Y at HN ⊢
   have HE := HN
   clear HN
   refine hK.out _ _ (by exact HS.out _ HE.out.bel) (fun hHeld => ?_)
   clear hK K
   (try simp only [LY9])
   refine wpAnyH_ready (rs := [0, 4, 15]) (by kernel_rfl) (by simp) ?_
   refine AllReadyH.cons (o := ?_) ?_ (fun K hK => ?_) ?_
   rotate_left 1
   ·(simp only [List.getElem?_toArray, List.getElem?_cons_zero]; try rfl)
   ·have HN := Lib.hid (HE.out.row)
    go_simp
    generalize Y.heap.size = gA at HN ⊢
    generalize Y.alloc (.cells #[] 5) = Y at HN ⊢
    have HE := HN
    clear HN
    refine hK.out _ _ (by exact HS.out _ HE.out.bel) (fun hHeld => ?_)
    clear hK K
    (try simp only [LY9])
    exact tail0_10 Y gA gC HE
   refine AllReadyH.cons (o := ?_) ?_ (fun K hK => ?_) ?_
   rotate_left 1
   ·(simp only [LX9]; try rfl)
   ·have HN := Lib.hid (HE.out.rot.row.rot.rot.rot)
    go_simp
    generalize Y.heap.size = gB at HN ⊢
    generalize Y.alloc (.cells #[] 5) = Y at HN ⊢
    have HE := HN
    clear HN
    refine hK.out _ _ (by exact HS.out _ HE.out.bel) (fun hHeld => ?_)
    clear hK K
    (try simp only [LY9])
    exact tail4_10 Y gB gC HE
   refine AllReadyH.cons (o := ?_) ?_ (fun K hK => ?_) AllReadyH.nil
   rotate_left 1
   ·(simp only [LX9]; try rfl)
   have HN := Lib.hid ((HE.out.rot.rot.rot.box #[.slice none 0 0, .slice none 0 0, .slice none 0 0, .int .i64 0, .slice none 0 0, .slice none 0 0] 36).rot)
   go_simp
   generalize Y.heap.size = gD at HN ⊢
   generalize Y.alloc (.cells #[.slice none 0 0, .slice none 0 0, .slice none 0 0, .int .i64 0, .slice none 0 0, .slice none 0 0] 36) = Y at HN ⊢
   have HE := HN
   clear HN
   refine hK.out _ _ (by exact HS.out _ HE.out.bel) (fun hHeld => ?_)
   clear hK K
   (try simp only [LY9])
   exact tail10_15 Y gC gD HE
  refine AllReadyH.cons (o := ?_) ?_ (fun K hK => ?_) AllReadyH.nil
  rotate_left 1
  ·(simp only [LX9]; try rfl)
  have HN := Lib.hid ((HE.out.rot.rot.rot.box #[.slice none 0 0, .slice none 0 0, .slice none 0 0, .int .i64 0, .slice none 0 0, .slice none 0 0] 36).rot)
  go_simp
  generalize Y.heap.size = gD at HN ⊢
  generalize Y.alloc (.cells #[.slice none 0 0, .slice none 0 0, .slice none 0 0, .int .i64 0, .slice none 0 0, .slice none 0 0] 36) = Y at HN ⊢
  have HE := HN
  clear HN
  refine hK.out _ _ (by exact HS.out _ HE.out.bel) (fun hHeld => ?_)
  clear hK K
  (try simp only [LY9])
  refine wpAnyH_ready (rs := [0, 4, 10]) (by kernel_rfl) (by simp) ?_
  refine AllReadyH.cons (o := ?_) ?_ (fun K hK => ?_) ?_
  rotate_left 1
  ·(simp only [List.getElem?_toArray, List.getElem?_cons_zero]; try rfl)
  ·have HN := Lib.hid (HE.out.row)
   go_simp
   generalize Y.heap.size = gA at HN ⊢
   generalize Y.alloc (.cells #[] 5) = Y at HN ⊢
   have HE := HN
   clear HN
   refine hK.out _ _ (by exact HS.out _ HE.out.bel) (fun hHeld => ?_)
   clear hK K
   (try simp only [LY9])
   exact tail0_15 Y gA gD HE
  refine AllReadyH.cons (o := ?_) ?_ (fun K hK => ?_) ?_
  rotate_left 1
  ·(simp only [LX9]; try rfl)
  ·have HN := Lib.hid (HE.out.rot.row.rot.rot.rot)
   go_simp
   generalize Y.heap.size = gB at HN ⊢
   generalize Y.alloc (.cells #[] 5) = Y at HN ⊢
   have HE := HN
   clear HN
   refine hK.out _ _ (by exact HS.out _ HE.out.bel) (fun hHeld => ?_)
   clear hK K
   (try simp only [LY9])
   exact tail4_15 Y gB gD HE
  refine AllReadyH.cons (o := ?_) ?_ (fun K hK => ?_) AllReadyH.nil
  rotate_left 1
  ·(simp only [LX9]; try rfl)
  have HN := Lib.hid (HE.out.rot.rot.lrow.rot.rot)
  go_simp
  generalize Y.heap.size = gC at HN ⊢
  generalize Y.alloc (.cells #[] 106) = Y at HN ⊢
  have HE := HN
  clear HN
  refine hK.out _ _ (by exact HS.out _ HE.out.bel) (fun hHeld => ?_)
  clear hK K
  (try simp only [LY9])
  exact tail10_15 Y gC gD HE
  intro Y gA gB HE
  have hHeld := HS.out _ HE.out.bel
  refine wpAnyH_ready (rs := [3, 10, 15]) (by kernel_rfl) (by simp) ?_
  refine AllReadyH.cons (o := ?_) ?_ (fun K hK => ?_) ?_
  rotate_left 1
  ·(simp only [LX9]; try rfl)
  ·have hx := HE.out.p.1
   have hr := (HD.out _ (below_then HB.out HE.out.bel)).s
   refine step_app_bytes9 rfl (.tmp 7) (.tmp 9) rfl 0 _ [] d.start a.s d.start.length a.cs rfl rfl rfl (by exact hx) (by exact hr) (by simp; omega) (Nat.zero_le _) ?_
   intro v9 Y ho hg hv
   rw [List.nil_append] at ho
   obtain ⟨A1, c1, e1, _, _, _⟩ := ho.form
   subst e1
   have HN := Lib.hid (HE.out.app ho hg hv)
   have HE := Lib.hid HN.out
   clear ho hg hv hx hr HN
   refine hK.out _ _ (by exact HS.out _ HE.out.bel) (fun hHeld => ?_)
   clear hK K
   (try simp only [LY9])
   exact tail0_3_4 Y gA A1 c1 gB HE
  refine AllReadyH.cons (o := ?_) ?_ (fun K hK => ?_) ?_
  rotate_left 1
  ·(simp only [LX9]; try rfl)
  ·have HN := Lib.hid (HE.out.rot.rot.lrow.rot.rot)
   go_simp
   generalize Y.heap.size = gC at HN ⊢
   generalize Y.alloc (.cells #[] 106) = Y at HN ⊢
   have HE := HN
   clear HN
   refine hK.out _ _ (by exact HS.out _ HE.out.bel) (fun hHeld => ?_)
   clear hK K
   (try simp only [LY9])
   exact tail0_4_10 Y gA gB gC HE
  refine AllReadyH.cons (o := ?_) ?_ (fun K hK => ?_) AllReadyH.nil
  rotate_left 1
  ·(simp only [LX9]; try rfl)
  have HN := Lib.hid ((HE.out.rot.rot.rot.box #[.slice none 0 0, .slice none 0 0, .slice none 0 0, .int .i64 0, .slice none 0 0, .slice none 0 0] 36).rot)
  go_simp
  generalize Y.heap.size = gD at HN ⊢
  generalize Y.alloc (.cells #[.slice none 0 0, .slice none 0 0, .slice none 0 0, .int .i64 0, .slice none 0 0, .slice none 0 0] 36) = Y at HN ⊢
  have HE := HN
  clear HN
  refine hK.out _ _ (by exact HS.out _ HE.out.bel) (fun hHeld => ?_)
  clear hK K
  (try simp only [LY9])
  exact tail0_4_15 Y gA gB gD HE
  intro Y gA gC HE
  have hHeld := HS.out _ HE.out.bel
  refine wpAnyH_ready (rs := [3, 4, 15]) (by kernel_rfl) (by simp) ?_
  refine AllReadyH.cons (o := ?_) ?_ (fun K hK => ?_) ?_
  rotate_left 1
  ·(simp only [LX9]; try rfl)
  ·have hx := HE.out.p.1
   have hr := (HD.out _ (below_then HB.out HE.out.bel)).s
   refine step_app_bytes9 rfl (.tmp 7) (.tmp 9) rfl 0 _ [] d.start a.s d.start.length a.cs rfl rfl rfl (by exact hx) (by exact hr) (by simp; omega) (Nat.zero_le _) ?_
   intro v9 Y ho hg hv
   rw [List.nil_append] at ho
   obtain ⟨A1, c1, e1, _, _, _⟩ := ho.form
   subst e1
   have HN := Lib.hid (HE.out.app ho hg hv)
   have HE := Lib.hid HN.out
   clear ho hg hv hx hr HN
   refine hK.out _ _ (by exact HS.out _ HE.out.bel) (fun hHeld => ?_)
   clear hK K
   (try simp only [LY9])
   exact tail0_3_10 Y gA A1 c1 gC HE
  refine AllReadyH.cons (o := ?_) ?_ (fun K hK => ?_) ?_
  rotate_left 1
  ·(simp only [LX9]; try rfl)
  ·have HN := Lib.hid (HE.out.rot.row.rot.rot.rot)
   go_simp
   generalize Y.heap.size = gB at HN ⊢
   generalize Y.alloc (.cells #[] 5) = Y at HN ⊢
   have HE := HN
   clear HN
   refine hK.out _ _ (by exact HS.out _ HE.out.bel) (fun hHeld => ?_)
   clear hK K
   (try simp only [LY9])
   exact tail0_4_10 Y gA gB gC HE
  refine AllReadyH.cons (o := ?_) ?_ (fun K hK => ?_) AllReadyH.nil
  rotate_left 1
  ·(simp only [LX9]; try rfl)
  have HN := Lib.hid ((HE.out.rot.rot.rot.box #[.slice none 0 0, .slice none 0 0, .slice none 0 0, .int .i64 0, .slice none 0 0, .slice none 0 0] 36).rot)
  go_simp
  generalize Y.heap.size = gD at HN ⊢
  generalize Y.alloc (.cells #[.slice none 0 0, .slice none 0 0, .slice none 0 0, .int .i64 0, .slice none 0 0, .slice none 0 0] 36) = Y at HN ⊢
  have HE := HN
  clear HN
  refine hK.out _ _ (by exact HS.out _ HE.out.bel) (fun hHeld => ?_)
  clear hK K
  (try simp only [LY9])
  exact tail0_10_15 Y gA gC gD HE
  intro Y gA gD HE
  have hHeld := HS.out _ HE.out.bel
  refine wpAnyH_ready (rs := [3, 4, 10]) (by kernel_rfl) (by simp) ?_
  refine AllReadyH.cons (o := ?_) ?_ (fun K hK => ?_) ?_
  rotate_left 1
  ·(simp only [LX9]; try rfl)
  ·have hx := HE.out.p.1
   have hr := (HD.out _ (below_then HB.out HE.out.bel)).s
   refine step_app_bytes9 rfl (.tmp 7) (.tmp 9) rfl 0 _ [] d.start a.s d.start.length a.cs rfl rfl rfl (by exact hx) (by exact hr) (by simp; omega) (Nat.zero_le _) ?_
   intro v9 Y ho hg hv
   rw [List.nil_append] at ho
   obtain ⟨A1, c1, e1, _, _, _⟩ := ho.form
   subst e1
   have HN := Lib.hid (HE.out.app ho hg hv)
   have HE := Lib.hid HN.out
   clear ho hg hv hx hr HN
   refine hK.out _ _ (by exact HS.out _ HE.out.bel) (fun hHeld => ?_)
   clear hK K
   (try simp only [LY9])
   exact tail0_3_15 Y gA A1 c1 gD HE
  refine AllReadyH.cons (o := ?_) ?_ (fun K hK => ?_) ?_
  rotate_left 1
  ·(simp only [LX9]; try rfl)
  ·have HN := Lib.hid (HE.out.rot.row.rot.rot.rot)
   go_simp
   generalize Y.heap.size = gB at HN ⊢
   generalize Y.alloc (.cells #[] 5) = Y at HN ⊢
   have HE := HN
   clear HN
   refine hK.out _ _ (by exact HS.out _ HE.out.bel) (fun hHeld => ?_)
   clear hK K
   (try simp only [LY9])
   exact tail0_4_15 Y gA gB gD HE
  refine AllReadyH.cons (o := ?_) ?_ (fun K hK => ?_) AllReadyH.nil
  rotate_left 1
  ·(simp only [LX9]; try rfl)
  have HN := Lib.hid (HE.out.rot.rot.lrow.rot.rot)
  go_simp
  generalize Y.heap.size = gC at HN ⊢
  generalize Y.alloc (.cells #[] 106) = Y at HN ⊢
  have HE := HN
  clear HN
  refine hK.out _ _ (by exact HS.out _ HE.out.bel) (fun hHeld => ?_)
  clear hK K
  (try simp only [LY9])
  exact tail0_10_15 Y gA gC gD HE
  intro Y gB gC HE
  have hHeld := HS.out _ HE.out.bel
  refine wpAnyH_ready (rs := [0, 15]) (by kernel_rfl) (by simp) ?_
  refine AllReadyH.cons (o := ?_) ?_ (fun K hK => ?_) ?_
  rotate_left 1
  ·(simp only [List.getElem?_toArray, List.getElem?_cons_zero]; try rfl)
  ·have HN := Lib.hid (HE.out.row)
   go_simp
   generalize Y.heap.size = gA at HN ⊢
   generalize Y.alloc (.cells #[] 5) = Y at HN ⊢
   have HE := HN
   clear HN
   refine hK.out _ _ (by exact HS.out _ HE.out.bel) (fun hHeld => ?_)
   clear hK K
   (try simp only [LY9])
   exact tail0_4_10 Y gA gB gC HE
  refine AllReadyH.cons (o := ?_) ?_ (fun K hK => ?_) AllReadyH.nil
  rotate_left 1
  ·(simp only [LX9]; try rfl)
  have HN := Lib.hid ((HE.out.rot.rot.rot.box #[.slice none 0 0, .slice none 0 0, .slice none 0 0, .int .i64 0, .slice none 0 0, .slice none 0 0] 36).rot)
  go_simp
  generalize Y.heap.size = gD at HN ⊢
  generalize Y.alloc (.cells #[.slice none 0 0, .slice none 0 0, .slice none 0 0, .int .i64 0, .slice none 0 0, .slice none 0 0] 36) = Y at HN ⊢
  have HE := HN
  clear HN
  refine hK.out _ _ (by exact HS.out _ HE.out.bel) (fun hHeld => ?_)
  clear hK K
  (try simp only [LY9])
  exact tail4_10_15 Y gB gC gD HE
  intro Y gB gD HE
  have hHeld := HS.out _ HE.out.bel
  refine wpAnyH_ready (rs := [0, 10]) (by kernel_rfl) (by simp) ?_
  refine AllReadyH.cons (o := ?_) ?_ (fun K hK => ?_) ?_
  rotate_left 1
  ·(simp only [List.getElem?_toArray, List.getElem?_cons_zero]; try rfl)
  ·have HN := Lib.hid (HE.out.row)
   go_simp
   generalize Y.heap.size = gA at HN ⊢
   generalize Y.alloc (.cells #[] 5) = Y at HN ⊢
   have HE := HN
   clear HN
   refine hK.out _ _ (by exact HS.out _ HE.out.bel) (fun hHeld => ?_)
   clear hK K
   (try simp only [LY9])
   exact tail0_4_15 Y gA gB gD HE
  refine AllReadyH.cons (o := ?_) ?_ (fun K hK => ?_) AllReadyH.nil
  rotate_left 1
  ·(simp only [LX9]; try rfl)
  have HN := Lib.hid (HE.out.rot.rot.lrow.rot.rot)
  go_simp
  generalize Y.heap.size = gC at HN ⊢
  generalize Y.alloc (.cells #[] 106) = Y at HN ⊢
  have HE := HN
  clear HN
  refine hK.out _ _ (by exact HS.out _ HE.out.bel) (fun hHeld => ?_)
  clear hK K
  (try simp only [LY9])
  exact tail4_10_15 Y gB gC gD HE
  intro Y gC gD HE
  have hHeld := HS.out _ HE.out.bel
  refine wpAnyH_ready (rs := [0, 4]) (by kernel_rfl) (by simp) ?_
  refine AllReadyH.cons (o := ?_) ?_ (fun K hK => ?_) ?_
  rotate_left 1
  ·(simp only [List.getElem?_toArray, List.getElem?_cons_zero]; try rfl)
  ·have HN := Lib.hid (HE.out.row)
   go_simp
   generalize Y.heap.size = gA at HN ⊢
   generalize Y.alloc (.cells #[] 5) = Y at HN ⊢
   have HE := HN
   clear HN
   refine hK.out _ _ (by exact HS.out _ HE.out.bel) (fun hHeld => ?_)
   clear hK K
   (try simp only [LY9])
   exact tail0_10_15 Y gA gC gD HE
  refine AllReadyH.cons (o := ?_) ?_ (fun K hK => ?_) AllReadyH.nil
  rotate_left 1
  ·(simp only [LX9]; try rfl)
  have HN := Lib.hid (HE.out.rot.row.rot.rot.rot)
  go_simp
  generalize Y.heap.size = gB at HN ⊢
  generalize Y.alloc (.cells #[] 5) = Y at HN ⊢
  have HE := HN
  clear HN
  refine hK.out _ _ (by exact HS.out _ HE.out.bel) (fun hHeld => ?_)
  clear hK K
  (try simp only [LY9])
  exact tail4_10_15 Y gB gC gD HE
  intro Y gA A1 c1 gB HE
  have hHeld := HS.out _ HE.out.bel
  refine wpAnyH_ready (rs := [7, 10, 15]) (by kernel_rfl) (by simp) ?_
  refine AllReadyH.cons (o := ?_) ?_ (fun K hK => ?_) ?_
  rotate_left 1
  ·(simp only [LX9]; try rfl)
  ·have hx := HE.out.p.2.1
   have hr := (HD.out _ (below_then HB.out HE.out.bel)).t
   refine step_app_bytes9 rfl (.tmp 11) (.tmp 13) rfl 0 _ [] d.text a.t d.text.length a.ct rfl rfl rfl (by exact hx) (by exact hr) (by simp; omega) (Nat.zero_le _) ?_
   intro v9 Y ho hg hv
   rw [List.nil_append] at ho
   obtain ⟨A2, c2, e1, _, _, _⟩ := ho.form
   subst e1
   have HN := Lib.hid (HE.out.rot.app ho hg hv)
   have HE := Lib.hid HN.out.rot.rot.rot
   clear ho hg hv hx hr HN
   refine hK.out _ _ (by exact HS.out _ HE.out.bel) (fun hHeld => ?_)
   clear hK K
   (try simp only [LY9])
   refine wpAnyH_ready (rs := [10, 15]) (by kernel_rfl) (by simp) ?_
   refine AllReadyH.cons (o := ?_) ?_ (fun K hK => ?_) ?_
   rotate_left 1
   ·(simp only [LX9]; try rfl)
   ·have HN := Lib.hid (HE.out.rot.rot.lrow.rot.rot)
    go_simp
    generalize Y.heap.size = gC at HN ⊢
    generalize Y.alloc (.cells #[] 106) = Y at HN ⊢
    have HE := HN
    clear HN
    refine hK.out _ _ (by exact HS.out _ HE.out.bel) (fun hHeld => ?_)
    clear hK K
    (try simp only [LY9])
    exact tail0_3_4_7_10 Y gA A1 c1 gB A2 c2 gC HE
   refine AllReadyH.cons (o := ?_) ?_ (fun K hK => ?_) AllReadyH.nil
   rotate_left 1
   ·(simp only [LX9]; try rfl)
   have HN := Lib.hid ((HE.out.rot.rot.rot.box #[.slice none 0 0, .slice none 0 0, .slice none 0 0, .int .i64 0, .slice none 0 0, .slice none 0 0] 36).rot)
   go_simp
   generalize Y.heap.size = gD at HN ⊢
   generalize Y.alloc (.cells #[.slice none 0 0, .slice none 0 0, .slice none 0 0, .int .i64 0, .slice none 0 0, .slice none 0 0] 36) = Y at HN ⊢
   have HE := HN
   clear HN
   refine hK.out _ _ (by exact HS.out _ HE.out.bel) (fun hHeld => ?_)
   clear hK K
   (try simp only [LY9])
   exact tail0_3_4_7_15 Y gA A1 c1 gB A2 c2 gD HE
  refine AllReadyH.cons (o := ?_) ?_ (fun K hK => ?_) ?_
  rotate_left 1
  ·(simp only [LX9]; try rfl)
  ·have HN := Lib.hid (HE.out.rot.rot.lrow.rot.rot)
   go_simp
   generalize Y.heap.size = gC at HN ⊢
   generalize Y.alloc (.cells #[] 106) = Y at HN ⊢
   have HE := HN
   clear HN
   refine hK.out _ _ (by exact HS.out _ HE.out.bel) (fun hHeld => ?_)
   clear hK K
   (try simp only [LY9])
   exact tail0_3_4_10 Y gA A1 c1 gB gC HE
  refine AllReadyH.cons (o := ?_) ?_ (fun K hK => ?_) AllReadyH.nil
  rotate_left 1
  ·(simp only [LX9]; try rfl)
  have HN := Lib.hid ((HE.out.rot.rot.rot.box #[.slice none 0 0, .slice none 0 0, .slice none 0 0, .int .i64 0, .slice none 0 0, .slice none 0 0] 36).rot)
  go_simp
  generalize Y.heap.size = gD at HN ⊢
  generalize Y.alloc (.cells #[.slice none 0 0, .slice none 0 0, .slice none 0 0, .int .i64 0, .slice none 0 0, .slice none 0 0] 36) = Y at HN ⊢
  have HE := HN
  clear HN
  refine hK.out _ _ (by exact HS.out _ HE.out.bel) (fun hHeld => ?_)
  clear hK K
  (try simp only [LY9])
  exact tail0_3_4_15 Y gA A1 c1 gB gD HE
  intro Y gA A1 c1 gC HE
  have hHeld := HS.out _ HE.out.bel
  refine wpAnyH_ready (rs := [4, 15]) (by kernel_rfl) (by simp) ?_
  refine AllReadyH.cons (o := ?_) ?_ (fun K hK => ?_) ?_
  rotate_left 1
  ·(simp only [LX9]; try rfl)
  ·have HN := Lib.hid (HE.out.rot.row.rot.rot.rot)
   go_simp
   generalize Y.heap.size = gB at HN ⊢
   generalize Y.alloc (.cells #[] 5) = Y at HN ⊢
   have HE := HN
   clear HN
   refine hK.out _ _ (by exact HS.out _ HE.out.bel) (fun hHeld => ?_)
   clear hK K
   (try simp only [LY9])
   exact tail0_3_4_10 Y gA A1 c1 gB gC HE
  refine AllReadyH.cons (o := ?_) ?_ (fun K hK => ?_) AllReadyH.nil
  rotate_left 1
  ·(simp only [LX9]; try rfl)
  have HN := Lib.hid ((HE.out.rot.rot.rot.box #[.slice none 0 0, .slice none 0 0, .slice none 0 0, .int .i64 0, .slice none 0 0, .slice none 0 0] 36).rot)
  go_simp
  generalize Y.heap.size = gD at HN ⊢
  generalize Y.alloc (.cells #[.slice none 0 0, .slice none 0 0, .slice none 0 0, .int .i64 0, .slice none 0 0, .slice none 0 0] 36) = Y at HN ⊢
  have HE := HN
  clear HN
  refine hK.out _ _ (by exact HS.out _ HE.out.bel) (fun hHeld => ?_)
  clear hK K
  (try simp only [LY9])
  exact tail0_3_10_15 Y gA A1 c1 gC gD HE
  intro Y gA A1 c1 gD HE
  have hHeld := HS.out _ HE.out.bel
  refine wpAnyH_ready (rs := [4, 10]) (by kernel_rfl) (by simp) ?_
  refine AllReadyH.cons (o := ?_) ?_ (fun K hK => ?_) ?_
  rotate_left 1
  ·(simp only [LX9]; try rfl)
  ·have HN := Lib.hid (HE.out.rot.row.rot.rot.rot)
   go_simp
   generalize Y.heap.size = gB at HN ⊢
   generalize Y.alloc (.cells #[] 5) = Y at HN ⊢
   have HE := HN
   clear HN
   refine hK.out _ _ (by exact HS.out _ HE.out.bel) (fun hHeld => ?_)
   clear hK K
   (try simp only [LY9])
   exact tail0_3_4_15 Y gA A1 c1 gB gD HE
  refine AllReadyH.cons (o := ?_) ?_ (fun K hK => ?_) AllReadyH.nil
  rotate_left 1
  ·(simp only [LX9]; try rfl)
  have HN := Lib.hid (HE.out.rot.rot.lrow.rot.rot)
  go_simp
  generalize Y.heap.size = gC at HN ⊢
  generalize Y.alloc (.cells #[] 106) = Y at HN ⊢
  have HE := HN
  clear HN
  refine hK.out _ _ (by exact HS.out _ HE.out.bel) (fun hHeld => ?_)
  clear hK K
  (try simp only [LY9])
  exact tail0_3_10_15 Y gA A1 c1 gC gD HE
  intro Y gA gB gC HE
  have hHeld := HS.out _ HE.out.bel
  refine wpAnyH_ready (rs := [3, 15]) (by kernel_rfl) (by simp) ?_
  refine AllReadyH.cons (o := ?_) ?_ (fun K hK => ?_) ?_
  rotate_left 1
  ·(simp only [LX9]; try rfl)
  ·have hx := HE.out.p.1
   have hr := (HD.out _ (below_then HB.out HE.out.bel)).s
   refine step_app_bytes9 rfl (.tmp 7) (.tmp 9) rfl 0 _ [] d.start a.s d.start.length a.cs rfl rfl rfl (by exact hx) (by exact hr) (by simp; omega) (Nat.zero_le _) ?_
   intro v9 Y ho hg hv
   rw [List.nil_append] at ho
   obtain ⟨A1, c1, e1, _, _, _⟩ := ho.form
   subst e1
   have HN := Lib.hid (HE.out.app ho hg hv)
   have HE := Lib.hid HN.out
   clear ho hg hv hx hr HN
   refine hK.out _ _ (by exact HS.out _ HE.out.bel) (fun hHeld => ?_)
   clear hK K
   (try simp only [LY9])
   exact tail0_3_4_10 Y gA A1 c1 gB gC HE
  refine AllReadyH.cons (o := ?_) ?_ (fun K hK => ?_) AllReadyH.nil
  rotate_left 1
  ·(simp only [LX9]; try rfl)
  have HN := Lib.hid ((HE.out.rot.rot.rot.box #[.slice none 0 0, .slice none 0 0, .slice none 0 0, .int .i64 0, .slice none 0 0, .slice none 0 0] 36).rot)
  go_simp
  generalize Y.heap.size = gD at HN ⊢
  generalize Y.alloc (.cells #[.slice none 0 0, .slice none 0 0, .slice none 0 0, .int .i64 0, .slice none 0 0, .slice none 0 0] 36) = Y at HN ⊢
  have HE := HN
  clear HN
  refine hK.out _ _ (by exact HS.out _ HE.out.bel) (fun hHeld => ?_)
  clear hK K
  (try simp only [LY9])
  exact tail0_4_10_15 Y gA gB gC gD HE
  intro Y gA gB gD HE
  have hHeld := HS.out _ HE.out.bel
  refine wpAnyH_ready (rs := [3, 10]) (by kernel_rfl) (by simp) ?_
  refine AllReadyH.cons (o := ?_) ?_ (fun K hK => ?_) ?_
  rotate_left 1
  ·(simp only [LX9]; try rfl)
  ·have hx := HE.out.p.1
   have hr := (HD.out _ (below_then HB.out HE.out.bel)).s
   refine step_app_bytes9 rfl (.tmp 7) (.tmp 9) rfl 0 _ [] d.start a.s d.start.length a.cs rfl rfl rfl (by exact hx) (by exact hr) (by simp; omega) (Nat.zero_le _) ?_
   intro v9 Y ho hg hv
   rw [List.nil_append] at ho
   obtain ⟨A1, c1, e1, _, _, _⟩ := ho.form
   subst e1
   have HN := Lib.hid (HE.out.app ho hg hv)
   have HE := Lib.hid HN.out
   clear ho hg hv hx hr HN
   refine hK.out _ _ (by exact HS.out _ HE.out.bel) (fun hHeld => ?_)
   clear hK K
   (try simp only [LY9])
   exact tail0_3_4_15 Y gA A1 c1 gB gD HE
  refine AllReadyH.cons (o := ?_) ?_ (fun K hK => ?_) AllReadyH.nil
  rotate_left 1
  ·(simp only [LX9]; try rfl)
  have HN := Lib.hid (HE.out.rot.rot.lrow.rot.rot)
  go_simp
  generalize Y.heap.size = gC at HN ⊢
  generalize Y.alloc (.cells #[] 106) = Y at HN ⊢
  have HE := HN
  clear HN
  refine hK.out _ _ (by exact HS.out _ HE.out.bel) (fun hHeld => ?_)
  clear hK K
  (try simp only [LY9])
  exact tail0_4_10_15 Y gA gB gC gD HE
  intro Y gA gC gD HE
  have hHeld := HS.out _ HE.out.bel
  refine wpAnyH_ready (rs := [3, 4]) (by kernel_rfl) (by simp) ?_
  refine AllReadyH.cons (o := ?_) ?_ (fun K hK => ?_) ?_
  rotate_left 1
  ·(simp only [LX9]; try rfl)
  ·have hx := HE.out.p.1
   have hr := (HD.out _ (below_then HB.out HE.out.bel)).s
   refine step_app_bytes9 rfl (.tmp 7) (.tmp 9) rfl 0 _ [] d.start a.s d.start.length a.cs rfl rfl rfl (by exact hx) (by exact hr) (by simp; omega) (Nat.zero_le _) ?_
   intro v9 Y ho hg hv
   rw [List.nil_append] at ho
   obtain ⟨A1, c1, e1, _, _, _⟩ := ho.form
   subst e1
   have HN := Lib.hid (HE.out.app ho hg hv)
   have HE := Lib.hid HN.out
   clear ho hg hv hx hr HN
   refine hK.out _ _ (by exact HS.out _ HE.out.bel) (fun hHeld => ?_)
   clear hK K
   (try simp only [LY9])
   exact tail0_3_10_15 Y gA A1 c1 gC gD HE
  refine AllReadyH.cons (o := ?_) ?_ (fun K hK => ?_) AllReadyH.nil
  rotate_left 1
  ·(simp only [LX9]; try rfl)
  have HN := Lib.hid (HE.out.rot.row.rot.rot.rot)
  go_simp
  generalize Y.heap.size = gB at HN ⊢
  generalize Y.alloc (.cells #[] 5) = Y at HN ⊢
  have HE := HN
  clear HN
  refine hK.out _ _ (by exact HS.out _ HE.out.bel) (fun hHeld => ?_)
  clear hK K
  (try simp only [LY9])
  exact tail0_4_10_15 Y gA gB gC gD HE
  intro Y gB gC gD HE
  have hHeld := HS.out _ HE.out.bel
  refine wpAnyH_ready (rs := [0]) (by kernel_rfl) (by simp) ?_
  refine AllReadyH.cons (o := ?_) ?_ (fun K hK => ?_) AllReadyH.nil
  rotate_left 1
  ·(simp only [List.getElem?_toArray, List.getElem?_cons_zero]; try rfl)
  have HN := Lib.hid (HE.out.row)
  go_simp
  generalize Y.heap.size = gA at HN ⊢
  generalize Y.alloc (.cells #[] 5) = Y at HN ⊢
  have HE := HN
  clear HN
  refine hK.out _ _ (by exact HS.out _ HE.out.bel) (fun hHeld => ?_)
  clear hK K
  (try simp only [LY9])
  exact tail0_4_10_15 Y gA gB gC gD HE
  intro Y gA A1 c1 gB gC HE
  have hHeld := HS.out _ HE.out.bel
  refine wpAnyH_ready (rs := [7, 15]) (by kernel_rfl) (by simp) ?_
  refine AllReadyH.cons (o := ?_) ?_ (fun K hK => ?_) ?_
  rotate_left 1
  ·(simp only [LX9]; try rfl)
  ·have hx := HE.out.p.2.1
   have hr := (HD.out _ (below_then HB.out HE.out.bel)).t
   refine step_app_bytes9 rfl (.tmp 11) (.tmp 13) rfl 0 _ [] d.text a.t d.text.length a.ct rfl rfl rfl (by exact hx) (by exact hr) (by simp; omega) (Nat.zero_le _) ?_
   intro v9 Y ho hg hv
   rw [List.nil_append] at ho
   obtain ⟨A2, c2, e1, _, _, _⟩ := ho.form
   subst e1
   have HN := Lib.hid (HE.out.rot.app ho hg hv)
   have HE := Lib.hid HN.out.rot.rot.rot
   clear ho hg hv hx hr HN
   refine hK.out _ _ (by exact HS.out _ HE.out.bel) (fun hHeld => ?_)
   clear hK K
   (try simp only [LY9])
   exact tail0_3_4_7_10 Y gA A1 c1 gB A2 c2 gC HE
  refine AllReadyH.cons (o := ?_) ?_ (fun K hK => ?_) AllReadyH.nil
  rotate_left 1
  ·(simp only [LX9]; try rfl)
  have HN := Lib.hid ((HE.out.rot.rot.rot.box #[.slice none 0 0, .slice none 0 0, .slice none 0 0, .int .i64 0, .slice none 0 0, .slice none 0 0] 36).rot)
  go_simp
  generalize Y.heap.size = gD at HN ⊢
  generalize Y.alloc (.cells #[.slice none 0 0, .slice none 0 0, .slice none 0 0, .int .i64 0, .slice none 0 0, .slice none 0 0] 36) = Y at HN ⊢
  have HE := HN
  clear HN
  refine hK.out _ _ (by exact HS.out _ HE.out.bel) (fun hHeld => ?_)
  clear hK K
  (try simp only [LY9])
  exact tail0_3_4_10_15 Y gA A1 c1 gB gC gD HE
  intro Y gA A1 c1 gB gD HE
  have hHeld := HS.out _ HE.out.bel
  refine wpAnyH_ready (rs := [7, 10]) (by kernel_rfl) (by simp) ?_
  refine AllReadyH.cons (o := ?_) ?_ (fun K hK => ?_) ?_
  rotate_left 1
  ·(simp only [LX9]; try rfl)
  ·have hx := HE.out.p.2.1
   have hr := (HD.out _ (below_then HB.out HE.out.bel)).t
   refine step_app_bytes9 rfl (.tmp 11) (.tmp 13) rfl 0 _ [] d.text a.t d.text.length a.ct rfl rfl rfl (by exact hx) (by exact hr) (by simp; omega) (Nat.zero_le _) ?_
   intro v9 Y ho hg hv
   rw [List.nil_append] at ho
   obtain ⟨A2, c2, e1, _, _, _⟩ := ho.form
   subst e1
   have HN := Lib.hid (HE.out.rot.app ho hg hv)
   have HE := Lib.hid HN.out.rot.rot.rot
   clear ho hg hv hx hr HN
   refine hK.out _ _ (by exact HS.out _ HE.out.bel) (fun hHeld => ?_)
   clear hK K
   (try simp only [LY9])
   exact tail0_3_4_7_15 Y gA A1 c1 gB A2 c2 gD HE
  refine AllReadyH.cons (o := ?_) ?_ (fun K hK => ?_) AllReadyH.nil
  rotate_left 1
  ·(simp only [LX9]; try rfl)
  have HN := Lib.hid (HE.out.rot.rot.lrow.rot.rot)
  go_simp
  generalize Y.heap.size = gC at HN ⊢
  generalize Y.alloc (.cells #[] 106) = Y at HN ⊢
  have HE := HN
  clear HN
  refine hK.out _ _ (by exact HS.out _ HE.out.bel) (fun hHeld => ?_)
  clear hK K
  (try simp only [LY9])
  exact tail0_3_4_10_15 Y gA A1 c1 gB gC gD HE
  intro Y gA A1 c1 gC gD HE
  have hHeld := HS.out _ HE.out.bel
  refine wpAnyH_ready (rs := [4]) (by kernel_rfl) (by simp) ?_
  refine AllReadyH.cons (o := ?_) ?_ (fun K hK => ?_) AllReadyH.nil
  rotate_left 1
  ·(simp only [LX9]; try rfl)
  have HN := Lib.hid (HE.out.rot.row.rot.rot.rot)
  go_simp
  generalize Y.heap.size = gB at HN ⊢
  generalize Y.alloc (.cells #[] 5) = Y at HN ⊢
  have HE := HN
  clear HN
  refine hK.out _ _ (by exact HS.out _ HE.out.bel) (fun hHeld => ?_)
  clear hK K
  (try simp only [LY9])
  exact tail0_3_4_10_15 Y gA A1 c1 gB gC gD HE
  intro Y gA gB gC gD HE
  have hHeld := HS.out _ HE.out.bel
  refine wpAnyH_ready (rs := [3]) (by kernel_rfl) (by simp) ?_
  refine AllReadyH.cons (o := ?_) ?_ (fun K hK => ?_) AllReadyH.nil
  rotate_left 1
  ·(simp only [LX9]; try rfl)
  have hx := HE.out.p.1
  have hr := (HD.out _ (below_then HB.out HE.out.bel)).s
  refine step_app_bytes9 rfl (.tmp 7) (.tmp 9) rfl 0 _ [] d.start a.s d.start.length a.cs rfl rfl rfl (by exact hx) (by exact hr) (by simp; omega) (Nat.zero_le _) ?_
  intro v9 Y ho hg hv
  rw [List.nil_append] at ho
  obtain ⟨A1, c1, e1, _, _, _⟩ := ho.form
  subst e1
  have HN := Lib.hid (HE.out.app ho hg hv)
  have HE := Lib.hid HN.out
  clear ho hg hv hx hr HN
  refine hK.out _ _ (by exact HS.out _ HE.out.bel) (fun hHeld => ?_)
  clear hK K
  (try simp only [LY9])
  exact tail0_3_4_10_15 Y gA A1 c1 gB gC gD HE
  intro Y gA A1 c1 gB A2 c2 gC HE
  have hHeld := HS.out _ HE.out.bel
  refine wpAnyH_ready (rs := [13, 15]) (by kernel_rfl) (by simp) ?_
  refine AllReadyH.cons (o := ?_) ?_ (fun K hK => ?_) ?_
  rotate_left 1
  ·(simp only [LX9]; try rfl)
  ·have hx := HE.out.p.2.2.1
   have hr := (HD.out _ (below_then HB.out HE.out.bel)).e
   refine step_app_le rfl (.tmp 17) (.tmp 19) rfl 0 _ [] d.lea a.e d.lea.length a.ce rfl rfl rfl (by exact hx) (by exact hr) (by simp; omega) (Nat.zero_le _) ?_
   intro v9 Y ho hg hv
   rw [List.nil_append] at ho
   obtain ⟨A3, c3, e1, _, _, _⟩ := ho.ll
   subst e1
   have HN := Lib.hid (HE.out.rot.rot.lapp ho hg hv)
   have HE := Lib.hid HN.out.rot.rot
   clear ho hg hv hx hr HN
   refine hK.out _ _ (by exact HS.out _ HE.out.bel) (fun hHeld => ?_)
   clear hK K
   (try simp only [LY9])
   refine wpAnyH_take (i := 14) (oi := ?_) (v := ?_) ?_ ?_ ?_ ?_ ?_ ?_ (by exact hHeld) ?_
   rotate_left 2
   ·(simp only [LX9]; try rfl)
   ·kernel_rfl
   ·kernel_rfl
   ·kernel_rfl
   ·exact fun _ _ _ h => h
   ·refine Or.inl ⟨by rfl, ?_⟩
    (intro V hSV; (try dsimp only at hSV); obtain ⟨q0, q1, q2, q3⟩ := hSV; go_simp; try with_reducible rfl)
   (try simp only [LY9])
   refine wpAnyH_ready (rs := [15]) (by kernel_rfl) (by simp) ?_
   refine AllReadyH.cons (o := ?_) ?_ (fun K hK => ?_) AllReadyH.nil
   rotate_left 1
   ·(simp only [LX9]; try rfl)
   have HN := Lib.hid ((HE.out.rot.rot.rot.box #[.slice none 0 0, .slice none 0 0, .slice none 0 0, .int .i64 0, .slice none 0 0, .slice none 0 0] 36).rot)
   go_simp
   generalize Y.heap.size = gD at HN ⊢
   generalize Y.alloc (.cells #[.slice none 0 0, .slice none 0 0, .slice none 0 0, .int .i64 0, .slice none 0 0, .slice none 0 0] 36) = Y at HN ⊢
   have HE := HN
   clear HN
   refine hK.out _ _ (by exact HS.out _ HE.out.bel) (fun hHeld => ?_)
   clear hK K
   (try simp only [LY9])
   exact tail0_3_4_7_10_13_15 Y gA A1 c1 gB A2 c2 gC A3 c3 gD HE
  refine AllReadyH.cons (o := ?_) ?_ (fun K hK => ?_) AllReadyH.nil
  rotate_left 1
  ·(simp only [LX9]; try rfl)
  have HN := Lib.hid ((HE.out.rot.rot.rot.box #[.slice none 0 0, .slice none 0 0, .slice none 0 0, .int .i64 0, .slice none 0 0, .slice none 0 0] 36).rot)
  go_simp
  generalize Y.heap.size = gD at HN ⊢
  generalize Y.alloc (.cells #[.slice none 0 0, .slice none 0 0, .slice none 0 0, .int .i64 0, .slice none 0 0, .slice none 0 0] 36) = Y at HN ⊢
  have HE := HN
  clear HN
  refine hK.out _ _ (by exact HS.out _ HE.out.bel) (fun hHeld => ?_)
  clear hK K
  (try simp only [LY9])
  exact tail0_3_4_7_10_15 Y gA A1 c1 gB A2 c2 gC gD HE
  intro Y gA A1 c1 gB A2 c2 gD HE
  have hHeld := HS.out _ HE.out.bel
  refine wpAnyH_ready (rs := [10]) (by kernel_rfl) (by simp) ?_
  refine AllReadyH.cons (o := ?_) ?_ (fun K hK => ?_) AllReadyH.nil
  rotate_left 1
  ·(simp only [LX9]; try rfl)
  have HN := Lib.hid (HE.out.rot.rot.lrow.rot.rot)
  go_simp
  generalize Y.heap.size = gC at HN ⊢
  generalize Y.alloc (.cells #[] 106) = Y at HN ⊢
  have HE := HN
  clear HN
  refine hK.out _ _ (by exact HS.out _ HE.out.bel) (fun hHeld => ?_)
  clear hK K
  (try simp only [LY9])
  exact tail0_3_4_7_10_15 Y gA A1 c1 gB A2 c2 gC gD HE
  intro Y gA A1 c1 gB gC gD HE
  have hHeld := HS.out _ HE.out.bel
  refine wpAnyH_ready (rs := [7]) (by kernel_rfl) (by simp) ?_
  refine AllReadyH.cons (o := ?_) ?_ (fun K hK => ?_) AllReadyH.nil
  rotate_left 1
  ·(simp only [LX9]; try rfl)
  have hx := HE.out.p.2.1
  have hr := (HD.out _ (below_then HB.out HE.out.bel)).t
  refine step_app_bytes9 rfl (.tmp 11) (.tmp 13) rfl 0 _ [] d.text a.t d.text.length a.ct rfl rfl rfl (by exact hx) (by exact hr) (by simp; omega) (Nat.zero_le _) ?_
  intro v9 Y ho hg hv
  rw [List.nil_append] at ho
  obtain ⟨A2, c2, e1, _, _, _⟩ := ho.form
  subst e1
  have HN := Lib.hid (HE.out.rot.app ho hg hv)
  have HE := Lib.hid HN.out.rot.rot.rot
  clear ho hg hv hx hr HN
  refine hK.out _ _ (by exact HS.out _ HE.out.bel) (fun hHeld => ?_)
  clear hK K
  (try simp only [LY9])
  exact tail0_3_4_7_10_15 Y gA A1 c1 gB A2 c2 gC gD HE
  intro Y gA A1 c1 gB A2 c2 gC gD HE
  have hHeld := HS.out _ HE.out.bel
  refine wpAnyH_ready (rs := [13]) (by kernel_rfl) (by simp) ?_
  refine AllReadyH.cons (o := ?_) ?_ (fun K hK => ?_) AllReadyH.nil
  rotate_left 1
  ·(simp only [LX9]; try rfl)
  have hx := HE.out.p.2.2.1
  have hr := (HD.out _ (below_then HB.out HE.out.bel)).e
  refine step_app_le rfl (.tmp 17) (.tmp 19) rfl 0 _ [] d.lea a.e d.lea.length a.ce rfl rfl rfl (by exact hx) (by exact hr) (by simp; omega) (Nat.zero_le _) ?_
  intro v9 Y ho hg hv
  rw [List.nil_append] at ho
  obtain ⟨A3, c3, e1, _, _, _⟩ := ho.ll
  subst e1
  have HN := Lib.hid (HE.out.rot.rot.lapp ho hg hv)
  have HE := Lib.hid HN.out.rot.rot
  clear ho hg hv hx hr HN
  refine hK.out _ _ (by exact HS.out _ HE.out.bel) (fun hHeld => ?_)
  clear hK K
  (try simp only [LY9])
  refine wpAnyH_take (i := 14) (oi := ?_) (v := ?_) ?_ ?_ ?_ ?_ ?_ ?_ (by exact hHeld) ?_
  rotate_left 2
  ·(simp only [LX9]; try rfl)
  ·kernel_rfl
  ·kernel_rfl
  ·kernel_rfl
  ·exact fun _ _ _ h => h
  ·refine Or.inl ⟨by rfl, ?_⟩
   (intro V hSV; (try dsimp only at hSV); obtain ⟨q0, q1, q2, q3⟩ := hSV; go_simp; try with_reducible rfl)
  (try simp only [LY9])
  exact tail0_3_4_7_10_13_15 Y gA A1 c1 gB A2 c2 gC A3 c3 gD HE
  intro Y gA A1 c1 gB A2 c2 gC A3 c3 gD HE
  have hHeld := HS.out _ HE.out.bel
  refine wpAnyH_ready (rs := [16]) (by kernel_rfl) (by simp) ?_
  refine AllReadyH.cons (o := ?_) ?_ (fun K hK => ?_) AllReadyH.nil
  rotate_left 1
  ·(simp only [LX9]; try rfl)
  have qb := show Blk Y gD #[.slice none 0 0, .slice none 0 0, .slice none 0 0, .int .i64 0, .slice none 0 0, .slice none 0 0] 36 from HE.out.p.2.2.2
  have q0 := qb.cell 0
  have f0 := qb.frozen 0
  have q1 := qb.cell 1
  have f1 := qb.frozen 1
  have q2 := qb.cell 2
  have f2 := qb.frozen 2
  have q3 := qb.cell 3
  have f3 := qb.frozen 3
  have q4 := qb.cell 4
  have f4 := qb.frozen 4
  have q5 := qb.cell 5
  have f5 := qb.frozen 5
  have HN := Lib.hid (show Sp4 W _ (Itm.txt (.slice A1 d.start.length c1) d.start) (Itm.txt (.slice A2 d.text.length c2) d.text) (Itm.lea (.slice A3 d.lea.length c3) d.lea) (Itm.blk gD #[.slice A1 d.start.length c1, .slice A2 d.text.length c2, .slice none 0 0, .int .i64 d.clock, .slice none 0 0, .slice A3 d.lea.length c3] 36) from ((((((HE.out.rot.rot.rot.set 0 (.slice A1 d.start.length c1)).set 1 (.slice A2 d.text.length c2)).set 2 (.slice none 0 0)).set 3 (.int .i64 d.clock)).set 4 (.slice none 0 0)).set 5 (.slice A3 d.lea.length c3)).rot)
  go_simp
  clear qb q0 f0 q1 f1 q2 f2 q3 f3 q4 f4 q5 f5
  generalize (((((Y.setCell ⟨gD, 0, none⟩ (.slice A1 d.start.length c1)).setCell ⟨gD, 1, none⟩ (.slice A2 d.text.length c2)).setCell ⟨gD, 2, none⟩ (.slice none 0 0)).setCell ⟨gD, 3, none⟩ (.int .i64 d.clock)).setCell ⟨gD, 4, none⟩ (.slice none 0 0)).setCell ⟨gD, 5, none⟩ (.slice A3 d.lea.length c3) = Y at HN ⊢
  have HE := HN
  clear HN
  refine hK.out _ _ (by exact HS.out _ HE.out.bel) (fun hHeld => ?_)
  clear hK K
  (try simp only [LY9])
  refine wpAnyH_done (by kernel_rfl) ?_ _
  refine NoPanic.normal ?_
  go_wp2_with fail
  go_meet
  exact ⟨gD, A1, c1, A2, c2, A3, c3, rfl, HE.out⟩
 case rest =>
  obtain ⟨gD, A1, c1, A2, c2, A3, c3, rfl, hsep⟩ := hcut
  have hzc := hsep.bel.size
  have BX := Lib.hid (BX.out.below hsep.bel)
  have RX := Lib.hid (RX.out.below hsep.bel)
  have HB := Lib.hid (below_then HB.out hsep.bel)
  have BG := Lib.hid (show Blk wc gD #[.slice A1 d.start.length c1, .slice A2 d.text.length c2, .slice none 0 0, .int .i64 d.clock, .slice none 0 0, .slice A3 d.lea.length c3] 36 from hsep.p.2.2.2)
  have HO1 := Lib.hid (show Own wc 0 (.slice A1 d.start.length c1) d.start from hsep.p.1)
  have HO2 := Lib.hid (show Own wc 0 (.slice A2 d.text.length c2) d.text from hsep.p.2.1)
  have HO3 := Lib.hid (show OwR wc 0 (.slice A3 d.lea.length c3) d.lea from hsep.p.2.2.1)
  have hg1 : W.heap.size ≤ gD := hsep.g.2.2.2 gD (by simp [Itm.blk])
  have hg2 : gD < wc.heap.size := BG.out.lt
  have HSP := Lib.hid hsep
  have HD0 := Lib.hid (HD.out w (Below.refl _ _))
  have BX0 := BX.out.lt
  clear hsep p0 p1 p3 p5 HS zs
  go_wp2
  go_loopw [4] (fun i wr => ∃ (k : Nat) (AL : Option Addr) (cL : Nat) (fl : List Nat), k ≤ d.log.length ∧ i = .int .i64 k ∧ Hid (OwX 102 Lay.commit wr wc.heap.size (.slice AL k cL) (d.log.take k) fl) ∧ Hid (Keeps [gD] wc wr) ∧ Hid (Blk wr gD #[.slice A1 d.start.length c1, .slice A2 d.text.length c2, .slice AL k cL, .int .i64 d.clock, .slice none 0 0, .slice A3 d.lea.length c3] 36)) (fun i _ => d.log.length - (intOf i).toNat)
  case atStart => exact ⟨0, none, 0, [], Nat.zero_le _, rfl, Lib.hid (OwX.nil _ _), Lib.hid (Keeps.refl _ _), BG⟩
  case round =>
   obtain ⟨k, AL, cL, fl, hk, rfl, HL, HK, BGr⟩ := hrel
   have hzr := HK.out.size
   have BXr := Lib.hid (BX.out.of_block (HK.out.block _ BX0 (by simp; omega)))
   have HBr := Lib.hid (HB.out.trans (HK.out.below (B := w.heap.size) HB.out.size (fun q hq => by simp at hq; omega)))
   by_cases hlt : k < d.log.length
   ·obtain ⟨b, off, s, x, m, B, p, dd, hA, hbl, hek, k0, k1, k2, k3, hs, ha, hm, hpd, hdm, hBp⟩ := HD0.out.l.at_ k hlt
    have p2 : wr.cell? ⟨w.heap.size, 2, none⟩ = some (.slice (some ⟨b, off, none⟩) d.log.length a.cl) := by rw [← hA]; exact BXr.out.cell 2
    have j0 := (HBr.out.cell (p := ⟨b, off + k * 4, none⟩) hbl).trans k0
    have j1 := (HBr.out.cell (p := ⟨b, off + k * 4 + 1, none⟩) hbl).trans k1
    have j2 := (HBr.out.cell (p := ⟨b, off + k * 4 + 2, none⟩) hbl).trans k2
    have j3 := (HBr.out.cell (p := ⟨b, off + k * 4 + 3, none⟩) hbl).trans k3
    have HBP := Lib.hid hBp
    have hp4 : p.length ≤ 1000 := by
     have h8 := List.mem_map_of_mem (f := (·.2)) (List.getElem_mem hlt)
     rw [hek] at h8
     exact HPU.out (x, m, p) h8
    have HNX := Lib.hid (show d.log.take (k + 1) = d.log.take k ++ [(s, x, m, p)] by rw [List.take_succ_eq_append_getElem hlt, hek])
    have hl1 : (d.log.take (k + 1)).length = k + 1 := by rw [List.length_take]; omega
    have hlk : (d.log.take k).length ≤ 1000000 := by rw [List.length_take]; omega
    have hki0 : (0 : Int) ≤ (k : Int) := by omega
    have hki : (k : Int) < (d.log.length : Int) := by omega
    have HS := Lib.hid (show ∀ Y, Below (w.heap.size + 1) wr Y → (fun V => V.cell? ⟨w.heap.size, 2, none⟩ = some (.slice (some ⟨b, off, none⟩) d.log.length a.cl) ∧ V.cell? ⟨b, off + k * 4, none⟩ = some (.int .i64 s) ∧ V.cell? ⟨b, off + k * 4 + 1, none⟩ = some (.int .i64 x) ∧ V.cell? ⟨b, off + k * 4 + 2, none⟩ = some (.int .i64 m) ∧ V.cell? ⟨b, off + k * 4 + 3, none⟩ = some (.slice B p.length dd)) Y from fun Y h => ⟨(h.cell (p := ⟨w.heap.size, 2, none⟩) (by show w.heap.size < w.heap.size + 1; omega)).trans p2, (h.cell (p := ⟨b, off + k * 4, none⟩) (by show b < w.heap.size + 1; omega)).trans j0, (h.cell (p := ⟨b, off + k * 4 + 1, none⟩) (by show b < w.heap.size + 1; omega)).trans j1, (h.cell (p := ⟨b, off + k * 4 + 2, none⟩) (by show b < w.heap.size + 1; omega)).trans j2, (h.cell (p := ⟨b, off + k * 4 + 3, none⟩) (by show b < w.heap.size + 1; omega)).trans j3⟩)
    clear hek hA hBp k0 k1 k2 k3 hpd hdm
    go_upto_region 5 with fail
    refine wp_region_held_drew (S := (fun V => V.cell? ⟨w.heap.size, 2, none⟩ = some (.slice (some ⟨b, off, none⟩) d.log.length a.cl) ∧ V.cell? ⟨b, off + k * 4, none⟩ = some (.int .i64 s) ∧ V.cell? ⟨b, off + k * 4 + 1, none⟩ = some (.int .i64 x) ∧ V.cell? ⟨b, off + k * 4 + 2, none⟩ = some (.int .i64 m) ∧ V.cell? ⟨b, off + k * 4 + 3, none⟩ = some (.slice B p.length dd))) (by kernel_rfl) (by exact HS.out _ (Below.refl _ _).drew) (fun hHeld => ?_)
    refine wpAnyH_take (i := 0) (oi := ?_) (v := ?_) ?_ ?_ ?_ ?_ ?_ ?_ (by exact hHeld) ?_
    rotate_left 2
    ·(simp only [List.getElem?_toArray, List.getElem?_cons_zero]; try rfl)
    ·kernel_rfl
    ·kernel_rfl
    ·kernel_rfl
    ·exact fun _ _ _ h => h
    ·refine Or.inl ⟨by rfl, ?_⟩
     (intro V hSV; (try dsimp only at hSV); obtain ⟨q0, q1, q2, q3, q4⟩ := hSV; go_simp; try with_reducible rfl)
    (try simp only [LY9])
    refine wpAnyH_take (i := 2) (oi := ?_) (v := ?_) ?_ ?_ ?_ ?_ ?_ ?_ (by exact hHeld) ?_
    rotate_left 2
    ·(simp only [LX9]; try rfl)
    ·kernel_rfl
    ·kernel_rfl
    ·kernel_rfl
    ·exact fun _ _ _ h => h
    ·refine Or.inl ⟨by rfl, ?_⟩
     (intro V hSV; (try dsimp only at hSV); obtain ⟨q0, q1, q2, q3, q4⟩ := hSV; go_simp; try with_reducible rfl)
    (try simp only [LY9])
    refine wpAnyH_take (i := 3) (oi := ?_) (v := ?_) ?_ ?_ ?_ ?_ ?_ ?_ (by exact hHeld) ?_
    rotate_left 2
    ·(simp only [LX9]; try rfl)
    ·kernel_rfl
    ·kernel_rfl
    ·kernel_rfl
    ·exact fun _ _ _ h => h
    ·refine Or.inl ⟨by rfl, ?_⟩
     (intro V hSV; (try dsimp only at hSV); obtain ⟨q0, q1, q2, q3, q4⟩ := hSV; go_simp; try with_reducible rfl)
    (try simp only [LY9])
    refine wpAnyH_take (i := 4) (oi := ?_) (v := ?_) ?_ ?_ ?_ ?_ ?_ ?_ (by exact hHeld) ?_
    rotate_left 2
    ·(simp only [LX9]; try rfl)
    ·kernel_rfl
    ·kernel_rfl
    ·kernel_rfl
    ·exact fun _ _ _ h => h
    ·refine Or.inl ⟨by rfl, ?_⟩
     (intro V hSV; (try dsimp only at hSV); obtain ⟨q0, q1, q2, q3, q4⟩ := hSV; go_simp; try with_reducible rfl)
    (try simp only [LY9])
    refine wpAnyH_take (i := 5) (oi := ?_) (v := ?_) ?_ ?_ ?_ ?_ ?_ ?_ (by exact hHeld) ?_
    rotate_left 2
    ·(simp only [LX9]; try rfl)
    ·kernel_rfl
    ·kernel_rfl
    ·kernel_rfl
    ·exact fun _ _ _ h => h
    ·refine Or.inl ⟨by rfl, ?_⟩
     (intro V hSV; (try dsimp only at hSV); obtain ⟨q0, q1, q2, q3, q4⟩ := hSV; go_simp; try with_reducible rfl)
    (try simp only [LY9])
    refine wpAnyH_take (i := 6) (oi := ?_) (v := ?_) ?_ ?_ ?_ ?_ ?_ ?_ (by exact hHeld) ?_
    rotate_left 2
    ·(simp only [LX9]; try rfl)
    ·kernel_rfl
    ·kernel_rfl
    ·kernel_rfl
    ·exact fun _ _ _ h => h
    ·refine Or.inl ⟨by rfl, ?_⟩
     (intro V hSV; (try dsimp only at hSV); obtain ⟨q0, q1, q2, q3, q4⟩ := hSV; go_simp; try with_reducible rfl)
    (try simp only [LY9])
    refine wpAnyH_take (i := 7) (oi := ?_) (v := ?_) ?_ ?_ ?_ ?_ ?_ ?_ (by exact hHeld) ?_
    rotate_left 2
    ·(simp only [LX9]; try rfl)
    ·kernel_rfl
    ·kernel_rfl
    ·kernel_rfl
    ·exact fun _ _ _ h => h
    ·refine Or.inl ⟨by rfl, ?_⟩
     (intro V hSV; (try dsimp only at hSV); obtain ⟨q0, q1, q2, q3, q4⟩ := hSV; go_simp; try with_reducible rfl)
    (try simp only [LY9])
    refine wpAnyH_take (i := 8) (oi := ?_) (v := ?_) ?_ ?_ ?_ ?_ ?_ ?_ (by exact hHeld) ?_
    rotate_left 2
    ·(simp only [LX9]; try rfl)
    ·kernel_rfl
    ·kernel_rfl
    ·kernel_rfl
    ·exact fun _ _ _ h => h
    ·refine Or.inl ⟨by rfl, ?_⟩
     (intro V hSV; (try dsimp only at hSV); obtain ⟨q0, q1, q2, q3, q4⟩ := hSV; go_simp; try with_reducible rfl)
    (try simp only [LY9])
    refine wpAnyH_take (i := 9) (oi := ?_) (v := ?_) ?_ ?_ ?_ ?_ ?_ ?_ (by exact hHeld) ?_
    rotate_left 2
    ·(simp only [LX9]; try rfl)
    ·kernel_rfl
    ·kernel_rfl
    ·kernel_rfl
    ·exact fun _ _ _ h => h
    ·refine Or.inl ⟨by rfl, ?_⟩
     (intro V hSV; (try dsimp only at hSV); obtain ⟨q0, q1, q2, q3, q4⟩ := hSV; go_simp; try with_reducible rfl)
    (try simp only [LY9])
    refine wpAnyH_take (i := 10) (oi := ?_) (v := ?_) ?_ ?_ ?_ ?_ ?_ ?_ (by exact hHeld) ?_
    rotate_left 2
    ·(simp only [LX9]; try rfl)
    ·kernel_rfl
    ·kernel_rfl
    ·kernel_rfl
    ·exact fun _ _ _ h => h
    ·refine Or.inl ⟨by rfl, ?_⟩
     (intro V hSV; (try dsimp only at hSV); obtain ⟨q0, q1, q2, q3, q4⟩ := hSV; go_simp; try with_reducible rfl)
    (try simp only [LY9])
    refine wpAnyH_take (i := 11) (oi := ?_) (v := ?_) ?_ ?_ ?_ ?_ ?_ ?_ (by exact hHeld) ?_
    rotate_left 2
    ·(simp only [LX9]; try rfl)
    ·kernel_rfl
    ·kernel_rfl
    ·kernel_rfl
    ·exact fun _ _ _ h => h
    ·refine Or.inl ⟨by rfl, ?_⟩
     (intro V hSV; (try dsimp only at hSV); obtain ⟨q0, q1, q2, q3, q4⟩ := hSV; go_simp; try with_reducible rfl)
    (try simp only [LY9])
    refine wpAnyH_take (i := 12) (oi := ?_) (v := ?_) ?_ ?_ ?_ ?_ ?_ ?_ (by exact hHeld) ?_
    rotate_left 2
    ·(simp only [LX9]; try rfl)
    ·kernel_rfl
    ·kernel_rfl
    ·kernel_rfl
    ·exact fun _ _ _ h => h
    ·refine Or.inl ⟨by rfl, ?_⟩
     (intro V hSV; (try dsimp only at hSV); obtain ⟨q0, q1, q2, q3, q4⟩ := hSV; go_simp; try with_reducible rfl)
    (try simp only [LY9])
    refine wpAnyH_take (i := 13) (oi := ?_) (v := ?_) ?_ ?_ ?_ ?_ ?_ ?_ (by exact hHeld) ?_
    rotate_left 2
    ·(simp only [LX9]; try rfl)
    ·kernel_rfl
    ·kernel_rfl
    ·kernel_rfl
    ·exact fun _ _ _ h => h
    ·refine Or.inl ⟨by rfl, ?_⟩
     (intro V hSV; (try dsimp only at hSV); obtain ⟨q0, q1, q2, q3, q4⟩ := hSV; go_simp; try with_reducible rfl)
    (try simp only [LY9])
    have HE := Lib.hid (show Below wr.heap.size wr wr.drew from (Below.refl _ _).drew)
    generalize wr.drew = Y at *
    apply meetAt (T := ∀ (Y : World) (A4 : Option Addr) (c4 : Nat) (g4 : Nat), Hid (Below wr.heap.size wr Y) → Hid (Own Y wr.heap.size (.slice A4 p.length c4) p) → Hid (Blk Y g4 ([.int .i64 s, .int .i64 x, .int .i64 m, .slice A4 p.length c4] : List Value).toArray 102) → _)
    intro tail1_14_16
    apply meetAt (T := ∀ (Y : World) (A4 : Option Addr) (c4 : Nat), Hid (Below wr.heap.size wr Y) → Hid (Own Y wr.heap.size (.slice A4 p.length c4) p) → _)
    intro tail1_14
    refine wpAnyH_ready (rs := [1, 14]) (by kernel_rfl) (by simp) ?_
    refine AllReadyH.cons (o := ?_) ?_ (fun K hK => ?_) ?_
    rotate_left 1
    ·(simp only [LX9]; try rfl)
    ·have ql := (BGr.out.below HE.out).cell 2
     go_simp
     clear ql
     refine hK.out _ _ (by exact HS.out _ (HE.out.mono (by omega))) (fun hHeld => ?_)
     clear hK K
     (try simp only [LY9])
     refine wpAnyH_ready (rs := [14]) (by kernel_rfl) (by simp) ?_
     refine AllReadyH.cons (o := ?_) ?_ (fun K hK => ?_) AllReadyH.nil
     rotate_left 1
     ·(simp only [LX9]; try rfl)
     go_simp
     refine (l08Edit_any x m B p dd _ (by omega) (HBP.out.below (below_then HBr.out HE.out))).mono ?_
     rintro e Y ⟨v4, rfl, ho4, hb⟩
     obtain ⟨A4, c4, rfl, _, _, _⟩ := ho4.form
     have H4 := Lib.hid (ho4.mono HE.out.size)
     have HE := Lib.hid (below_then HE.out hb)
     clear ho4 hb
     go_wp2_with fail
     refine hK.out _ _ (by exact HS.out _ (HE.out.mono (by omega))) (fun hHeld => ?_)
     clear hK K
     (try simp only [LY9])
     refine wpAnyH_take (i := 15) (oi := ?_) (v := ?_) ?_ ?_ ?_ ?_ ?_ ?_ (by exact hHeld) ?_
     rotate_left 2
     ·(simp only [LX9]; try rfl)
     ·kernel_rfl
     ·kernel_rfl
     ·kernel_rfl
     ·exact fun _ _ _ h => h
     ·refine Or.inl ⟨by rfl, ?_⟩
      (intro V hSV; (try dsimp only at hSV); obtain ⟨q0, q1, q2, q3, q4⟩ := hSV; go_simp; try with_reducible rfl)
     (try simp only [LY9])
     exact tail1_14 Y A4 c4 HE H4
    refine AllReadyH.cons (o := ?_) ?_ (fun K hK => ?_) AllReadyH.nil
    rotate_left 1
    ·(simp only [LX9]; try rfl)
    go_simp
    refine (l08Edit_any x m B p dd _ (by omega) (HBP.out.below (below_then HBr.out HE.out))).mono ?_
    rintro e Y ⟨v4, rfl, ho4, hb⟩
    obtain ⟨A4, c4, rfl, _, _, _⟩ := ho4.form
    have H4 := Lib.hid (ho4.mono HE.out.size)
    have HE := Lib.hid (below_then HE.out hb)
    clear ho4 hb
    go_wp2_with fail
    refine hK.out _ _ (by exact HS.out _ (HE.out.mono (by omega))) (fun hHeld => ?_)
    clear hK K
    (try simp only [LY9])
    refine wpAnyH_take (i := 15) (oi := ?_) (v := ?_) ?_ ?_ ?_ ?_ ?_ ?_ (by exact hHeld) ?_
    rotate_left 2
    ·(simp only [LX9]; try rfl)
    ·kernel_rfl
    ·kernel_rfl
    ·kernel_rfl
    ·exact fun _ _ _ h => h
    ·refine Or.inl ⟨by rfl, ?_⟩
     (intro V hSV; (try dsimp only at hSV); obtain ⟨q0, q1, q2, q3, q4⟩ := hSV; go_simp; try with_reducible rfl)
    (try simp only [LY9])
    refine wpAnyH_ready (rs := [1, 16]) (by kernel_rfl) (by simp) ?_
    refine AllReadyH.cons (o := ?_) ?_ (fun K hK => ?_) ?_
    rotate_left 1
    ·(simp only [LX9]; try rfl)
    ·have ql := (BGr.out.below HE.out).cell 2
     go_simp
     clear ql
     refine hK.out _ _ (by exact HS.out _ (HE.out.mono (by omega))) (fun hHeld => ?_)
     clear hK K
     (try simp only [LY9])
     exact tail1_14 Y A4 c4 HE H4
    refine AllReadyH.cons (o := ?_) ?_ (fun K hK => ?_) AllReadyH.nil
    rotate_left 1
    ·(simp only [LX9]; try rfl)
    have HG := Lib.hid (Blk.new Y #[.int .i64 s, .int .i64 x, .int .i64 m, .slice A4 p.length c4] 102)
    have hal := (Below.refl Y.heap.size Y).alloc (Nat.le_refl _) (.cells #[.int .i64 s, .int .i64 x, .int .i64 m, .slice A4 p.length c4] 102)
    have H4 := Lib.hid (H4.out.below hal)
    have HE := Lib.hid (below_then HE.out hal)
    clear hal
    go_simp
    generalize Y.heap.size = g4 at HG ⊢
    generalize Y.alloc (.cells #[.int .i64 s, .int .i64 x, .int .i64 m, .slice A4 p.length c4] 102) = Y at HG H4 HE ⊢
    have HG := Lib.hid (show Blk Y g4 ([.int .i64 s, .int .i64 x, .int .i64 m, .slice A4 p.length c4] : List Value).toArray 102 from HG.out)
    refine hK.out _ _ (by exact HS.out _ (HE.out.mono (by omega))) (fun hHeld => ?_)
    clear hK K
    (try simp only [LY9])
    refine wpAnyH_ready (rs := [1]) (by kernel_rfl) (by simp) ?_
    refine AllReadyH.cons (o := ?_) ?_ (fun K hK => ?_) AllReadyH.nil
    rotate_left 1
    ·(simp only [LX9]; try rfl)
    have ql := (BGr.out.below HE.out).cell 2
    go_simp
    clear ql
    refine hK.out _ _ (by exact HS.out _ (HE.out.mono (by omega))) (fun hHeld => ?_)
    clear hK K
    (try simp only [LY9])
    exact tail1_14_16 Y A4 c4 g4 HE H4 HG
    intro Y A4 c4 HE H4
    have hHeld := HS.out _ (HE.out.mono (by omega))
    refine wpAnyH_ready (rs := [16]) (by kernel_rfl) (by simp) ?_
    refine AllReadyH.cons (o := ?_) ?_ (fun K hK => ?_) AllReadyH.nil
    rotate_left 1
    ·(simp only [LX9]; try rfl)
    have HG := Lib.hid (Blk.new Y #[.int .i64 s, .int .i64 x, .int .i64 m, .slice A4 p.length c4] 102)
    have hal := (Below.refl Y.heap.size Y).alloc (Nat.le_refl _) (.cells #[.int .i64 s, .int .i64 x, .int .i64 m, .slice A4 p.length c4] 102)
    have H4 := Lib.hid (H4.out.below hal)
    have HE := Lib.hid (below_then HE.out hal)
    clear hal
    go_simp
    generalize Y.heap.size = g4 at HG ⊢
    generalize Y.alloc (.cells #[.int .i64 s, .int .i64 x, .int .i64 m, .slice A4 p.length c4] 102) = Y at HG H4 HE ⊢
    have HG := Lib.hid (show Blk Y g4 ([.int .i64 s, .int .i64 x, .int .i64 m, .slice A4 p.length c4] : List Value).toArray 102 from HG.out)
    refine hK.out _ _ (by exact HS.out _ (HE.out.mono (by omega))) (fun hHeld => ?_)
    clear hK K
    (try simp only [LY9])
    exact tail1_14_16 Y A4 c4 g4 HE H4 HG
    intro Y A4 c4 g4 HE H4 HG
    have hHeld := HS.out _ (HE.out.mono (by omega))
    refine wpAnyH_ready (rs := [17]) (by kernel_rfl) (by simp) ?_
    refine AllReadyH.cons (o := ?_) ?_ (fun K hK => ?_) AllReadyH.nil
    rotate_left 1
    ·(simp only [LX9]; try rfl)
    refine step_app_one9 rfl (.tmp 30) (.tmp 45) 32 rfl 102 Lay.commit _ 4 48 Tryz.underlying32 Tryz.infoCm rfl rfl (by decide) (by decide) (.slice AL k cL) (d.log.take k) fl [.int .i64 s, .int .i64 x, .int .i64 m, .slice A4 p.length c4] (s, x, m, p) _ ⟨g4, 0, none⟩ 1 rfl rfl (by exact (HL.out.below HE.out).ow) HL.out.nd (by exact own_commit hs ha hm H4.out) H4.out.fp.1 wr.heap.size (fun q hq => (HL.out.range q hq).2) H4.out.fp.2 (by exact blk_cells HG.out) hlk ?_
    intro v6 Y f6 ho6 hn6 hs6 hg6
    rw [← HNX.out] at ho6
    obtain ⟨A6, c6, e6, _, _, _⟩ := Lay.commits.read ho6
    simp only [List.cons.injEq, and_true] at e6
    rw [hl1] at e6
    subst e6
    have HX6 := Lib.hid (show OwX 102 Lay.commit Y wc.heap.size (.slice A6 (k + 1) c6) (d.log.take (k + 1)) f6 from ⟨ho6, hn6, fun q hq => by
     rcases hs6 q hq with h | h | h
     ·exact HL.out.lo q h
     ·have := H4.out.fp.2 q h; omega
     ·have := HE.out.size; omega⟩)
    have hin : ∀ q ∈ ((.slice AL k cL) : Value).ownBlock.toList, wc.heap.size ≤ q := fun q h => HL.out.lo q (own_inL HL.out.ow q h)
    have HKp := Lib.hid ((HK.out.after (Keeps.of_below (fp := []) HE.out) (fun q h => nomatch h)).after (Keeps.of_grown hg6) (fun q h => by have := hin q h; omega))
    have HE9 := Lib.hid ((HE.out.mono (by omega)).trans ((Keeps.of_grown hg6).below (B := w.heap.size + 1) (by have := HE.out.size; omega) (fun q h => by have := hin q h; omega)))
    have BG := Lib.hid ((BGr.out.below HE.out).of_block ((Keeps.of_grown hg6).block _ (BGr.out.below HE.out).lt (fun h => by have := hin _ h; omega)))
    clear ho6 hn6 hs6 hg6 hin
    refine hK.out _ _ (by exact HS.out _ HE9.out) (fun hHeld => ?_)
    clear hK K
    (try simp only [LY9])
    refine wpAnyH_take (i := 18) (oi := ?_) (v := ?_) ?_ ?_ ?_ ?_ ?_ ?_ (by exact hHeld) ?_
    rotate_left 2
    ·(simp only [LX9]; try rfl)
    ·kernel_rfl
    ·kernel_rfl
    ·kernel_rfl
    ·exact fun _ _ _ h => h
    ·refine Or.inl ⟨by rfl, ?_⟩
     (intro V hSV; (try dsimp only at hSV); obtain ⟨q0, q1, q2, q3, q4⟩ := hSV; go_simp; try with_reducible rfl)
    (try simp only [LY9])
    refine wpAnyH_ready (rs := [19]) (by kernel_rfl) (by simp) ?_
    refine AllReadyH.cons (o := ?_) ?_ (fun K hK => ?_) AllReadyH.nil
    rotate_left 1
    ·(simp only [LX9]; try rfl)
    have ql := BG.out.cell 2
    have qf := BG.out.frozen 2
    have hke := (Keeps.refl [gD] Y).set (List.mem_singleton.2 rfl) 2 (.slice A6 (k + 1) c6)
    have HX6 := Lib.hid (HX6.out.keeps hke (fun q hq h => by have := HX6.out.lo q hq; simp at h; omega))
    have HKp := Lib.hid (HKp.out.trans hke)
    have HE9 := Lib.hid (HE9.out.trans (hke.below (B := w.heap.size + 1) (by have := HE9.out.size; omega) (fun q h => by simp at h; omega)))
    have BG := Lib.hid (show Blk _ gD #[.slice A1 d.start.length c1, .slice A2 d.text.length c2, .slice A6 (k + 1) c6, .int .i64 d.clock, .slice none 0 0, .slice A3 d.lea.length c3] 36 from BG.out.set 2 (.slice A6 (k + 1) c6))
    clear hke
    go_simp
    clear ql qf
    generalize Y.setCell ⟨gD, 2, none⟩ (.slice A6 (k + 1) c6) = Y at HX6 HKp HE9 BG ⊢
    refine hK.out _ _ (by exact HS.out _ HE9.out) (fun hHeld => ?_)
    clear hK K
    (try simp only [LY9])
    refine wpAnyH_done (by kernel_rfl) ?_ _
    go_wp2
    go_roundw
    case rel => exact ⟨k + 1, A6, c6, f6, by omega, by go_num, HX6, HKp, BG⟩
    case measure => simp [intOf]; omega
   ·have e : k = d.log.length := by omega
    subst e
    have p2 := BXr.out.cell 2
    have p4 := BXr.out.cell 4
    have h9 := HL.out
    rw [List.take_length] at h9
    have HL := Lib.hid h9
    obtain ⟨N2, hN2⟩ : ∃ N, wr.heap.size = N := ⟨_, rfl⟩
    have hlN : ∀ q ∈ fl, wc.heap.size ≤ q ∧ q < N2 := fun q hq => by have := h9.range q hq; omega
    have HLN := Lib.hid hlN
    have hzN1 : wc.heap.size ≤ N2 := by omega
    have HN2 := Lib.hid hN2
    clear h9 hN2
    go_wp2
    go_loopw [5] (fun i wr => ∃ (k : Nat) (AM : Option Addr) (cM : Nat) (fm : List Nat), k ≤ d.mem.length ∧ i = .int .i64 k ∧ Hid (OwX 50 Lay.member wr N2 (.slice AM k cM) (d.mem.take k) fm) ∧ Hid (OwX 102 Lay.commit wr wc.heap.size (.slice AL d.log.length cL) d.log fl) ∧ Hid (Keeps [gD] wc wr) ∧ Hid (Blk wr gD #[.slice A1 d.start.length c1, .slice A2 d.text.length c2, .slice AL d.log.length cL, .int .i64 d.clock, .slice AM k cM, .slice A3 d.lea.length c3] 36) ∧ N2 ≤ wr.heap.size) (fun i _ => d.mem.length - (intOf i).toNat)
    case atStart => exact ⟨0, none, 0, [], Nat.zero_le _, rfl, Lib.hid (OwX.nil _ _), HL, HK, BGr, Nat.le_of_eq HN2.out.symm⟩
    case round =>
     obtain ⟨k, AM, cM, fm, hk, rfl, HM, HL, HK, BGr, hzN⟩ := hrel
     have hzr := HK.out.size
     have BXr := Lib.hid (BX.out.of_block (HK.out.block _ BX0 (by simp; omega)))
     have HBr := Lib.hid (HB.out.trans (HK.out.below (B := w.heap.size) HB.out.size (fun q hq => by simp at hq; omega)))
     clear p2 p4
     by_cases hlt : k < d.mem.length
     ·obtain ⟨b, off, s, f, t, UA, u, uc, RA, r, rc, hA, hbl, hek, k0, k1, k2, k3, k4, hs, hf, ht, hu1, hu2, hr1, hr2, hUU, hRR⟩ := HD0.out.m.at_ k hlt
      have p4 : wr.cell? ⟨w.heap.size, 4, none⟩ = some (.slice (some ⟨b, off, none⟩) d.mem.length a.cm) := by rw [← hA]; exact BXr.out.cell 4
      have j0 := (HBr.out.cell (p := ⟨b, off + k * 5, none⟩) hbl).trans k0
      have j1 := (HBr.out.cell (p := ⟨b, off + k * 5 + 1, none⟩) hbl).trans k1
      have j2 := (HBr.out.cell (p := ⟨b, off + k * 5 + 2, none⟩) hbl).trans k2
      have j3 := (HBr.out.cell (p := ⟨b, off + k * 5 + 3, none⟩) hbl).trans k3
      have j4 := (HBr.out.cell (p := ⟨b, off + k * 5 + 4, none⟩) hbl).trans k4
      have hsm := HMU.out _ (List.getElem_mem hlt)
      rw [hek] at hsm
      have HSM := Lib.hid hsm
      have HU := Lib.hid hUU
      have HRR := Lib.hid hRR
      have HNX := Lib.hid (show d.mem.take (k + 1) = d.mem.take k ++ [(s, (f, t), (u, r))] by rw [List.take_succ_eq_append_getElem hlt, hek])
      have hl1 : (d.mem.take (k + 1)).length = k + 1 := by rw [List.length_take]; omega
      have hlk : (d.mem.take k).length ≤ 1000000 := by rw [List.length_take]; omega
      have hki0 : (0 : Int) ≤ (k : Int) := by omega
      have hki : (k : Int) < (d.mem.length : Int) := by omega
      clear hsm hek hA hUU hRR k0 k1 k2 k3 k4 hu1 hu2 hr1 hr2
      go_upto_region 10 with fail
      have hal := (Below.refl wr.heap.size wr).alloc (Nat.le_refl _) (.cells #[.int .i64 s, .int .i64 f, .int .i64 t, .slice UA u.length uc, .slice RA r.length rc] 50)
      have BM := Blk.new wr #[.int .i64 s, .int .i64 f, .int .i64 t, .slice UA u.length uc, .slice RA r.length rc] 50
      have hfm : ∀ q ∈ fm, q < wr.heap.size := fun q hq => (HM.out.range q hq).2
      have HM := Lib.hid (HM.out.below hal)
      have HL := Lib.hid (HL.out.below hal)
      have hgl := BGr.out.lt
      have BGr := Lib.hid (BGr.out.below hal)
      have HK := Lib.hid (HK.out.after (Keeps.of_below (fp := []) hal) (fun q h => nomatch h))
      have HBr := Lib.hid (below_then HBr.out hal)
      clear hal j0 j1 j2 j3 j4 p4
      generalize wr.alloc (.cells #[.int .i64 s, .int .i64 f, .int .i64 t, .slice UA u.length uc, .slice RA r.length rc] 50) = Wm at *
      obtain ⟨gm, hgm⟩ : ∃ g, wr.heap.size = g := ⟨_, rfl⟩
      rw [hgm] at BM hfm hgl hzN hzr ⊢
      have hzm := BM.lt
      clear hgm
      have hsm := HSM.out
      have hlN := HLN.out
      have n0 := BM.cell 0
      have n1 := BM.cell 1
      have n2 := BM.cell 2
      have n3 := BM.cell 3
      have n4 := BM.cell 4
      have HS := Lib.hid (show ∀ Y, Below Wm.heap.size Wm Y → (fun V => V.cell? ⟨gm, 0, none⟩ = some (.int .i64 s) ∧ V.cell? ⟨gm, 1, none⟩ = some (.int .i64 f) ∧ V.cell? ⟨gm, 2, none⟩ = some (.int .i64 t) ∧ V.cell? ⟨gm, 3, none⟩ = some (.slice UA u.length uc) ∧ V.cell? ⟨gm, 4, none⟩ = some (.slice RA r.length rc)) Y from fun Y h => ⟨(h.cell (p := ⟨gm, 0, none⟩) BM.lt).trans n0, (h.cell (p := ⟨gm, 1, none⟩) BM.lt).trans n1, (h.cell (p := ⟨gm, 2, none⟩) BM.lt).trans n2, (h.cell (p := ⟨gm, 3, none⟩) BM.lt).trans n3, (h.cell (p := ⟨gm, 4, none⟩) BM.lt).trans n4⟩)
      have HS1 := Lib.hid (show ∀ (Y Z : World) (fq : List Nat), (fun V => V.cell? ⟨gm, 0, none⟩ = some (.int .i64 s) ∧ V.cell? ⟨gm, 1, none⟩ = some (.int .i64 f) ∧ V.cell? ⟨gm, 2, none⟩ = some (.int .i64 t) ∧ V.cell? ⟨gm, 3, none⟩ = some (.slice UA u.length uc) ∧ V.cell? ⟨gm, 4, none⟩ = some (.slice RA r.length rc)) Y → Keeps fq Y Z → gm ∉ fq → gm < Y.heap.size → (fun V => V.cell? ⟨gm, 0, none⟩ = some (.int .i64 s) ∧ V.cell? ⟨gm, 1, none⟩ = some (.int .i64 f) ∧ V.cell? ⟨gm, 2, none⟩ = some (.int .i64 t) ∧ V.cell? ⟨gm, 3, none⟩ = some (.slice UA u.length uc) ∧ V.cell? ⟨gm, 4, none⟩ = some (.slice RA r.length rc)) Z from fun Y Z fq h hk hn hz => ⟨(World.cell?_of_block (hk.block _ hz hn)).trans h.1, (World.cell?_of_block (hk.block _ hz hn)).trans h.2.1, (World.cell?_of_block (hk.block _ hz hn)).trans h.2.2.1, (World.cell?_of_block (hk.block _ hz hn)).trans h.2.2.2.1, (World.cell?_of_block (hk.block _ hz hn)).trans h.2.2.2.2⟩)
      refine wp_region_held_drew (S := (fun V => V.cell? ⟨gm, 0, none⟩ = some (.int .i64 s) ∧ V.cell? ⟨gm, 1, none⟩ = some (.int .i64 f) ∧ V.cell? ⟨gm, 2, none⟩ = some (.int .i64 t) ∧ V.cell? ⟨gm, 3, none⟩ = some (.slice UA u.length uc) ∧ V.cell? ⟨gm, 4, none⟩ = some (.slice RA r.length rc))) (by kernel_rfl) (by exact HS.out _ (Below.refl _ _).drew) (fun hHeld => ?_)
      refine wpAnyH_take (i := 0) (oi := ?_) (v := ?_) ?_ ?_ ?_ ?_ ?_ ?_ (by exact hHeld) ?_
      rotate_left 2
      ·(simp only [List.getElem?_toArray, List.getElem?_cons_zero]; try rfl)
      ·kernel_rfl
      ·kernel_rfl
      ·kernel_rfl
      ·exact fun _ _ _ h => h
      ·refine Or.inl ⟨by rfl, ?_⟩
       (intro V hSV; (try dsimp only at hSV); obtain ⟨q0, q1, q2, q3, q4⟩ := hSV; go_simp; try with_reducible rfl)
      (try simp only [LY9])
      refine wpAnyH_take (i := 2) (oi := ?_) (v := ?_) ?_ ?_ ?_ ?_ ?_ ?_ (by exact hHeld) ?_
      rotate_left 2
      ·(simp only [LX9]; try rfl)
      ·kernel_rfl
      ·kernel_rfl
      ·kernel_rfl
      ·exact fun _ _ _ h => h
      ·refine Or.inl ⟨by rfl, ?_⟩
       (intro V hSV; (try dsimp only at hSV); obtain ⟨q0, q1, q2, q3, q4⟩ := hSV; go_simp; try with_reducible rfl)
      (try simp only [LY9])
      refine wpAnyH_take (i := 3) (oi := ?_) (v := ?_) ?_ ?_ ?_ ?_ ?_ ?_ (by exact hHeld) ?_
      rotate_left 2
      ·(simp only [LX9]; try rfl)
      ·kernel_rfl
      ·kernel_rfl
      ·kernel_rfl
      ·exact fun _ _ _ h => h
      ·refine Or.inl ⟨by rfl, ?_⟩
       (intro V hSV; (try dsimp only at hSV); obtain ⟨q0, q1, q2, q3, q4⟩ := hSV; go_simp; try with_reducible rfl)
      (try simp only [LY9])
      refine wpAnyH_take (i := 4) (oi := ?_) (v := ?_) ?_ ?_ ?_ ?_ ?_ ?_ (by exact hHeld) ?_
      rotate_left 2
      ·(simp only [LX9]; try rfl)
      ·kernel_rfl
      ·kernel_rfl
      ·kernel_rfl
      ·exact fun _ _ _ h => h
      ·refine Or.inl ⟨by rfl, ?_⟩
       (intro V hSV; (try dsimp only at hSV); obtain ⟨q0, q1, q2, q3, q4⟩ := hSV; go_simp; try with_reducible rfl)
      (try simp only [LY9])
      refine wpAnyH_take (i := 5) (oi := ?_) (v := ?_) ?_ ?_ ?_ ?_ ?_ ?_ (by exact hHeld) ?_
      rotate_left 2
      ·(simp only [LX9]; try rfl)
      ·kernel_rfl
      ·kernel_rfl
      ·kernel_rfl
      ·exact fun _ _ _ h => h
      ·refine Or.inl ⟨by rfl, ?_⟩
       (intro V hSV; (try dsimp only at hSV); obtain ⟨q0, q1, q2, q3, q4⟩ := hSV; go_simp; try with_reducible rfl)
      (try simp only [LY9])
      refine wpAnyH_take (i := 6) (oi := ?_) (v := ?_) ?_ ?_ ?_ ?_ ?_ ?_ (by exact hHeld) ?_
      rotate_left 2
      ·(simp only [LX9]; try rfl)
      ·kernel_rfl
      ·kernel_rfl
      ·kernel_rfl
      ·exact fun _ _ _ h => h
      ·refine Or.inl ⟨by rfl, ?_⟩
       (intro V hSV; (try dsimp only at hSV); obtain ⟨q0, q1, q2, q3, q4⟩ := hSV; go_simp; try with_reducible rfl)
      (try simp only [LY9])
      refine wpAnyH_take (i := 7) (oi := ?_) (v := ?_) ?_ ?_ ?_ ?_ ?_ ?_ (by exact hHeld) ?_
      rotate_left 2
      ·(simp only [LX9]; try rfl)
      ·kernel_rfl
      ·kernel_rfl
      ·kernel_rfl
      ·exact fun _ _ _ h => h
      ·refine Or.inl ⟨by rfl, ?_⟩
       (intro V hSV; (try dsimp only at hSV); obtain ⟨q0, q1, q2, q3, q4⟩ := hSV; go_simp; try with_reducible rfl)
      (try simp only [LY9])
      have HE := Lib.hid (show Below Wm.heap.size Wm Wm.drew from (Below.refl _ _).drew)
      generalize Wm.drew = Y at *
      apply meetAt (T := ∀ (Y : World) (A4 : Option Addr) (c4 : Nat) (f4 : List Nat) (A5 : Option Addr) (c5 : Nat) (f5 : List Nat) (g4 : Nat), Hid (Below Wm.heap.size Wm Y) → Hid (OwS Y Wm.heap.size A4 u c4 f4 A5 r c5 f5) → Hid (Blk Y g4 ([.int .i64 s, .int .i64 f, .int .i64 t, .slice A4 u.length c4, .slice A5 r.length c5] : List Value).toArray 50) → _)
      intro tail1_8_10
      apply meetAt (T := ∀ (Y : World) (A4 : Option Addr) (c4 : Nat) (f4 : List Nat) (A5 : Option Addr) (c5 : Nat) (f5 : List Nat), Hid (Below Wm.heap.size Wm Y) → Hid (OwS Y Wm.heap.size A4 u c4 f4 A5 r c5 f5) → _)
      intro tail1_8
      refine wpAnyH_ready (rs := [1, 8]) (by kernel_rfl) (by simp) ?_
      refine AllReadyH.cons (o := ?_) ?_ (fun K hK => ?_) ?_
      rotate_left 1
      ·(simp only [LX9]; try rfl)
      ·have ql := (BGr.out.below HE.out).cell 4
       go_simp
       clear ql
       refine hK.out _ _ (by exact HS.out _ HE.out) (fun hHeld => ?_)
       clear hK K
       (try simp only [LY9])
       refine wpAnyH_ready (rs := [8]) (by kernel_rfl) (by simp) ?_
       refine AllReadyH.cons (o := ?_) ?_ (fun K hK => ?_) AllReadyH.nil
       rotate_left 1
       ·(simp only [LX9]; try rfl)
       go_simp
       refine (l10Stack_any UA u uc RA r rc _ hsm.1.1 hsm.1.2 hsm.2.1 hsm.2.2 (HU.out.below (below_then HBr.out HE.out)) (HRR.out.below (below_then HBr.out HE.out))).mono ?_
       rintro e Y ⟨A4, c4, f4, A5, c5, f5, rfl, ho4, hb⟩
       have H4 := Lib.hid (show OwS Y Wm.heap.size A4 u c4 f4 A5 r c5 f5 from ⟨ho4.u.mono HE.out.size, ho4.r.mono HE.out.size, ho4.dis⟩)
       have HE := Lib.hid (below_then HE.out hb)
       clear ho4 hb
       go_wp2_with fail
       refine hK.out _ _ (by exact HS.out _ HE.out) (fun hHeld => ?_)
       clear hK K
       (try simp only [LY9])
       refine wpAnyH_take (i := 9) (oi := ?_) (v := ?_) ?_ ?_ ?_ ?_ ?_ ?_ (by exact hHeld) ?_
       rotate_left 2
       ·(simp only [LX9]; try rfl)
       ·kernel_rfl
       ·kernel_rfl
       ·kernel_rfl
       ·exact fun _ _ _ h => h
       ·refine Or.inl ⟨by rfl, ?_⟩
        (intro V hSV; (try dsimp only at hSV); obtain ⟨q0, q1, q2, q3, q4⟩ := hSV; go_simp; try with_reducible rfl)
       (try simp only [LY9])
       exact tail1_8 Y A4 c4 f4 A5 c5 f5 HE H4
      refine AllReadyH.cons (o := ?_) ?_ (fun K hK => ?_) AllReadyH.nil
      rotate_left 1
      ·(simp only [LX9]; try rfl)
      go_simp
      refine (l10Stack_any UA u uc RA r rc _ hsm.1.1 hsm.1.2 hsm.2.1 hsm.2.2 (HU.out.below (below_then HBr.out HE.out)) (HRR.out.below (below_then HBr.out HE.out))).mono ?_
      rintro e Y ⟨A4, c4, f4, A5, c5, f5, rfl, ho4, hb⟩
      have H4 := Lib.hid (show OwS Y Wm.heap.size A4 u c4 f4 A5 r c5 f5 from ⟨ho4.u.mono HE.out.size, ho4.r.mono HE.out.size, ho4.dis⟩)
      have HE := Lib.hid (below_then HE.out hb)
      clear ho4 hb
      go_wp2_with fail
      refine hK.out _ _ (by exact HS.out _ HE.out) (fun hHeld => ?_)
      clear hK K
      (try simp only [LY9])
      refine wpAnyH_take (i := 9) (oi := ?_) (v := ?_) ?_ ?_ ?_ ?_ ?_ ?_ (by exact hHeld) ?_
      rotate_left 2
      ·(simp only [LX9]; try rfl)
      ·kernel_rfl
      ·kernel_rfl
      ·kernel_rfl
      ·exact fun _ _ _ h => h
      ·refine Or.inl ⟨by rfl, ?_⟩
       (intro V hSV; (try dsimp only at hSV); obtain ⟨q0, q1, q2, q3, q4⟩ := hSV; go_simp; try with_reducible rfl)
      (try simp only [LY9])
      refine wpAnyH_ready (rs := [1, 10]) (by kernel_rfl) (by simp) ?_
      refine AllReadyH.cons (o := ?_) ?_ (fun K hK => ?_) ?_
      rotate_left 1
      ·(simp only [LX9]; try rfl)
      ·have ql := (BGr.out.below HE.out).cell 4
       go_simp
       clear ql
       refine hK.out _ _ (by exact HS.out _ HE.out) (fun hHeld => ?_)
       clear hK K
       (try simp only [LY9])
       exact tail1_8 Y A4 c4 f4 A5 c5 f5 HE H4
      refine AllReadyH.cons (o := ?_) ?_ (fun K hK => ?_) AllReadyH.nil
      rotate_left 1
      ·(simp only [LX9]; try rfl)
      have HG := Lib.hid (Blk.new Y #[.int .i64 s, .int .i64 f, .int .i64 t, .slice A4 u.length c4, .slice A5 r.length c5] 50)
      have hal := (Below.refl Y.heap.size Y).alloc (Nat.le_refl _) (.cells #[.int .i64 s, .int .i64 f, .int .i64 t, .slice A4 u.length c4, .slice A5 r.length c5] 50)
      have H4 := Lib.hid (H4.out.below hal)
      have HE := Lib.hid (below_then HE.out hal)
      clear hal
      go_simp
      generalize Y.heap.size = g4 at HG ⊢
      generalize Y.alloc (.cells #[.int .i64 s, .int .i64 f, .int .i64 t, .slice A4 u.length c4, .slice A5 r.length c5] 50) = Y at HG H4 HE ⊢
      have HG := Lib.hid (show Blk Y g4 ([.int .i64 s, .int .i64 f, .int .i64 t, .slice A4 u.length c4, .slice A5 r.length c5] : List Value).toArray 50 from HG.out)
      refine hK.out _ _ (by exact HS.out _ HE.out) (fun hHeld => ?_)
      clear hK K
      (try simp only [LY9])
      refine wpAnyH_ready (rs := [1]) (by kernel_rfl) (by simp) ?_
      refine AllReadyH.cons (o := ?_) ?_ (fun K hK => ?_) AllReadyH.nil
      rotate_left 1
      ·(simp only [LX9]; try rfl)
      have ql := (BGr.out.below HE.out).cell 4
      go_simp
      clear ql
      refine hK.out _ _ (by exact HS.out _ HE.out) (fun hHeld => ?_)
      clear hK K
      (try simp only [LY9])
      exact tail1_8_10 Y A4 c4 f4 A5 c5 f5 g4 HE H4 HG
      intro Y A4 c4 f4 A5 c5 f5 HE H4
      have hHeld := HS.out _ HE.out
      refine wpAnyH_ready (rs := [10]) (by kernel_rfl) (by simp) ?_
      refine AllReadyH.cons (o := ?_) ?_ (fun K hK => ?_) AllReadyH.nil
      rotate_left 1
      ·(simp only [LX9]; try rfl)
      have HG := Lib.hid (Blk.new Y #[.int .i64 s, .int .i64 f, .int .i64 t, .slice A4 u.length c4, .slice A5 r.length c5] 50)
      have hal := (Below.refl Y.heap.size Y).alloc (Nat.le_refl _) (.cells #[.int .i64 s, .int .i64 f, .int .i64 t, .slice A4 u.length c4, .slice A5 r.length c5] 50)
      have H4 := Lib.hid (H4.out.below hal)
      have HE := Lib.hid (below_then HE.out hal)
      clear hal
      go_simp
      generalize Y.heap.size = g4 at HG ⊢
      generalize Y.alloc (.cells #[.int .i64 s, .int .i64 f, .int .i64 t, .slice A4 u.length c4, .slice A5 r.length c5] 50) = Y at HG H4 HE ⊢
      have HG := Lib.hid (show Blk Y g4 ([.int .i64 s, .int .i64 f, .int .i64 t, .slice A4 u.length c4, .slice A5 r.length c5] : List Value).toArray 50 from HG.out)
      refine hK.out _ _ (by exact HS.out _ HE.out) (fun hHeld => ?_)
      clear hK K
      (try simp only [LY9])
      exact tail1_8_10 Y A4 c4 f4 A5 c5 f5 g4 HE H4 HG
      intro Y A4 c4 f4 A5 c5 f5 g4 HE H4 HG
      have hHeld := HS.out _ HE.out
      refine wpAnyH_ready (rs := [11]) (by kernel_rfl) (by simp) ?_
      refine AllReadyH.cons (o := ?_) ?_ (fun K hK => ?_) AllReadyH.nil
      rotate_left 1
      ·(simp only [LX9]; try rfl)
      refine step_app_one9 rfl (.tmp 61) (.tmp 70) 33 rfl 50 Lay.member _ 5 72 Tryz.underlying33 Tryz.infoMb rfl rfl (by decide) (by decide) (.slice AM k cM) (d.mem.take k) fm [.int .i64 s, .int .i64 f, .int .i64 t, .slice A4 u.length c4, .slice A5 r.length c5] (s, (f, t), (u, r)) _ ⟨g4, 0, none⟩ 1 rfl rfl (by exact (HM.out.below HE.out).ow) HM.out.nd (by exact own_member hs hf ht H4.out) (OwS.nodup H4.out) Wm.heap.size (fun q hq => (HM.out.range q hq).2) (OwS.lo H4.out) (by exact blk_cells HG.out) hlk ?_
      intro v6 Y f6 ho6 hn6 hs6 hg6
      rw [← HNX.out] at ho6
      obtain ⟨A6, c6, e6, _, _, _⟩ := Lay.members.read ho6
      simp only [List.cons.injEq, and_true] at e6
      rw [hl1] at e6
      subst e6
      have HX6 := Lib.hid (show OwX 50 Lay.member Y N2 (.slice A6 (k + 1) c6) (d.mem.take (k + 1)) f6 from ⟨ho6, hn6, fun q hq => by
       rcases hs6 q hq with h | h | h
       ·exact HM.out.lo q h
       ·have := OwS.lo H4.out q h; omega
       ·have := HE.out.size; omega⟩)
      have hin : ∀ q ∈ ((.slice AM k cM) : Value).ownBlock.toList, N2 ≤ q := fun q h => HM.out.lo q (own_inL HM.out.ow q h)
      have HL9 := Lib.hid ((HL.out.below HE.out).keeps (Keeps.of_grown hg6) (fun q hq h => by have h1 := (HL.out.range q hq); have h2 := hlN q hq; have h3 := HM.out.lo q (own_inL HM.out.ow q h); omega))
      have HKp := Lib.hid ((HK.out.after (Keeps.of_below (fp := []) HE.out) (fun q h => nomatch h)).after (Keeps.of_grown hg6) (fun q h => by have := hin q h; omega))
      have HE9 := Lib.hid (HS1.out _ _ _ (HS.out _ HE.out) (Keeps.of_grown hg6) (fun h => by have := HM.out.range _ (own_inL HM.out.ow _ h); have := hfm _ (own_inL HM.out.ow _ h); omega) (by have := HE.out.size; omega))
      have hz9 : N2 ≤ Y.heap.size := by have := HE.out.size; have := hg6.size; omega
      have hgy : gm < Y.heap.size := by have := HE.out.size; have := hg6.size; omega
      have BG := Lib.hid ((BGr.out.below HE.out).of_block ((Keeps.of_grown hg6).block _ (BGr.out.below HE.out).lt (fun h => by have := hin _ h; omega)))
      clear ho6 hn6 hs6 hg6 hin
      refine hK.out _ _ (by exact HE9.out) (fun hHeld => ?_)
      clear hK K
      (try simp only [LY9])
      refine wpAnyH_take (i := 12) (oi := ?_) (v := ?_) ?_ ?_ ?_ ?_ ?_ ?_ (by exact hHeld) ?_
      rotate_left 2
      ·(simp only [LX9]; try rfl)
      ·kernel_rfl
      ·kernel_rfl
      ·kernel_rfl
      ·exact fun _ _ _ h => h
      ·refine Or.inl ⟨by rfl, ?_⟩
       (intro V hSV; (try dsimp only at hSV); obtain ⟨q0, q1, q2, q3, q4⟩ := hSV; go_simp; try with_reducible rfl)
      (try simp only [LY9])
      refine wpAnyH_ready (rs := [13]) (by kernel_rfl) (by simp) ?_
      refine AllReadyH.cons (o := ?_) ?_ (fun K hK => ?_) AllReadyH.nil
      rotate_left 1
      ·(simp only [LX9]; try rfl)
      have ql := BG.out.cell 4
      have qf := BG.out.frozen 4
      have hke := (Keeps.refl [gD] Y).set (List.mem_singleton.2 rfl) 4 (.slice A6 (k + 1) c6)
      have HX6 := Lib.hid (HX6.out.keeps hke (fun q hq h => by have := HX6.out.lo q hq; simp at h; omega))
      have HL9 := Lib.hid (HL9.out.keeps hke (fun q hq h => by have := HL9.out.lo q hq; simp at h; omega))
      have HKp := Lib.hid (HKp.out.trans hke)
      have HE9 := Lib.hid (HS1.out _ _ _ HE9.out hke (fun h => by simp at h; omega) hgy)
      have hz9 := Nat.le_trans hz9 hke.size
      have BG := Lib.hid (show Blk _ gD #[.slice A1 d.start.length c1, .slice A2 d.text.length c2, .slice AL d.log.length cL, .int .i64 d.clock, .slice A6 (k + 1) c6, .slice A3 d.lea.length c3] 36 from BG.out.set 4 (.slice A6 (k + 1) c6))
      clear hke
      go_simp
      clear ql qf
      generalize Y.setCell ⟨gD, 4, none⟩ (.slice A6 (k + 1) c6) = Y at HX6 HL9 hz9 HKp HE9 BG ⊢
      refine hK.out _ _ (by exact HE9.out) (fun hHeld => ?_)
      clear hK K
      (try simp only [LY9])
      refine wpAnyH_done (by kernel_rfl) ?_ _
      go_wp2
      go_roundw
      case rel => exact ⟨k + 1, A6, c6, f6, by omega, by go_num, HX6, HL9, HKp, BG, hz9⟩
      case measure => simp [intOf]; omega
     ·have e : k = d.mem.length := by omega
      subst e
      have p4 := BXr.out.cell 4
      have h9 := HM.out
      rw [List.take_length] at h9
      have HM := Lib.hid h9
      have RXr := Lib.hid (RX.out.of_block (HK.out.block _ RX.out.lt (by simp; omega)))
      have HX := Lib.hid (HO1.out.keeps HK.out (fun q hq h => by have := HSP.out.ad q hq; simp [Itm.blk] at h this; omega))
      have HY := Lib.hid (HO2.out.keeps HK.out (fun q hq h => by have := HSP.out.bd q hq; simp [Itm.blk] at h this; omega))
      have HZ := Lib.hid (HO3.out.heap (fun q hq => HK.out.block q (World.ownsRow.lt HO3.out.row q (by simpa using hq)).2 (fun h => by have := HSP.out.cd q hq; simp [Itm.blk] at h this; omega)))
      have q0 := BGr.out.cell 0
      have r0 := RXr.out.cell 0
      have f0 := RXr.out.frozen 0
      have q1 := BGr.out.cell 1
      have r1 := RXr.out.cell 1
      have f1 := RXr.out.frozen 1
      have q2 := BGr.out.cell 2
      have r2 := RXr.out.cell 2
      have f2 := RXr.out.frozen 2
      have q3 := BGr.out.cell 3
      have r3 := RXr.out.cell 3
      have f3 := RXr.out.frozen 3
      have q4 := BGr.out.cell 4
      have r4 := RXr.out.cell 4
      have f4 := RXr.out.frozen 4
      have q5 := BGr.out.cell 5
      have r5 := RXr.out.cell 5
      have f5 := RXr.out.frozen 5
      have hke := ((((((Keeps.refl [w.heap.size + 1] wr).set (List.mem_singleton.2 rfl) 0 (.slice A1 d.start.length c1)).set (List.mem_singleton.2 rfl) 1 (.slice A2 d.text.length c2)).set (List.mem_singleton.2 rfl) 2 (.slice AL d.log.length cL)).set (List.mem_singleton.2 rfl) 3 (.int .i64 d.clock)).set (List.mem_singleton.2 rfl) 4 (.slice AM d.mem.length cM)).set (List.mem_singleton.2 rfl) 5 (.slice A3 d.lea.length c3)
      have r1 := HO1.out.range
      have r2 := HO2.out.range
      have r3 : ∀ q ∈ (Value.slice A3 d.lea.length c3).ownBlock.toList, 0 ≤ q ∧ q < wc.heap.size := fun q hq => ⟨Nat.zero_le _, (World.ownsRow.lt HO3.out.row q (by simpa using hq)).2⟩
      have g1 := HSP.out.g.1
      have g2 := HSP.out.g.2.1
      have g3 := HSP.out.g.2.2.1
      have HX := Lib.hid (HX.out.keeps hke (fun q hq h => by have := g1 q hq; simp at h; omega))
      have HY := Lib.hid (HY.out.keeps hke (fun q hq h => by have := g2 q hq; simp at h; omega))
      have HZ := Lib.hid (HZ.out.heap (fun q hq => hke.block q (by have := (r3 q hq).2; omega) (fun h => by have := g3 q hq; simp at h; omega)))
      have HM := Lib.hid (HM.out.keeps hke (fun q hq h => by have := HM.out.lo q hq; simp at h; omega))
      have HL := Lib.hid (HL.out.keeps hke (fun q hq h => by have := HL.out.lo q hq; simp at h; omega))
      have HF := Lib.hid (HBr.out.trans (hke.below (B := w.heap.size) HBr.out.size (fun q h => by simp at h; omega)))
      have hne : ((Value.slice A3 d.lea.length c3).ownBlock.toList).Nodup := by cases (Value.slice A3 d.lea.length c3).ownBlock <;> simp
      have hfp := fp5 (N0 := w.heap.size) HX.out.fp.1 HY.out.fp.1 HL.out.nd HM.out.nd hne HSP.out.ab HSP.out.ac HSP.out.bc (fun q hq => ⟨by have := g1 q hq; omega, (r1 q hq).2⟩) (fun q hq => ⟨by have := g2 q hq; omega, (r2 q hq).2⟩) (fun q hq => ⟨by have := g3 q hq; omega, (r3 q hq).2⟩) HLN.out HM.out.lo hzN1 (by omega)
      have HFP := Lib.hid hfp
      clear hke r1 r2 r3 g1 g2 g3 h9 hfp
      have r0 := RXr.out.cell 0
      have r1 := RXr.out.cell 1
      have r2 := RXr.out.cell 2
      have r3 := RXr.out.cell 3
      go_wp2
      refine bodyPost_ret (v := .agg #[.slice A1 d.start.length c1, .slice A2 d.text.length c2, .slice AL d.log.length cL, .int .i64 d.clock, .slice AM d.mem.length cM, .slice A3 d.lea.length c3]) (by simp [results, Tryz.results49, go_sem, q0, q1, q2, q3, q4, q5, r0, r1, r2, r3, r4, r5]) rfl ?_
      obtain ⟨A9, c9, e9, hw9⟩ := HZ.out.owL
      simp only [Value.slice.injEq, true_and] at e9
      obtain ⟨rfl, rfl⟩ := e9
      exact ⟨⟨A1, c1, A2, c2, AL, cL, AM, cM, A3, c3⟩, _, _, fl, fm, _, rfl, ⟨HX.out.ow, HY.out.ow, HL.out.ow, HM.out.ow, hw9.ow, HCK.out, HFP.out.1, HFP.out.2⟩, HF.out⟩
end Go.Proofs.YtaekanhjkpoifaaGreatDoor
