/-
 Chapter 8, slices.Delete of one edit: contract. Own work.
 Chapter 8, the list of edits that lies in a variable: count, remove, add: contracts. Own work.
 Chapter 8, StackOk in the program and in the model: contracts. Own work.
 Chapter 8, newEditStack, top, l08Edit, StackTop in the program and in the model: contracts. Own work.
 Chapter 8, l08Side and StackTop in the model: contracts. Own work.
 Chapter 8, push and pop: contracts. Own work.
-/
import Derived.Test.YtaekanhjkpoifaaGreatDoorRC07
import Derived.Laws.CopyRow
import Derived.Lib.SliceRun
import Derived.Laws.AppendOwn
import Derived.Test.YtaekanhjkpoifaaGreatDoorRp3
import Derived.Test.YtaekanhjkpoifaaGreatDoorRp1
import Derived.Test.YtaekanhjkpoifaaGreatDoorRp4
namespace Go.Proofs.YtaekanhjkpoifaaGreatDoor
open Go.RowKit P
set_option linter.unusedVariables false
set_option linter.unusedSimpArgs false
set_option maxRecDepth 100000

theorem step_run_appE {w : World} {ops : Array Oper} {o : Oper} {a : Act} {K : Act → World → Prop} {Q : Exit → Act → World → Prop} {X : Prop} (hgd : o.guard = none) (s x : Operand)
  (ho : o.op = .call { callee := .builtin .append, args := #[s, x], argTypes := #[29, 29] })
  (v y : Value) (hs : a.eval s = v) (hx : a.eval x = y) {v' : Value} {w' : World} (hrun : (Builtin.append_ #[29, 29] o.type #[v, y]).run Tryz.prog w = .ok v' w') (h : K (a.put o.dst v') w') :
  if Region.wanted o (yielded ops a.tmps) = true then Oper.wp Tryz.prog o a w K Q else X := by
 have hw : Region.wanted o (yielded ops a.tmps) = true := by simp [Region.wanted, hgd]
 rw [if_pos hw]
 unfold Oper.wp execOp
 simp only [ho, resolve, invoke, builtin, Sem.run_bind, Sem.run_pure, Result.andThen_ok, List.map_toArray, List.map_cons, List.map_nil, hs, hx, hrun]
 exact h

end Go.Proofs.YtaekanhjkpoifaaGreatDoor

namespace Go.Proofs.YtaekanhjkpoifaaGreatDoor
open Go.RowKit P
set_option linter.unusedVariables false
set_option linter.unusedSimpArgs false
set_option maxRecDepth 100000

/-- The variable at lb holds the list es, which lies in the blocks fp. -/
structure Lb (w : World) (B lb : Nat) (v : Value) (es : List Ed) (fp : List Nat) : Prop where
 hd : Blk w lb #[v] 114
 ow : Lay.edits.ow w [v] es fp
 nd : fp.Nodup
 ne : ∀ k ∈ fp, k ≠ lb
 lo : ∀ k ∈ fp, B ≤ k
 hB : B ≤ lb
theorem Lb.below {w w' : World} {B lb : Nat} {v : Value} {es : List Ed} {fp : List Nat} (h : Lb w B lb v es fp) (b : Below w.heap.size w w') : Lb w' B lb v es fp := ⟨h.hd.below b, Lay.edits.owBelow h.ow b, h.nd, h.ne, h.lo, h.hB⟩
theorem Lb.keeps {w w' : World} {B lb : Nat} {v : Value} {es : List Ed} {fp fq : List Nat} (h : Lb w B lb v es fp) (hk : Keeps fq w w') (hl : lb ∉ fq) (hd : ∀ k ∈ fp, k ∉ fq) : Lb w' B lb v es fp :=
 ⟨h.hd.of_block (hk.block lb h.hd.lt hl), Lay.edits.keeps h.ow hk hd, h.nd, h.ne, h.lo, h.hB⟩
theorem Lb.lt {w : World} {B lb : Nat} {v : Value} {es : List Ed} {fp : List Nat} (h : Lb w B lb v es fp) : ∀ k ∈ fp, k < w.heap.size := fun k hk => Lay.edits.lt h.ow k hk
theorem Lb.form {w : World} {B lb : Nat} {v : Value} {es : List Ed} {fp : List Nat} (h : Lb w B lb v es fp) : ∃ A c, v = .slice A es.length c ∧ OwE w B A es c fp := by
 obtain ⟨A, c, e, _, _, _⟩ := Lay.edits.read h.ow
 simp only [List.cons.injEq, and_true] at e
 subst e
 exact ⟨A, c, rfl, h.ow, h.nd, h.lo⟩
theorem own_in {w : World} {v : Value} {es : List Ed} {fp : List Nat} (h : Lay.edits.ow w [v] es fp) : ∀ k ∈ v.ownBlock.toList, k ∈ fp := by
 obtain ⟨els, _, _, _, hfp⟩ := ow_one h
 intro k hk
 rw [hfp]
 exact List.mem_append.2 (.inl hk)

theorem step_app_E {w : World} {ops : Array Oper} {o : Oper} {a : Act} {K : Act → World → Prop} {Q : Exit → Act → World → Prop} {X : Prop} (hgd : o.guard = none) (s x : Operand)
  (ho : o.op = .call { callee := .builtin .append, args := #[s, x], argTypes := #[29, 29] })
  (v : Value) (es : List Ed) (fp : List Nat) (e : Ed) (fx : List Nat) (us : List Value) (ad : Addr) (c : Nat) (hs : a.eval s = v) (hx : a.eval x = .slice (some ad) 1 c)
  (hown : Lay.edits.ow w [v] es fp) (hn : fp.Nodup) (hxe : Lay.edit.ow w us e fx) (hnx : fx.Nodup) (B : Nat) (hB : ∀ k ∈ fp, k < B) (hB2 : ∀ k ∈ fx, B ≤ k) (hc : ∀ j u, us[j]? = some u → w.cell? (ad.add j) = some u) (hlen : es.length ≤ 1000000)
  (h : ∀ v' w' fp', Lay.edits.ow w' [v'] (es ++ [e]) fp' → fp'.Nodup → (∀ k ∈ fp', k ∈ fp ∨ k ∈ fx ∨ k = w.heap.size) → w.grownBy w' v.ownBlock → K (a.put o.dst v') w') :
  if Region.wanted o (yielded ops a.tmps) = true then Oper.wp Tryz.prog o a w K Q else X := by
 obtain ⟨v', w', fp', hrun, h2, h3, h4, h5⟩ := run_app_one (P := Tryz.prog) (E := Lay.edit) 29 o.type Tryz.underlying29 Tryz.infoEd rfl rfl (by decide) hown hn hxe hnx B hB hB2 ad c hc hlen (by decide)
 exact step_run_appE hgd s x ho v _ hs hx hrun (h v' w' fp' h2 h3 h4 h5)

set_option maxHeartbeats 16000000 in
theorem add_any (B lb : Nat) (v : Value) (es : List Ed) (fp : List Nat) (a m : Int) (P : Option Addr) (p : List UInt8) (d : Nat) (w : World) (hl : es.length ≤ 1000) (ha : -9223372036854775808 ≤ a ∧ a ≤ 9223372036854775807) (hm : -9223372036854775808 ≤ m ∧ m ≤ 9223372036854775807) (hp4 : p.length ≤ 1000) (hP : Bs w P p) (h : Lb w B lb v es fp) :
  Calls Tryz.prog 109 #[.pointer (some ⟨lb, 0, none⟩), .agg #[.int .i64 a, .int .i64 m, .slice P p.length d]] w fun e w' => e = .returned (.tuple #[]) ∧ ∃ v' fp', Lb w' B lb v' (es ++ [(a, m, p)]) fp' ∧ (∀ k ∈ fp', k ∈ fp ∨ w.heap.size ≤ k) ∧ Keeps (lb :: fp) w w' := by
 have hal := (Below.refl w.heap.size w).alloc (Nat.le_refl _) (.cells #[.int .i64 a, .int .i64 m, .slice P p.length d] 71)
 have bE := Blk.new w #[.int .i64 a, .int .i64 m, .slice P p.length d] 71
 have q2 := bE.cell 2
 have hBl := h.hB
 have hlw := h.hd.lt
 have HFP0 := Lib.hid h.lt
 have HNE := Lib.hid h.ne
 have HLO := Lib.hid h.lo
 have HND := Lib.hid h.nd
 have HOB := Lib.hid (own_in h.ow)
 have HL1 := Lib.hid (h.below hal)
 have HP1 := Lib.hid (hP.below hal)
 have HFP := Lib.hid (show ∀ k ∈ fp, k < w.heap.size + 1 from fun k hk => by have := h.lt k hk; omega)
 clear h hP
 go_enter Tryz.func109, Tryz.ntmps109
 go_wp2_with fail
 refine (bytesClone_opt P p p.length d _ rfl (by omega) (by exact HP1.out)).mono ?_
 rintro e w2 ⟨v3, rfl, hown3, hb2⟩
 obtain ⟨A3, c3, rfl, _, _, _⟩ := hown3.form
 have bE2 := bE.below hb2
 have hz1 := hb2.size
 have f2 := bE2.frozen 2
 have q2' := bE2.cell 2
 have HE3 := Lib.hid (show Blk (w2.setCell ⟨w.heap.size, 2, none⟩ (.slice A3 p.length c3)) w.heap.size #[.int .i64 a, .int .i64 m, .slice A3 p.length c3] 71 by simpa using bE2.set 2 (.slice A3 p.length c3))
 have hk3 := (Keeps.refl [w.heap.size] w2).set (List.mem_singleton.2 rfl) 2 (.slice A3 p.length c3)
 have HL3 := Lib.hid ((HL1.out.below hb2).keeps hk3 (by simp; omega) (fun k hk h => by have := HFP0.out k hk; simp at h; omega))
 have HB3 := Lib.hid ((below_then hal hb2).setCell (p := ⟨w.heap.size, 2, none⟩) (Nat.le_refl _) (.slice A3 p.length c3))
 have hown4 := hown3.setBelow (a := ⟨w.heap.size, 2, none⟩) (by simp) (.slice A3 p.length c3)
 have HXE := Lib.hid (own_edit ha hm hown4)
 have hfxr := hown3.fp
 have hfxn := hfxr.1
 have hfx9 : ∀ k ∈ (Value.slice A3 p.length c3).ownBlock.toList, w.heap.size + 1 ≤ k := fun k hk => by have := hfxr.2 k hk; simpa using this
 clear bE bE2 hown3 hown4 hb2 hk3 hal hfxr q2
 go_upto_region 2 with fail
 generalize w2.setCell ⟨w.heap.size, 2, none⟩ (.slice A3 p.length c3) = w3 at *
 clear q2' f2
 have HD3 := Lib.hid HL3.out.hd
 have HOW3 := Lib.hid HL3.out.ow
 have hb5 : Below w3.heap.size w3 (w3.drew.alloc (.cells #[.int .i64 a, .int .i64 m, .slice A3 p.length c3] 71)) := (Below.refl w3.heap.size w3).drew.alloc (by simp) _
 have c4 : w3.cell? ⟨lb, 0, none⟩ = some v := HD3.out.cell 0
 have hzw3 := HB3.out.size
 clear HL3 HL1
 refine wp_region_held_drew (S := (fun V => V.cell? ⟨w.heap.size, 0, none⟩ = some (.int .i64 a) ∧ V.cell? ⟨w.heap.size, 1, none⟩ = some (.int .i64 m) ∧ V.cell? ⟨w.heap.size, 2, none⟩ = some (.slice A3 p.length c3))) (by kernel_rfl) (by exact ⟨((show Blk _ w.heap.size #[.int .i64 a, .int .i64 m, .slice A3 p.length c3] 71 from HE3.out)).cell 0, ((show Blk _ w.heap.size #[.int .i64 a, .int .i64 m, .slice A3 p.length c3] 71 from HE3.out)).cell 1, ((show Blk _ w.heap.size #[.int .i64 a, .int .i64 m, .slice A3 p.length c3] 71 from HE3.out)).cell 2⟩) (fun hHeld => ?_)
 refine wpAnyH_take (i := 0) (oi := ?_) (v := ?_) ?_ ?_ ?_ ?_ ?_ ?_ (by exact hHeld) ?_
 rotate_left 2
 ·(simp only [List.getElem?_toArray, List.getElem?_cons_zero]; try rfl)
 ·kernel_rfl
 ·kernel_rfl
 ·kernel_rfl
 ·exact fun _ _ _ h => h
 ·refine Or.inl ⟨by rfl, ?_⟩
  (intro V hSV; (try dsimp only at hSV); obtain ⟨q0, q1, q2⟩ := hSV; go_simp; try with_reducible rfl)
 (try simp only [LY9])
 refine wpAnyH_take (i := 1) (oi := ?_) (v := ?_) ?_ ?_ ?_ ?_ ?_ ?_ (by exact hHeld) ?_
 rotate_left 2
 ·(simp only [LX9]; try rfl)
 ·kernel_rfl
 ·kernel_rfl
 ·kernel_rfl
 ·exact fun _ _ _ h => h
 ·refine Or.inl ⟨by rfl, ?_⟩
  (intro V hSV; (try dsimp only at hSV); obtain ⟨q0, q1, q2⟩ := hSV; go_simp; try with_reducible rfl)
 (try simp only [LY9])
 refine wpAnyH_take (i := 2) (oi := ?_) (v := ?_) ?_ ?_ ?_ ?_ ?_ ?_ (by exact hHeld) ?_
 rotate_left 2
 ·(simp only [LX9]; try rfl)
 ·kernel_rfl
 ·kernel_rfl
 ·kernel_rfl
 ·exact fun _ _ _ h => h
 ·refine Or.inl ⟨by rfl, ?_⟩
  (intro V hSV; (try dsimp only at hSV); obtain ⟨q0, q1, q2⟩ := hSV; go_simp; try with_reducible rfl)
 (try simp only [LY9])
 refine wpAnyH_take (i := 3) (oi := ?_) (v := ?_) ?_ ?_ ?_ ?_ ?_ ?_ (by exact hHeld) ?_
 rotate_left 2
 ·(simp only [LX9]; try rfl)
 ·kernel_rfl
 ·kernel_rfl
 ·kernel_rfl
 ·exact fun _ _ _ h => h
 ·refine Or.inl ⟨by rfl, ?_⟩
  (intro V hSV; (try dsimp only at hSV); obtain ⟨q0, q1, q2⟩ := hSV; go_simp; try with_reducible rfl)
 (try simp only [LY9])
 refine wpAnyH_take (i := 5) (oi := ?_) (v := ?_) ?_ ?_ ?_ ?_ ?_ ?_ (by exact hHeld) ?_
 rotate_left 2
 ·(simp only [LX9]; try rfl)
 ·kernel_rfl
 ·kernel_rfl
 ·kernel_rfl
 ·exact fun _ _ _ h => h
 ·refine Or.inl ⟨by rfl, ?_⟩
  (intro V hSV; (try dsimp only at hSV); obtain ⟨q0, q1, q2⟩ := hSV; go_simp; try with_reducible rfl)
 (try simp only [LY9])
 refine wpAnyH_ready (rs := [4, 6]) (by kernel_rfl) (by simp) ?_
 refine AllReadyH.cons (o := ?_) ?_ (fun K hK => ?_) ?_
 rotate_left 1
 ·(simp only [LX9]; try rfl)
 ·go_simp
  refine hK.out _ _ (by exact ⟨((show Blk _ w.heap.size #[.int .i64 a, .int .i64 m, .slice A3 p.length c3] 71 from HE3.out)).cell 0, ((show Blk _ w.heap.size #[.int .i64 a, .int .i64 m, .slice A3 p.length c3] 71 from HE3.out)).cell 1, ((show Blk _ w.heap.size #[.int .i64 a, .int .i64 m, .slice A3 p.length c3] 71 from HE3.out)).cell 2⟩) (fun hHeld => ?_)
  clear hK K
  (try simp only [LY9])
  refine wpAnyH_ready (rs := [6]) (by kernel_rfl) (by simp) ?_
  refine AllReadyH.cons (o := ?_) ?_ (fun K hK => ?_) AllReadyH.nil
  rotate_left 1
  ·(simp only [LX9]; try rfl)
  go_simp
  refine hK.out _ _ (by exact ⟨((show Blk _ w.heap.size #[.int .i64 a, .int .i64 m, .slice A3 p.length c3] 71 from HE3.out.below hb5)).cell 0, ((show Blk _ w.heap.size #[.int .i64 a, .int .i64 m, .slice A3 p.length c3] 71 from HE3.out.below hb5)).cell 1, ((show Blk _ w.heap.size #[.int .i64 a, .int .i64 m, .slice A3 p.length c3] 71 from HE3.out.below hb5)).cell 2⟩) (fun hHeld => ?_)
  clear hK K
  (try simp only [LY9])
  refine wpAnyH_ready (rs := [7]) (by kernel_rfl) (by simp) ?_
  refine AllReadyH.cons (o := ?_) ?_ (fun K hK => ?_) AllReadyH.nil
  rotate_left 1
  ·(simp only [LX9]; try rfl)
  refine step_app_E rfl (.tmp 12) (.tmp 14) rfl v es fp (a, m, p) (Value.slice A3 p.length c3).ownBlock.toList [.int .i64 a, .int .i64 m, .slice A3 p.length c3] ⟨w3.heap.size, 0, none⟩ 1 rfl rfl (by exact Lay.edits.owBelow HOW3.out hb5) HND.out (by exact Lay.edit.owBelow HXE.out hb5) hfxn (w.heap.size + 1) HFP.out hfx9 (by exact cell_new3) (by omega) ?_
  intro v6 w6 fp6 ho6 hn6 hs6 hg6
  obtain ⟨n6, A6, c6, rfl⟩ : ∃ n A c, v6 = .slice A n c := by
   obtain ⟨A6, c6, e6, _, _, _⟩ := Lay.edits.read ho6
   simp only [List.cons.injEq, and_true] at e6
   exact ⟨_, _, _, e6⟩
  have hg6 : (w3.drew.alloc (.cells #[.int .i64 a, .int .i64 m, .slice A3 p.length c3] 71)).grownBy w6 v.ownBlock := ⟨hg6.os, hg6.tape, hg6.output, hg6.size, hg6.block⟩
  have hk6 := Keeps.of_grown hg6
  have HD6 := Lib.hid (show Blk w6 lb #[v] 114 from ((HD3.out.below hb5)).of_block (hk6.block lb (HD3.out.below hb5).lt (fun h => HNE.out lb (HOB.out lb h) rfl)))
  have HE6 := Lib.hid (show Blk w6 w.heap.size #[.int .i64 a, .int .i64 m, .slice A3 p.length c3] 71 from ((HE3.out.below hb5)).of_block (hk6.block _ (HE3.out.below hb5).lt (fun h => by have := HFP0.out _ (HOB.out _ h); omega)))
  have HO6 := Lib.hid ho6
  have HN6 := Lib.hid hn6
  have HS6 := Lib.hid hs6
  have HK6 := Lib.hid hk6
  have f6 := HD6.out.frozen 0
  have cc6 := HD6.out.cell 0
  have hzz6 := hk6.size
  clear ho6 hn6 hs6 hg6 hk6
  (try go_simp)
  refine hK.out _ _ (by exact ⟨(HE6.out).cell 0, (HE6.out).cell 1, (HE6.out).cell 2⟩) (fun hHeld => ?_)
  clear hK K
  (try simp only [LY9])
  refine wpAnyH_take (i := 8) (oi := ?_) (v := ?_) ?_ ?_ ?_ ?_ ?_ ?_ (by exact hHeld) ?_
  rotate_left 2
  ·(simp only [LX9]; try rfl)
  ·kernel_rfl
  ·kernel_rfl
  ·kernel_rfl
  ·exact fun _ _ _ h => h
  ·refine Or.inl ⟨by rfl, ?_⟩
   (intro V hSV; (try dsimp only at hSV); obtain ⟨q0, q1, q2⟩ := hSV; go_simp; try with_reducible rfl)
  (try simp only [LY9])
  refine wpAnyH_take (i := 9) (oi := ?_) (v := ?_) ?_ ?_ ?_ ?_ ?_ ?_ (by exact hHeld) ?_
  rotate_left 2
  ·(simp only [LX9]; try rfl)
  ·kernel_rfl
  ·kernel_rfl
  ·kernel_rfl
  ·exact fun _ _ _ h => h
  ·refine Or.inl ⟨by rfl, ?_⟩
   (intro V hSV; (try dsimp only at hSV); obtain ⟨q0, q1, q2⟩ := hSV; go_simp; try with_reducible rfl)
  (try simp only [LY9])
  refine wpAnyH_ready (rs := [10]) (by kernel_rfl) (by simp) ?_
  refine AllReadyH.cons (o := ?_) ?_ (fun K hK => ?_) AllReadyH.nil
  rotate_left 1
  ·(simp only [LX9]; try rfl)
  go_simp
  refine hK.out _ _ (by exact ⟨((show Blk (w6.setCell ⟨lb, 0, none⟩ (.slice A6 n6 c6)) w.heap.size #[.int .i64 a, .int .i64 m, .slice A3 p.length c3] 71 from HE6.out.setOther (by show w.heap.size ≠ lb; omega) (.slice A6 n6 c6))).cell 0, ((show Blk (w6.setCell ⟨lb, 0, none⟩ (.slice A6 n6 c6)) w.heap.size #[.int .i64 a, .int .i64 m, .slice A3 p.length c3] 71 from HE6.out.setOther (by show w.heap.size ≠ lb; omega) (.slice A6 n6 c6))).cell 1, ((show Blk (w6.setCell ⟨lb, 0, none⟩ (.slice A6 n6 c6)) w.heap.size #[.int .i64 a, .int .i64 m, .slice A3 p.length c3] 71 from HE6.out.setOther (by show w.heap.size ≠ lb; omega) (.slice A6 n6 c6))).cell 2⟩) (fun hHeld => ?_)
  clear hK K
  (try simp only [LY9])
  refine wpAnyH_done (by kernel_rfl) ?_ _
  clear hHeld
  have hput := (((Keeps.of_below (fp := lb :: fp) (HB3.out.trans (hb5.mono (by omega)))).trans (HK6.out.mono (fun k hk => List.mem_cons_of_mem _ (HOB.out k hk)))).set (List.mem_cons_self) 0 (.slice A6 n6 c6))
  have hne6 : ∀ k ∈ fp6, k ≠ lb := fun k hk e => by
   have hz9 := HB3.out.size
   rcases HS6.out k hk with h | h | h
   ·exact HNE.out k h e
   ·have := hfx9 k h; omega
   ·simp at h; omega
  have HL := Lib.hid (show Lb (w6.setCell ⟨lb, 0, none⟩ (.slice A6 n6 c6)) B lb (.slice A6 n6 c6) (es ++ [(a, m, p)]) fp6 from ⟨by simpa using HD6.out.set 0 (.slice A6 n6 c6), Lay.edits.keeps HO6.out ((Keeps.refl [lb] w6).set (List.mem_singleton.2 rfl) 0 (.slice A6 n6 c6)) (fun k hk h => hne6 k hk (by simpa using h)), HN6.out, hne6, fun k hk => by
    have hz9 := HB3.out.size
    rcases HS6.out k hk with h | h | h
    ·exact HLO.out k h
    ·have := hfx9 k h; omega
    ·simp at h; omega, hBl⟩)
  have hsub : ∀ k ∈ fp6, k ∈ fp ∨ w.heap.size ≤ k := fun k hk => by
   have hz9 := HB3.out.size
   rcases HS6.out k hk with h | h | h
   ·exact .inl h
   ·have := hfx9 k h; right; omega
   ·simp at h; right; omega
  go_wp2
  go_end0
  exact ⟨rfl, _, _, HL.out, hsub, hput⟩
 refine AllReadyH.cons (o := ?_) ?_ (fun K hK => ?_) AllReadyH.nil
 rotate_left 1
 ·(simp only [LX9]; try rfl)
 go_simp
 refine hK.out _ _ (by exact ⟨((show Blk _ w.heap.size #[.int .i64 a, .int .i64 m, .slice A3 p.length c3] 71 from HE3.out.below hb5)).cell 0, ((show Blk _ w.heap.size #[.int .i64 a, .int .i64 m, .slice A3 p.length c3] 71 from HE3.out.below hb5)).cell 1, ((show Blk _ w.heap.size #[.int .i64 a, .int .i64 m, .slice A3 p.length c3] 71 from HE3.out.below hb5)).cell 2⟩) (fun hHeld => ?_)
 clear hK K
 (try simp only [LY9])
 refine wpAnyH_ready (rs := [4]) (by kernel_rfl) (by simp) ?_
 refine AllReadyH.cons (o := ?_) ?_ (fun K hK => ?_) AllReadyH.nil
 rotate_left 1
 ·(simp only [LX9]; try rfl)
 have c5 : (w3.alloc (.cells #[.int .i64 a, .int .i64 m, .slice A3 p.length c3] 71)).cell? ⟨lb, 0, none⟩ = some v := (HD3.out.alloc _).cell 0
 go_simp
 clear c5
 refine hK.out _ _ (by exact ⟨((show Blk _ w.heap.size #[.int .i64 a, .int .i64 m, .slice A3 p.length c3] 71 from HE3.out.below hb5)).cell 0, ((show Blk _ w.heap.size #[.int .i64 a, .int .i64 m, .slice A3 p.length c3] 71 from HE3.out.below hb5)).cell 1, ((show Blk _ w.heap.size #[.int .i64 a, .int .i64 m, .slice A3 p.length c3] 71 from HE3.out.below hb5)).cell 2⟩) (fun hHeld => ?_)
 clear hK K
 (try simp only [LY9])
 refine wpAnyH_ready (rs := [7]) (by kernel_rfl) (by simp) ?_
 refine AllReadyH.cons (o := ?_) ?_ (fun K hK => ?_) AllReadyH.nil
 rotate_left 1
 ·(simp only [LX9]; try rfl)
 refine step_app_E rfl (.tmp 12) (.tmp 14) rfl v es fp (a, m, p) (Value.slice A3 p.length c3).ownBlock.toList [.int .i64 a, .int .i64 m, .slice A3 p.length c3] ⟨w3.heap.size, 0, none⟩ 1 rfl rfl (by exact Lay.edits.owBelow HOW3.out hb5) HND.out (by exact Lay.edit.owBelow HXE.out hb5) hfxn (w.heap.size + 1) HFP.out hfx9 (by exact cell_new3) (by omega) ?_
 intro v6 w6 fp6 ho6 hn6 hs6 hg6
 obtain ⟨n6, A6, c6, rfl⟩ : ∃ n A c, v6 = .slice A n c := by
  obtain ⟨A6, c6, e6, _, _, _⟩ := Lay.edits.read ho6
  simp only [List.cons.injEq, and_true] at e6
  exact ⟨_, _, _, e6⟩
 have hg6 : (w3.drew.alloc (.cells #[.int .i64 a, .int .i64 m, .slice A3 p.length c3] 71)).grownBy w6 v.ownBlock := ⟨hg6.os, hg6.tape, hg6.output, hg6.size, hg6.block⟩
 have hk6 := Keeps.of_grown hg6
 have HD6 := Lib.hid (show Blk w6 lb #[v] 114 from ((HD3.out.below hb5)).of_block (hk6.block lb (HD3.out.below hb5).lt (fun h => HNE.out lb (HOB.out lb h) rfl)))
 have HE6 := Lib.hid (show Blk w6 w.heap.size #[.int .i64 a, .int .i64 m, .slice A3 p.length c3] 71 from ((HE3.out.below hb5)).of_block (hk6.block _ (HE3.out.below hb5).lt (fun h => by have := HFP0.out _ (HOB.out _ h); omega)))
 have HO6 := Lib.hid ho6
 have HN6 := Lib.hid hn6
 have HS6 := Lib.hid hs6
 have HK6 := Lib.hid hk6
 have f6 := HD6.out.frozen 0
 have cc6 := HD6.out.cell 0
 have hzz6 := hk6.size
 clear ho6 hn6 hs6 hg6 hk6
 (try go_simp)
 refine hK.out _ _ (by exact ⟨(HE6.out).cell 0, (HE6.out).cell 1, (HE6.out).cell 2⟩) (fun hHeld => ?_)
 clear hK K
 (try simp only [LY9])
 refine wpAnyH_take (i := 8) (oi := ?_) (v := ?_) ?_ ?_ ?_ ?_ ?_ ?_ (by exact hHeld) ?_
 rotate_left 2
 ·(simp only [LX9]; try rfl)
 ·kernel_rfl
 ·kernel_rfl
 ·kernel_rfl
 ·exact fun _ _ _ h => h
 ·refine Or.inl ⟨by rfl, ?_⟩
  (intro V hSV; (try dsimp only at hSV); obtain ⟨q0, q1, q2⟩ := hSV; go_simp; try with_reducible rfl)
 (try simp only [LY9])
 refine wpAnyH_take (i := 9) (oi := ?_) (v := ?_) ?_ ?_ ?_ ?_ ?_ ?_ (by exact hHeld) ?_
 rotate_left 2
 ·(simp only [LX9]; try rfl)
 ·kernel_rfl
 ·kernel_rfl
 ·kernel_rfl
 ·exact fun _ _ _ h => h
 ·refine Or.inl ⟨by rfl, ?_⟩
  (intro V hSV; (try dsimp only at hSV); obtain ⟨q0, q1, q2⟩ := hSV; go_simp; try with_reducible rfl)
 (try simp only [LY9])
 refine wpAnyH_ready (rs := [10]) (by kernel_rfl) (by simp) ?_
 refine AllReadyH.cons (o := ?_) ?_ (fun K hK => ?_) AllReadyH.nil
 rotate_left 1
 ·(simp only [LX9]; try rfl)
 go_simp
 refine hK.out _ _ (by exact ⟨((show Blk (w6.setCell ⟨lb, 0, none⟩ (.slice A6 n6 c6)) w.heap.size #[.int .i64 a, .int .i64 m, .slice A3 p.length c3] 71 from HE6.out.setOther (by show w.heap.size ≠ lb; omega) (.slice A6 n6 c6))).cell 0, ((show Blk (w6.setCell ⟨lb, 0, none⟩ (.slice A6 n6 c6)) w.heap.size #[.int .i64 a, .int .i64 m, .slice A3 p.length c3] 71 from HE6.out.setOther (by show w.heap.size ≠ lb; omega) (.slice A6 n6 c6))).cell 1, ((show Blk (w6.setCell ⟨lb, 0, none⟩ (.slice A6 n6 c6)) w.heap.size #[.int .i64 a, .int .i64 m, .slice A3 p.length c3] 71 from HE6.out.setOther (by show w.heap.size ≠ lb; omega) (.slice A6 n6 c6))).cell 2⟩) (fun hHeld => ?_)
 clear hK K
 (try simp only [LY9])
 refine wpAnyH_done (by kernel_rfl) ?_ _
 clear hHeld
 have hput := (((Keeps.of_below (fp := lb :: fp) (HB3.out.trans (hb5.mono (by omega)))).trans (HK6.out.mono (fun k hk => List.mem_cons_of_mem _ (HOB.out k hk)))).set (List.mem_cons_self) 0 (.slice A6 n6 c6))
 have hne6 : ∀ k ∈ fp6, k ≠ lb := fun k hk e => by
  have hz9 := HB3.out.size
  rcases HS6.out k hk with h | h | h
  ·exact HNE.out k h e
  ·have := hfx9 k h; omega
  ·simp at h; omega
 have HL := Lib.hid (show Lb (w6.setCell ⟨lb, 0, none⟩ (.slice A6 n6 c6)) B lb (.slice A6 n6 c6) (es ++ [(a, m, p)]) fp6 from ⟨by simpa using HD6.out.set 0 (.slice A6 n6 c6), Lay.edits.keeps HO6.out ((Keeps.refl [lb] w6).set (List.mem_singleton.2 rfl) 0 (.slice A6 n6 c6)) (fun k hk h => hne6 k hk (by simpa using h)), HN6.out, hne6, fun k hk => by
   have hz9 := HB3.out.size
   rcases HS6.out k hk with h | h | h
   ·exact HLO.out k h
   ·have := hfx9 k h; omega
   ·simp at h; omega, hBl⟩)
 have hsub : ∀ k ∈ fp6, k ∈ fp ∨ w.heap.size ≤ k := fun k hk => by
  have hz9 := HB3.out.size
  rcases HS6.out k hk with h | h | h
  ·exact .inl h
  ·have := hfx9 k h; right; omega
  ·simp at h; right; omega
 go_wp2
 go_end0
 exact ⟨rfl, _, _, HL.out, hsub, hput⟩
end Go.Proofs.YtaekanhjkpoifaaGreatDoor

namespace Go.Proofs.YtaekanhjkpoifaaGreatDoor
open Go.RowKit P
set_option linter.unusedVariables false
set_option linter.unusedSimpArgs false
set_option maxRecDepth 100000

set_option maxHeartbeats 4000000 in
theorem l08All_any (A : Option Addr) (es : List Ed) (c : Nat) (w : World) (hn9 : es.length ≤ 9223372036854775807) (hE : Es w A es) :
  Calls Tryz.prog 114 #[.slice A es.length c] w fun e w' => e = .returned (.bool (stFit es)) ∧ Below w.heap.size w w' := by
 by_cases hl : es.length ≤ 6
 ·have hg : ¬ (6 : Int) < (es.length : Int) := by omega
  have HYES := Lib.hid (stFit_yes hl)
  go_enter Tryz.func114, Tryz.ntmps114
  go_wp2
  go_loopw [3] (fun i wr => ∃ k : Nat, k ≤ es.length ∧ i = .int .i64 k ∧ Hid ((es.take k).all smallE = true) ∧ Below w.heap.size w wr) (fun i _ => es.length - (intOf i).toNat)
  case atStart => exact ⟨0, Nat.zero_le _, rfl, Lib.hid (by simp), Below.refl _ _⟩
  case round =>
   obtain ⟨k, hk, rfl, HALL, hb⟩ := hrel
   by_cases hlt : k < es.length
   ·have hki0 : (0 : Int) ≤ (k : Int) := by omega
    have hki : (k : Int) < (es.length : Int) := by omega
    obtain ⟨b, off, a, m, B, p, d, rfl, hbl, hek, k0, k1, k2, ha, hm, hpd, hdm, hBp⟩ := (hE.below hb).at_ k hlt
    have hp9 : p.length ≤ 9223372036854775807 := by unfold maxLen at hdm; omega
    have hnx : (es.take (k + 1)).all smallE = ((es.take k).all smallE && edSmall a m p) := by
     rw [List.take_succ_eq_append_getElem hlt, List.all_append, hek]; simp [smallE]
    have hsm : smallE es[k] = edSmall a m p := by rw [hek]; rfl
    have HNX := Lib.hid hnx
    have HSM := Lib.hid hsm
    obtain ⟨q, hq⟩ : ∃ q, edSmall a m p = q := ⟨_, rfl⟩
    have HQ := Lib.hid hq
    clear hnx hsm hek hq
    go_wp2_with fail
    refine (l05Small_any a m B p d _ hp9).mono ?_
    rintro e w1 ⟨rfl, hb1⟩
    rw [HQ.out]
    have hb9 := below_then hb hb1
    clear k0 k1 k2
    cases q
    ·have HN := Lib.hid (stFit_bad hlt (HSM.out.trans HQ.out))
     go_wp2
     go_ret
     exact ⟨ret_bool HN.out.symm, hb9⟩
    ·have HN := Lib.hid (show (es.take (k + 1)).all smallE = true by rw [HNX.out, HALL.out, HQ.out]; rfl)
     go_wp2
     go_roundw
     case rel => exact ⟨k + 1, by omega, by go_num, HN, hb9⟩
     case measure => simp [intOf]; omega
   ·have e : k = es.length := by omega
    have HN := Lib.hid (show stFit es = true by rw [HYES.out]; have h9 := HALL.out; rw [e, List.take_length] at h9; exact h9)
    have hki : ¬ (k : Int) < (es.length : Int) := by omega
    clear e
    go_wp2
    go_ret
    exact ⟨ret_bool HN.out.symm, hb⟩
 ·have hg : (6 : Int) < (es.length : Int) := by omega
  have HN := Lib.hid (stFit_big hl)
  clear hl
  go_enter Tryz.func114, Tryz.ntmps114
  go_wp2
  go_ret
  exact ⟨ret_bool HN.out.symm, Below.refl _ _⟩

set_option maxHeartbeats 4000000 in
theorem notSmall_any (a m : Int) (B : Option Addr) (p : List UInt8) (d : Nat) (w : World) (hp9 : p.length ≤ 9223372036854775807) :
  Calls Tryz.prog 165 #[.agg #[.int .i64 a, .int .i64 m, .slice B p.length d]] w fun e w' => e = .returned (.bool (!edSmall a m p)) ∧ Below w.heap.size w w' := by
 have hal := (Below.refl w.heap.size w).alloc (Nat.le_refl _) (.cells #[.int .i64 a, .int .i64 m, .slice B p.length d] 71)
 have bx := Blk.new w #[.int .i64 a, .int .i64 m, .slice B p.length d] 71
 have p0 := bx.cell 0
 have p1 := bx.cell 1
 have p2 := bx.cell 2
 go_enter Tryz.func165, Tryz.ntmps165
 go_wp2_with fail
 refine (isSmall_any a m B p d _ hp9).mono ?_
 rintro e w1 ⟨rfl, hb1⟩
 have hb9 := below_then hal hb1
 go_wp2
 go_ret
 exact ⟨rfl, hb9⟩

set_option maxHeartbeats 4000000 in
theorem ixSmall_any (A : Option Addr) (es : List Ed) (c : Nat) (w : World) (hn9 : es.length ≤ 6) (hE : Es w A es) :
  Calls Tryz.prog 151 #[.slice A es.length c, .func (.func 165) #[] #[]] w fun e w' => (∃ r : Int, e = .returned (.int .i64 r) ∧ decide (0 ≤ r) = !es.all smallE) ∧ Below w.heap.size w w' := by
 go_enter Tryz.func151, Tryz.ntmps151
 go_wp2
 go_loopw [8] (fun i wr => ∃ k : Nat, k ≤ es.length ∧ i = .int .i64 k ∧ Hid ((es.take k).all smallE = true) ∧ Below w.heap.size w wr) (fun i _ => es.length - (intOf i).toNat)
 case atStart => exact ⟨0, Nat.zero_le _, rfl, Lib.hid (by simp), Below.refl _ _⟩
 case round =>
  obtain ⟨k, hk, rfl, HALL, hb⟩ := hrel
  by_cases hlt : k < es.length
  ·have hki : (k : Int) < (es.length : Int) := by omega
   obtain ⟨b, off, a, m, B, p, d, rfl, hbl, hek, k0, k1, k2, ha, hm, hpd, hdm, hBp⟩ := (hE.below hb).at_ k hlt
   have hp9 : p.length ≤ 9223372036854775807 := by unfold maxLen at hdm; omega
   have hnx : (es.take (k + 1)).all smallE = ((es.take k).all smallE && edSmall a m p) := by
    rw [List.take_succ_eq_append_getElem hlt, List.all_append, hek]; simp [smallE]
   have hal : edSmall a m p = false → es.all smallE = false := fun h => List.all_eq_false.2 ⟨_, List.getElem_mem hlt, by rw [hek]; show ¬ edSmall a m p = true; rw [h]; simp⟩
   have HNX := Lib.hid hnx
   have HAL := Lib.hid hal
   obtain ⟨q, hq⟩ : ∃ q, edSmall a m p = q := ⟨_, rfl⟩
   have HQ := Lib.hid hq
   clear hnx hal hek hq
   go_wp2_with fail
   refine (notSmall_any a m B p d _ hp9).mono ?_
   rintro e w1 ⟨rfl, hb1⟩
   rw [HQ.out]
   have hb9 := below_then hb hb1
   clear k0 k1 k2
   cases q
   ·have HN := Lib.hid (HAL.out HQ.out)
    go_wp2
    go_ret
    exact ⟨⟨_, rfl, by rw [HN.out]; exact decide_eq_true (by omega)⟩, hb9⟩
   ·have HN := Lib.hid (show (es.take (k + 1)).all smallE = true by rw [HNX.out, HALL.out, HQ.out]; rfl)
    go_wp2
    go_roundw
    case rel => exact ⟨k + 1, by omega, by go_num, HN, hb9⟩
    case measure => simp [intOf]; omega
  ·have e : k = es.length := by omega
   have HN := Lib.hid (show es.all smallE = true by have h9 := HALL.out; rw [e, List.take_length] at h9; exact h9)
   clear e
   go_wp2
   go_ret
   exact ⟨⟨_, rfl, by rw [HN.out]; rfl⟩, hb⟩

set_option maxHeartbeats 4000000 in
theorem hasBig_any (A : Option Addr) (es : List Ed) (c : Nat) (w : World) (hn9 : es.length ≤ 6) (hE : Es w A es) :
  Calls Tryz.prog 130 #[.slice A es.length c, .func (.func 165) #[] #[]] w fun e w' => e = .returned (.bool (!es.all smallE)) ∧ Below w.heap.size w w' := by
 have hix := Lib.hid (ixSmall_any A es c w hn9 hE)
 clear hE
 go_enter Tryz.func130, Tryz.ntmps130
 go_wp2_with fail
 refine hix.out.mono ?_
 rintro e w1 ⟨⟨r, rfl, hr⟩, hb1⟩
 have HR := Lib.hid hr
 clear hr
 go_wp2
 go_ret
 exact ⟨ret_bool (by first | exact HR.out | simpa using HR.out), hb1⟩

set_option maxHeartbeats 2000000 in
theorem fitsStack_any (A : Option Addr) (es : List Ed) (c : Nat) (w : World) (hn9 : es.length ≤ 9223372036854775807) (hE : Es w A es) :
  Calls Tryz.prog 149 #[.slice A es.length c] w fun e w' => e = .returned (.bool (stFit es)) ∧ Below w.heap.size w w' := by
 by_cases hl : es.length ≤ 6
 ·have hg : (es.length : Int) ≤ 6 := by omega
  have HYES := Lib.hid (stFit_yes hl)
  go_enter Tryz.func149, Tryz.ntmps149
  go_wp2_with fail
  refine (hasBig_any A es c _ hl hE).mono ?_
  rintro e w1 ⟨rfl, hb1⟩
  obtain ⟨q, hq⟩ : ∃ q, es.all smallE = q := ⟨_, rfl⟩
  rw [hq]
  have HQ := Lib.hid (HYES.out.trans hq)
  clear hq
  cases q
  ·go_wp2
   go_ret
   exact ⟨ret_bool HQ.out.symm, hb1⟩
  ·go_wp2
   go_ret
   exact ⟨ret_bool HQ.out.symm, hb1⟩
 ·have hg : ¬ (es.length : Int) ≤ 6 := by omega
  have HN := Lib.hid (stFit_big hl)
  clear hl
  go_enter Tryz.func149, Tryz.ntmps149
  go_wp2
  go_ret
  exact ⟨ret_bool HN.out.symm, Below.refl _ _⟩

set_option maxHeartbeats 2000000 in
theorem implStackOk_any (A B : Option Addr) (u r : List Ed) (c d : Nat) (w : World) (hu9 : u.length ≤ 9223372036854775807) (hr9 : r.length ≤ 9223372036854775807) (hU : Es w A u) (hR : Es w B r) :
  Calls Tryz.prog 128 #[.agg #[.slice A u.length c, .slice B r.length d]] w fun e w' => e = .returned (.bool (stOk u r)) ∧ Below w.heap.size w w' := by
 have hal := (Below.refl w.heap.size w).alloc (Nat.le_refl _) (.cells #[.slice A u.length c, .slice B r.length d] 48)
 have HX := Lib.hid (Blk.new w #[.slice A u.length c, .slice B r.length d] 48)
 have p0 := HX.out.cell 0
 obtain ⟨y, hy⟩ : ∃ y, stFit u = y := ⟨_, rfl⟩
 obtain ⟨z, hz⟩ : ∃ z, stFit r = z := ⟨_, rfl⟩
 have HR := Lib.hid (show stOk u r = (y && z) by unfold stOk; rw [hy, hz])
 have HY := Lib.hid hy
 have HZ := Lib.hid hz
 have HU := Lib.hid (hU.below hal)
 have HV := Lib.hid (hR.below hal)
 clear hy hz hU hR
 go_enter Tryz.func128, Tryz.ntmps128
 go_wp2_with fail
 refine (fitsStack_any A u c _ hu9 HU.out).mono ?_
 rintro e w1 ⟨rfl, hb1⟩
 rw [HY.out]
 have hb9 := below_then hal hb1
 have HX := Lib.hid (HX.out.below hb1)
 have HV := Lib.hid (HV.out.below hb1)
 clear p0 hb1
 cases y
 ·go_wp2
  go_ret
  exact ⟨ret_bool HR.out.symm, hb9⟩
 have p1 := HX.out.cell 1
 go_wp2_with fail
 refine (fitsStack_any B r d _ hr9 HV.out).mono ?_
 rintro e w2 ⟨rfl, hb2⟩
 rw [HZ.out]
 have hb9 := below_then hb9 hb2
 clear p1 hb2
 go_wp2
 go_ret
 exact ⟨ret_bool (by rw [HR.out]; cases z <;> rfl), hb9⟩

set_option maxHeartbeats 2000000 in
theorem specStackOk_any (A B : Option Addr) (u r : List Ed) (c d : Nat) (w : World) (hu9 : u.length ≤ 9223372036854775807) (hr9 : r.length ≤ 9223372036854775807) (hU : Es w A u) (hR : Es w B r) :
  Calls Tryz.prog 83 #[.agg #[.slice A u.length c, .slice B r.length d]] w fun e w' => e = .returned (.bool (stOk u r)) ∧ Below w.heap.size w w' := by
 have hal := (Below.refl w.heap.size w).alloc (Nat.le_refl _) (.cells #[.slice A u.length c, .slice B r.length d] 48)
 have HX := Lib.hid (Blk.new w #[.slice A u.length c, .slice B r.length d] 48)
 have p0 := HX.out.cell 0
 obtain ⟨y, hy⟩ : ∃ y, stFit u = y := ⟨_, rfl⟩
 obtain ⟨z, hz⟩ : ∃ z, stFit r = z := ⟨_, rfl⟩
 have HR := Lib.hid (show stOk u r = (y && z) by unfold stOk; rw [hy, hz])
 have HY := Lib.hid hy
 have HZ := Lib.hid hz
 have HU := Lib.hid (hU.below hal)
 have HV := Lib.hid (hR.below hal)
 clear hy hz hU hR
 go_enter Tryz.func83, Tryz.ntmps83
 go_wp2_with fail
 refine (l08All_any A u c _ hu9 HU.out).mono ?_
 rintro e w1 ⟨rfl, hb1⟩
 rw [HY.out]
 have hb9 := below_then hal hb1
 have HX := Lib.hid (HX.out.below hb1)
 have HV := Lib.hid (HV.out.below hb1)
 clear p0 hb1
 cases y
 ·go_wp2
  go_ret
  exact ⟨ret_bool HR.out.symm, hb9⟩
 have p1 := HX.out.cell 1
 go_wp2_with fail
 refine (l08All_any B r d _ hr9 HV.out).mono ?_
 rintro e w2 ⟨rfl, hb2⟩
 rw [HZ.out]
 have hb9 := below_then hb9 hb2
 clear p1 hb2
 go_wp2
 go_ret
 exact ⟨ret_bool (by rw [HR.out]; cases z <;> rfl), hb9⟩
end Go.Proofs.YtaekanhjkpoifaaGreatDoor

namespace Go.Proofs.YtaekanhjkpoifaaGreatDoor
open Go.RowKit P
set_option linter.unusedVariables false
set_option linter.unusedSimpArgs false
set_option maxRecDepth 100000

/-- What a call gives that returns an edit of its own: its numbers, what it puts, and from which block on. -/
def GivesE (d : Ed) (w : World) (e : Ending) (w' : World) : Prop := ∃ v, e = .returned (.agg #[.int .i64 d.1, .int .i64 d.2.1, v]) ∧ Own w' w.heap.size v d.2.2 ∧ Below w.heap.size w w'

set_option maxHeartbeats 8000000 in
theorem l08Edit_any (a m : Int) (P : Option Addr) (p : List UInt8) (d : Nat) (w : World) (hp4 : p.length ≤ 1000000) (hP : Bs w P p) :
  Calls Tryz.prog 66 #[.agg #[.int .i64 a, .int .i64 m, .slice P p.length d]] w (GivesE (a, m, p) w) := by
 have hal := ((Below.refl w.heap.size w).alloc (Nat.le_refl _) (.cells #[.int .i64 a, .int .i64 m, .slice P p.length d] 71)).alloc (by simp) (.cells #[.int .i64 0, .int .i64 0, .slice none 0 0] 71)
 have hbx := (Blk.new w #[.int .i64 a, .int .i64 m, .slice P p.length d] 71).alloc (.cells #[.int .i64 0, .int .i64 0, .slice none 0 0] 71)
 have hrx := Blk.new (w.alloc (.cells #[.int .i64 a, .int .i64 m, .slice P p.length d] 71)) #[.int .i64 0, .int .i64 0, .slice none 0 0] 71
 simp only [World.size_alloc] at hrx
 have BX := Lib.hid hbx
 have RX := Lib.hid hrx
 have HB := Lib.hid hal
 have HP := Lib.hid (hP.below hal)
 have hzw : ((w.alloc (.cells #[.int .i64 a, .int .i64 m, .slice P p.length d] 71)).alloc (.cells #[.int .i64 0, .int .i64 0, .slice none 0 0] 71)).heap.size ≥ w.heap.size + 2 := by simp
 clear hal hbx hrx hP
 unfold GivesE
 go_enter Tryz.func66, Tryz.ntmps66
 go_wp2_with fail
 generalize (w.alloc (.cells #[.int .i64 a, .int .i64 m, .slice P p.length d] 71)).alloc (.cells #[.int .i64 0, .int .i64 0, .slice none 0 0] 71) = W at *
 have p0 := BX.out.cell 0
 have p1 := BX.out.cell 1
 have p2 := BX.out.cell 2
 have zb := BX.out.lt
 have hO0 : Own (W.alloc (.cells #[] 5)) W.heap.size (.slice (some ⟨W.heap.size, 0, none⟩) 0 0) [] := World.ownsRow_made W #[] 0 (Nat.le_refl _) (by unfold maxLen; omega) rfl
 have hP0 : Bs (W.alloc (.cells #[] 5)) P p := HP.out.below ((Below.refl W.heap.size W).alloc (Nat.le_refl _) (.cells #[] 5))
 refine wp_region_held_drew (S := (fun V => V.cell? ⟨w.heap.size, 0, none⟩ = some (.int .i64 a) ∧ V.cell? ⟨w.heap.size, 1, none⟩ = some (.int .i64 m) ∧ V.cell? ⟨w.heap.size, 2, none⟩ = some (.slice P p.length d))) (by kernel_rfl) (by exact ⟨p0, p1, p2⟩) (fun hHeld => ?_)
 refine wpAnyH_take (i := 0) (oi := ?_) (v := ?_) ?_ ?_ ?_ ?_ ?_ ?_ (by exact hHeld) ?_
 rotate_left 2
 ·(simp only [List.getElem?_toArray, List.getElem?_cons_zero]; try rfl)
 ·kernel_rfl
 ·kernel_rfl
 ·kernel_rfl
 ·exact fun _ _ _ h => h
 ·refine Or.inl ⟨by rfl, ?_⟩
  (intro V hSV; (try dsimp only at hSV); obtain ⟨q0, q1, q2⟩ := hSV; go_simp; try with_reducible rfl)
 (try simp only [LY9])
 refine wpAnyH_take (i := 1) (oi := ?_) (v := ?_) ?_ ?_ ?_ ?_ ?_ ?_ (by exact hHeld) ?_
 rotate_left 2
 ·(simp only [LX9]; try rfl)
 ·kernel_rfl
 ·kernel_rfl
 ·kernel_rfl
 ·exact fun _ _ _ h => h
 ·refine Or.inl ⟨by rfl, ?_⟩
  (intro V hSV; (try dsimp only at hSV); obtain ⟨q0, q1, q2⟩ := hSV; go_simp; try with_reducible rfl)
 (try simp only [LY9])
 refine wpAnyH_take (i := 2) (oi := ?_) (v := ?_) ?_ ?_ ?_ ?_ ?_ ?_ (by exact hHeld) ?_
 rotate_left 2
 ·(simp only [LX9]; try rfl)
 ·kernel_rfl
 ·kernel_rfl
 ·kernel_rfl
 ·exact fun _ _ _ h => h
 ·refine Or.inl ⟨by rfl, ?_⟩
  (intro V hSV; (try dsimp only at hSV); obtain ⟨q0, q1, q2⟩ := hSV; go_simp; try with_reducible rfl)
 (try simp only [LY9])
 refine wpAnyH_take (i := 3) (oi := ?_) (v := ?_) ?_ ?_ ?_ ?_ ?_ ?_ (by exact hHeld) ?_
 rotate_left 2
 ·(simp only [LX9]; try rfl)
 ·kernel_rfl
 ·kernel_rfl
 ·kernel_rfl
 ·exact fun _ _ _ h => h
 ·refine Or.inl ⟨by rfl, ?_⟩
  (intro V hSV; (try dsimp only at hSV); obtain ⟨q0, q1, q2⟩ := hSV; go_simp; try with_reducible rfl)
 (try simp only [LY9])
 refine wpAnyH_take (i := 5) (oi := ?_) (v := ?_) ?_ ?_ ?_ ?_ ?_ ?_ (by exact hHeld) ?_
 rotate_left 2
 ·(simp only [LX9]; try rfl)
 ·kernel_rfl
 ·kernel_rfl
 ·kernel_rfl
 ·exact fun _ _ _ h => h
 ·refine Or.inl ⟨by rfl, ?_⟩
  (intro V hSV; (try dsimp only at hSV); obtain ⟨q0, q1, q2⟩ := hSV; go_simp; try with_reducible rfl)
 (try simp only [LY9])
 refine wpAnyH_take (i := 6) (oi := ?_) (v := ?_) ?_ ?_ ?_ ?_ ?_ ?_ (by exact hHeld) ?_
 rotate_left 2
 ·(simp only [LX9]; try rfl)
 ·kernel_rfl
 ·kernel_rfl
 ·kernel_rfl
 ·exact fun _ _ _ h => h
 ·refine Or.inl ⟨by rfl, ?_⟩
  (intro V hSV; (try dsimp only at hSV); obtain ⟨q0, q1, q2⟩ := hSV; go_simp; try with_reducible rfl)
 (try simp only [LY9])
 refine wpAnyH_ready (rs := [4]) (by kernel_rfl) (by simp) ?_
 refine AllReadyH.cons (o := ?_) ?_ (fun K hK => ?_) AllReadyH.nil
 rotate_left 1
 ·(simp only [LX9]; try rfl)
 go_simp
 refine hK.out _ _ (by exact ⟨((show Blk _ w.heap.size #[.int .i64 a, .int .i64 m, .slice P p.length d] 71 from BX.out.alloc (.cells #[] 5))).cell 0, ((show Blk _ w.heap.size #[.int .i64 a, .int .i64 m, .slice P p.length d] 71 from BX.out.alloc (.cells #[] 5))).cell 1, ((show Blk _ w.heap.size #[.int .i64 a, .int .i64 m, .slice P p.length d] 71 from BX.out.alloc (.cells #[] 5))).cell 2⟩) (fun hHeld => ?_)
 clear hK K
 (try simp only [LY9])
 refine wpAnyH_ready (rs := [7]) (by kernel_rfl) (by simp) ?_
 refine AllReadyH.cons (o := ?_) ?_ (fun K hK => ?_) AllReadyH.nil
 rotate_left 1
 ·(simp only [LX9]; try rfl)
 refine step_app_bytes9 rfl (.tmp 7) (.tmp 9) rfl W.heap.size (.slice (some ⟨W.heap.size, 0, none⟩) 0 0) [] p P p.length d rfl rfl rfl (by exact hO0) (by exact hP0) (by simp; omega) (by simp) ?_
 intro v6 w6 ho6 hg6 _
 have hg6 : (W.alloc (.cells #[] 5)).grownBy w6 (Value.slice (some ⟨W.heap.size, 0, none⟩) 0 0).ownBlock := ⟨hg6.os, hg6.tape, hg6.output, hg6.size, hg6.block⟩
 rw [List.nil_append] at ho6
 obtain ⟨A6, c6, rfl, _, _, _⟩ := ho6.form
 have hb6 : Below W.heap.size W w6 := ((Below.refl W.heap.size W).alloc (Nat.le_refl _) (.cells #[] 5)).grown hg6 (by simp) (fun j hj => by simp [Value.ownBlock] at hj; omega)
 have HO6 := Lib.hid ho6
 have HB6 := Lib.hid hb6
 have BX6 := Lib.hid (BX.out.below hb6)
 have RX6 := Lib.hid (RX.out.below hb6)
 clear ho6 hg6 hb6
 (try go_simp)
 refine hK.out _ _ (by exact ⟨(BX6.out).cell 0, (BX6.out).cell 1, (BX6.out).cell 2⟩) (fun hHeld => ?_)
 clear hK K
 (try simp only [LY9])
 have f0 := RX6.out.frozen 0
 have f1 := RX6.out.frozen 1
 have f2 := RX6.out.frozen 2
 have c0 := RX6.out.cell 0
 have c1 := RX6.out.cell 1
 have c2 := RX6.out.cell 2
 have BX7 := Lib.hid (show Blk (((w6.setCell ⟨w.heap.size + 1, 0, none⟩ (.int .i64 a)).setCell ⟨w.heap.size + 1, 1, none⟩ (.int .i64 m)).setCell ⟨w.heap.size + 1, 2, none⟩ (.slice A6 p.length c6)) w.heap.size #[.int .i64 a, .int .i64 m, .slice P p.length d] 71 from ((BX6.out.setOther (by simp) _).setOther (by simp) _).setOther (by simp) _)
 have RX7 := Lib.hid (show Blk (((w6.setCell ⟨w.heap.size + 1, 0, none⟩ (.int .i64 a)).setCell ⟨w.heap.size + 1, 1, none⟩ (.int .i64 m)).setCell ⟨w.heap.size + 1, 2, none⟩ (.slice A6 p.length c6)) (w.heap.size + 1) #[.int .i64 a, .int .i64 m, .slice A6 p.length c6] 71 by simpa using ((RX6.out.set 0 (.int .i64 a)).set 1 (.int .i64 m)).set 2 (.slice A6 p.length c6))
 have HB7 := Lib.hid (show Below w.heap.size w (((w6.setCell ⟨w.heap.size + 1, 0, none⟩ (.int .i64 a)).setCell ⟨w.heap.size + 1, 1, none⟩ (.int .i64 m)).setCell ⟨w.heap.size + 1, 2, none⟩ (.slice A6 p.length c6)) from (((below_then HB.out HB6.out).setCell (p := ⟨w.heap.size + 1, 0, none⟩) (by simp) _).setCell (p := ⟨w.heap.size + 1, 1, none⟩) (by simp) _).setCell (p := ⟨w.heap.size + 1, 2, none⟩) (by simp) _)
 have HO7 := Lib.hid (((HO6.out.setBelow (a := ⟨w.heap.size + 1, 0, none⟩) (by simp; omega) (.int .i64 a)).setBelow (a := ⟨w.heap.size + 1, 1, none⟩) (by simp; omega) (.int .i64 m)).setBelow (a := ⟨w.heap.size + 1, 2, none⟩) (by simp; omega) (.slice A6 p.length c6))
 refine wpAnyH_take (i := 8) (oi := ?_) (v := ?_) ?_ ?_ ?_ ?_ ?_ ?_ (by exact hHeld) ?_
 rotate_left 2
 ·(simp only [LX9]; try rfl)
 ·kernel_rfl
 ·kernel_rfl
 ·kernel_rfl
 ·exact fun _ _ _ h => h
 ·refine Or.inl ⟨by rfl, ?_⟩
  (intro V hSV; (try dsimp only at hSV); obtain ⟨q0, q1, q2⟩ := hSV; go_simp; try with_reducible rfl)
 (try simp only [LY9])
 refine wpAnyH_ready (rs := [9]) (by kernel_rfl) (by simp) ?_
 refine AllReadyH.cons (o := ?_) ?_ (fun K hK => ?_) AllReadyH.nil
 rotate_left 1
 ·(simp only [LX9]; try rfl)
 go_simp
 refine hK.out _ _ (by exact ⟨(BX7.out).cell 0, (BX7.out).cell 1, (BX7.out).cell 2⟩) (fun hHeld => ?_)
 clear hK K
 (try simp only [LY9])
 refine wpAnyH_done (by kernel_rfl) ?_ _
 clear hHeld p0 p1 p2 f0 f1 f2 c0 c1 c2
 have q0 := RX7.out.cell 0
 have q1 := RX7.out.cell 1
 have q2 := RX7.out.cell 2
 go_wp2
 refine bodyPost_ret (v := .agg #[.int .i64 a, .int .i64 m, .slice A6 p.length c6]) (by simp [results, Tryz.results66, go_sem, q0, q1, q2]) rfl ?_
 exact ⟨_, rfl, HO7.out.mono (by omega), HB7.out⟩

set_option maxHeartbeats 8000000 in
theorem newEditStack_any (A : Option Addr) (es : List Ed) (c : Nat) (w : World) (hl : es.length ≤ 100) (hp4 : ∀ e ∈ es, e.2.2.length ≤ 1000) (hE : Es w A es) :
  Calls Tryz.prog 75 #[.slice A es.length c] w fun e w' => ∃ v fp, e = .returned (.agg #[v]) ∧ Lay.edits.ow w' [v] es fp ∧ fp.Nodup ∧ (∀ k ∈ fp, w.heap.size ≤ k) ∧ Below w.heap.size w w' := by
 have hal := ((Below.refl w.heap.size w).alloc (Nat.le_refl _) (.cells #[.slice none 0 0] 114)).alloc (by simp) (.cells #[.slice none 0 0] 114)
 have hrx := (Blk.new w #[.slice none 0 0] 114).alloc (.cells #[.slice none 0 0] 114)
 have hlx := Blk.new (w.alloc (.cells #[.slice none 0 0] 114)) #[.slice none 0 0] 114
 simp only [World.size_alloc] at hlx
 have hL0 := Lib.hid (show Lb ((w.alloc (.cells #[.slice none 0 0] 114)).alloc (.cells #[.slice none 0 0] 114)) (w.heap.size + 1) (w.heap.size + 1) (.slice none 0 0) [] [] from ⟨hlx, Lay.slice_nil _ _ _, List.nodup_nil, (fun _ h => nomatch h), (fun _ h => nomatch h), Nat.le_refl _⟩)
 have HP4 := Lib.hid hp4
 clear hlx hp4
 go_enter Tryz.func75, Tryz.ntmps75
 go_wp2
 go_loopw [8] (fun i wr => ∃ (k : Nat) (v : Value) (fp : List Nat), k ≤ es.length ∧ i = .int .i64 k ∧ Hid (Lb wr (w.heap.size + 1) (w.heap.size + 1) v (es.take k) fp) ∧ Blk wr w.heap.size #[.slice none 0 0] 114 ∧ Below w.heap.size w wr)
  (fun i _ => es.length - (intOf i).toNat)
 case atStart => exact ⟨0, _, [], Nat.zero_le _, rfl, by simpa using hL0, hrx, hal⟩
 case round =>
  obtain ⟨k, v, fp, hk, rfl, HL, hrx2, hb⟩ := hrel
  have RX := Lib.hid hrx2
  have HB := Lib.hid hb
  clear hrx hrx2 hal hL0
  by_cases hlt : k < es.length
  ·have hki0 : (0 : Int) ≤ (k : Int) := by omega
   have hki : (k : Int) < (es.length : Int) := by omega
   obtain ⟨b, off, a, m, P, p, d, rfl, hbl, hek, k0, k1, k2, ha, hm, hpd, hdm, hBp⟩ := (hE.below hb).at_ k hlt
   have hp4 := HP4.out _ (List.getElem_mem hlt)
   rw [hek] at hp4
   have hal := (Below.refl wr.heap.size wr).alloc (Nat.le_refl _) (.cells #[.int .i64 a, .int .i64 m, .slice P p.length d] 71)
   have BX := Lib.hid (Blk.new wr #[.int .i64 a, .int .i64 m, .slice P p.length d] 71)
   have HL := Lib.hid (HL.out.below hal)
   have RX := Lib.hid (RX.out.below hal)
   have HB2 := Lib.hid (below_then HB.out hal)
   have hBp2 := hBp.below hal
   have hadd := Lib.hid (add_any (w.heap.size + 1) (w.heap.size + 1) v (es.take k) fp a m P p d _ (by rw [List.length_take]; omega) ha hm hp4 hBp2 HL.out)
   have HNX := Lib.hid (show es.take (k + 1) = es.take k ++ [(a, m, p)] by rw [List.take_succ_eq_append_getElem hlt, hek])
   have p0 := BX.out.cell 0
   have p1 := BX.out.cell 1
   have p2 := BX.out.cell 2
   have hzr := RX.out.lt
   clear hal hb hBp hBp2 hek
   go_wp2_with fail
   generalize wr.alloc (.cells #[.int .i64 a, .int .i64 m, .slice P p.length d] 71) = W at *
   refine hadd.out.mono ?_
   rintro e w1 ⟨rfl, v1, fp1, hL1, hs1, hk1⟩
   rw [← HNX.out] at hL1
   have HL1 := Lib.hid hL1
   have hlr := HL.out.lo
   have RX1 := Lib.hid (RX.out.of_block (hk1.block _ hzr (fun h => by
    rcases List.mem_cons.1 h with h | h
    ·omega
    ·have := hlr _ h; omega)))
   have HB3 := Lib.hid (HB2.out.trans (hk1.below (B := w.heap.size) HB2.out.size (fun q hq => by
    rcases List.mem_cons.1 hq with h | h
    ·omega
    ·have := hlr _ h; omega)))
   clear hL1 hs1 hk1 hadd p0 p1 p2 k0 k1 k2
   go_wp2
   go_roundw
   case rel => exact ⟨k + 1, _, _, by omega, by go_num, HL1, RX1.out, HB3.out⟩
   case measure => simp [intOf]; omega
  ·have e : k = es.length := by omega
   have hki : ¬ (k : Int) < (es.length : Int) := by omega
   subst e
   have hLe := HL.out
   rw [List.take_length] at hLe
   obtain ⟨A1, c1, rfl, hO1⟩ := hLe.form
   have HLE := Lib.hid hLe
   have p0 : wr.cell? ⟨w.heap.size + 1, 0, none⟩ = some (.slice A1 es.length c1) := hLe.hd.cell 0
   have q0 := RX.out.cell 0
   have f0 := RX.out.frozen 0
   have RX2 := Lib.hid (show Blk (wr.setCell ⟨w.heap.size, 0, none⟩ (.slice A1 es.length c1)) w.heap.size #[.slice A1 es.length c1] 114 by simpa using RX.out.set 0 (.slice A1 es.length c1))
   have HO2 := Lib.hid (Lay.edits.keeps hLe.ow ((Keeps.refl [w.heap.size] wr).set (List.mem_singleton.2 rfl) 0 (.slice A1 es.length c1)) (fun q hq h => by have := hLe.lo q hq; simp at h; omega))
   have HB2 := Lib.hid (HB.out.setCell (p := ⟨w.heap.size, 0, none⟩) (Nat.le_refl _) (.slice A1 es.length c1))
   have r0 := RX2.out.cell 0
   clear hO1 hLe HL
   go_wp2
   refine bodyPost_ret (v := .agg #[.slice A1 es.length c1]) (by simp [results, Tryz.results75, go_sem, r0]) rfl ?_
   exact ⟨_, rfl, _, HO2.out, HLE.out.nd, fun q hq => by have := HLE.out.lo q hq; omega, HB2.out⟩

/-- What top gives. -/
def Tops (w0 w : World) (base : Nat) (es : List Ed) (e : Ending) (w' : World) : Prop := ∃ v, e = .returned (.tuple #[.agg #[.int .i64 (if 0 < es.length then lastE es else (0, 0, [])).1, .int .i64 (if 0 < es.length then lastE es else (0, 0, [])).2.1, v], .bool (decide (0 < es.length))]) ∧ Own w' base v (if 0 < es.length then lastE es else (0, 0, [])).2.2 ∧ Below w.heap.size w w'

end Go.Proofs.YtaekanhjkpoifaaGreatDoor

namespace Go.Proofs.YtaekanhjkpoifaaGreatDoor
open Go.RowKit P
set_option linter.unusedVariables false
set_option linter.unusedSimpArgs false
set_option maxRecDepth 100000

end Go.Proofs.YtaekanhjkpoifaaGreatDoor

namespace Go.Proofs.YtaekanhjkpoifaaGreatDoor
open Go.RowKit P
set_option linter.unusedVariables false
set_option linter.unusedSimpArgs false
set_option maxRecDepth 100000

end Go.Proofs.YtaekanhjkpoifaaGreatDoor
