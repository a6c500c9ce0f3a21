/-
  Chapter 8, the list of edits that lies in a variable: count, remove, add: contracts. Own work.
-/
import Derived.Test.YtalcjgmmlmhngaaK02
import Derived.Test.YtalcjgmmlmhngaaCl
namespace Go.Proofs.Ytalcjgmmlmhngaa
open Go.RowKit P
set_option linter.unusedVariables false
set_option linter.unusedSimpArgs false
set_option maxRecDepth 100000

/-- The variable at lb holds the list es, which lies in the blocks fp. -/
structure Lb (w : World) (B lb : Nat) (v : Value) (es : List Ed) (fp : List Nat) : Prop where
  hd : Blk w lb #[v] 109
  ow : Lay.edits.ow w [v] es fp
  nd : fp.Nodup
  ne : ∀ k ∈ fp, k ≠ lb
  lo : ∀ k ∈ fp, B ≤ k
  hB : B ≤ lb
theorem Lb.below {w w' : World} {B lb : Nat} {v : Value} {es : List Ed} {fp : List Nat} (h : Lb w B lb v es fp) (b : Below w.heap.size w w') : Lb w' B lb v es fp := ⟨h.hd.below b, Lay.edits.owBelow h.ow b, h.nd, h.ne, h.lo, h.hB⟩
theorem Lb.keeps {w w' : World} {B lb : Nat} {v : Value} {es : List Ed} {fp fq : List Nat} (h : Lb w B lb v es fp) (hk : Keeps fq w w') (hl : lb ∉ fq) (hd : ∀ k ∈ fp, k ∉ fq) : Lb w' B lb v es fp :=
  ⟨h.hd.of_block (hk.block lb h.hd.lt hl), Lay.edits.keeps h.ow hk hd, h.nd, h.ne, h.lo, h.hB⟩
theorem Lb.lt {w : World} {B lb : Nat} {v : Value} {es : List Ed} {fp : List Nat} (h : Lb w B lb v es fp) : ∀ k ∈ fp, k < w.heap.size := fun k hk => Lay.edits.lt h.ow k hk
theorem Lb.form {w : World} {B lb : Nat} {v : Value} {es : List Ed} {fp : List Nat} (h : Lb w B lb v es fp) : ∃ A c, v = .slice A es.length c ∧ OwE w B A es c fp := by
  obtain ⟨A, c, e, _, _, _⟩ := Lay.edits.read h.ow
  simp only [List.cons.injEq, and_true] at e
  subst e
  exact ⟨A, c, rfl, h.ow, h.nd, h.lo⟩
theorem own_in {w : World} {v : Value} {es : List Ed} {fp : List Nat} (h : Lay.edits.ow w [v] es fp) : ∀ k ∈ v.ownBlock.toList, k ∈ fp := by
  obtain ⟨els, _, _, _, hfp⟩ := ow_one h
  intro k hk
  rw [hfp]
  exact List.mem_append.2 (.inl hk)

theorem step_app_E {w : World} {ops : Array Oper} {o : Oper} {a : Act} {K : Act → World → Prop} {Q : Exit → Act → World → Prop} {X : Prop} (hgd : o.guard = none) (s x : Operand)
    (ho : o.op = .call { callee := .builtin .append, args := #[s, x], argTypes := #[54, 54] })
    (v : Value) (es : List Ed) (fp : List Nat) (e : Ed) (fx : List Nat) (us : List Value) (ad : Addr) (c : Nat) (hs : a.eval s = v) (hx : a.eval x = .slice (some ad) 1 c)
    (hown : Lay.edits.ow w [v] es fp) (hn : fp.Nodup) (hxe : Lay.edit.ow w us e fx) (hnx : fx.Nodup) (B : Nat) (hB : ∀ k ∈ fp, k < B) (hB2 : ∀ k ∈ fx, B ≤ k) (hc : ∀ j u, us[j]? = some u → w.cell? (ad.add j) = some u) (hlen : es.length ≤ 1000000)
    (h : ∀ v' w' fp', Lay.edits.ow w' [v'] (es ++ [e]) fp' → fp'.Nodup → (∀ k ∈ fp', k ∈ fp ∨ k ∈ fx ∨ k = w.heap.size) → w.grownBy w' v.ownBlock → K (a.put o.dst v') w') :
    if Region.wanted o (yielded ops a.tmps) = true then Oper.wp Try.prog o a w K Q else X := by
  obtain ⟨v', w', fp', hrun, h2, h3, h4, h5⟩ := run_app_one (P := Try.prog) (E := Lay.edit) 54 o.type Try.underlying54 Try.infoEd rfl rfl (by decide) hown hn hxe hnx B hB hB2 ad c hc hlen (by decide)
  exact step_run_appE hgd s x ho v _ hs hx hrun (h v' w' fp' h2 h3 h4 h5)

set_option maxHeartbeats 1000000 in
theorem edCount_any (A : Option Addr) (n c : Nat) (w : World) :
    Calls Try.prog 138 #[.agg #[.slice A n c]] w fun e w' => e = .returned (.int .i64 (n : Int)) ∧ Below w.heap.size w w' := by
  have hal := (Below.refl w.heap.size w).alloc (Nat.le_refl _) (.cells #[.slice A n c] 107)
  have p0 := (Blk.new w #[.slice A n c] 107).cell 0
  go_enter Try.func138, Try.ntmps138
  go_wp2
  go_ret
  exact ⟨rfl, hal⟩

set_option maxHeartbeats 4000000 in
theorem remove_any (B lb : Nat) (A : Option Addr) (es : List Ed) (c : Nat) (fp : List Nat) (i : Nat) (w : World) (hl : es.length ≤ 1000) (hi : i < es.length) (h : Lb w B lb (.slice A es.length c) es fp) :
    Calls Try.prog 139 #[.pointer (some ⟨lb, 0, none⟩), .int .i64 (i : Int)] w fun e w' => e = .returned (.tuple #[]) ∧ ∃ v' fp', Lb w' B lb v' (es.take i ++ es.drop (i + 1)) fp' ∧ (∀ k ∈ fp', k ∈ fp) ∧ Keeps (lb :: fp) w w' := by
  have p0 : w.cell? ⟨lb, 0, none⟩ = some (.slice A es.length c) := h.hd.cell 0
  have hwr : IntKind.i64.wrap ((i : Int) + 1) = (i : Int) + 1 := IntWalk.i64_in _ (by omega)
  have hdel := Lib.hid (deleteEd_any A es c B fp i w (by omega) hi ⟨h.ow, h.nd, h.lo⟩)
  have HL := Lib.hid h
  clear h
  go_enter Try.func139, Try.ntmps139
  go_wp2_with fail
  refine hdel.out.mono ?_
  rintro e w1 ⟨A', fp', rfl, hO, hN, hsub, hk⟩
  have hd1 := HL.out.hd.of_block (hk.block lb HL.out.hd.lt (fun h => HL.out.ne lb h rfl))
  have p1 := hd1.cell 0
  have f1 := hd1.frozen 0
  have HL2 := Lib.hid (show Lb (w1.setCell ⟨lb, 0, none⟩ (.slice A' (es.length - 1) c)) B lb (.slice A' (es.length - 1) c) (es.take i ++ es.drop (i + 1)) fp' from
    ⟨by simpa using hd1.set 0 (.slice A' (es.length - 1) c), Lay.edits.keeps hO ((Keeps.refl [lb] w1).set (List.mem_singleton.2 rfl) 0 _) (fun k hk h => HL.out.ne k (hsub k hk) (by simpa using h)), hN, fun k hk => HL.out.ne k (hsub k hk), fun k hk => HL.out.lo k (hsub k hk), HL.out.hB⟩)
  have HK2 := Lib.hid (((hk.mono (fq := lb :: fp) (fun k hk => List.mem_cons_of_mem _ hk))).set (List.mem_cons_self) 0 (.slice A' (es.length - 1) c))
  have HS := Lib.hid hsub
  clear hO hN hsub hk hd1 p0
  go_wp2
  go_end0
  exact ⟨rfl, _, _, HL2.out, HS.out, HK2.out⟩

set_option maxHeartbeats 16000000 in
theorem add_any (B lb : Nat) (v : Value) (es : List Ed) (fp : List Nat) (a m : Int) (P : Option Addr) (p : List UInt8) (d : Nat) (w : World) (hl : es.length ≤ 1000) (ha : -9223372036854775808 ≤ a ∧ a ≤ 9223372036854775807) (hm : -9223372036854775808 ≤ m ∧ m ≤ 9223372036854775807) (hp4 : p.length ≤ 1000) (hP : Bs w P p) (h : Lb w B lb v es fp) :
    Calls Try.prog 137 #[.pointer (some ⟨lb, 0, none⟩), .agg #[.int .i64 a, .int .i64 m, .slice P p.length d]] w fun e w' => e = .returned (.tuple #[]) ∧ ∃ v' fp', Lb w' B lb v' (es ++ [(a, m, p)]) fp' ∧ (∀ k ∈ fp', k ∈ fp ∨ w.heap.size ≤ k) ∧ Keeps (lb :: fp) w w' := by
  have hal := (Below.refl w.heap.size w).alloc (Nat.le_refl _) (.cells #[.int .i64 a, .int .i64 m, .slice P p.length d] 42)
  have bE := Blk.new w #[.int .i64 a, .int .i64 m, .slice P p.length d] 42
  have q2 := bE.cell 2
  have hBl := h.hB
  have hlw := h.hd.lt
  have HFP0 := Lib.hid h.lt
  have HNE := Lib.hid h.ne
  have HLO := Lib.hid h.lo
  have HND := Lib.hid h.nd
  have HOB := Lib.hid (own_in h.ow)
  have HL1 := Lib.hid (h.below hal)
  have HP1 := Lib.hid (hP.below hal)
  have HFP := Lib.hid (show ∀ k ∈ fp, k < w.heap.size + 1 from fun k hk => by have := h.lt k hk; omega)
  clear h hP
  go_enter Try.func137, Try.ntmps137
  go_wp2_with fail
  refine (bytesClone_opt P p p.length d _ rfl (by omega) (by exact HP1.out)).mono ?_
  rintro e w2 ⟨v3, rfl, hown3, hb2⟩
  obtain ⟨A3, c3, rfl, _, _, _⟩ := hown3.form
  have bE2 := bE.below hb2
  have hz1 := hb2.size
  have f2 := bE2.frozen 2
  have q2' := bE2.cell 2
  have HE3 := Lib.hid (show Blk (w2.setCell ⟨w.heap.size, 2, none⟩ (.slice A3 p.length c3)) w.heap.size #[.int .i64 a, .int .i64 m, .slice A3 p.length c3] 42 by simpa using bE2.set 2 (.slice A3 p.length c3))
  have hk3 := (Keeps.refl [w.heap.size] w2).set (List.mem_singleton.2 rfl) 2 (.slice A3 p.length c3)
  have HL3 := Lib.hid ((HL1.out.below hb2).keeps hk3 (by simp; omega) (fun k hk h => by have := HFP0.out k hk; simp at h; omega))
  have HB3 := Lib.hid ((below_then hal hb2).setCell (p := ⟨w.heap.size, 2, none⟩) (Nat.le_refl _) (.slice A3 p.length c3))
  have hown4 := hown3.setBelow (a := ⟨w.heap.size, 2, none⟩) (by simp) (.slice A3 p.length c3)
  have HXE := Lib.hid (own_edit ha hm hown4)
  have hfxr := hown3.fp
  have hfxn := hfxr.1
  have hfx9 : ∀ k ∈ (Value.slice A3 p.length c3).ownBlock.toList, w.heap.size + 1 ≤ k := fun k hk => by have := hfxr.2 k hk; simpa using this
  clear bE bE2 hown3 hown4 hb2 hk3 hal hfxr q2
  go_upto_region 2 with fail
  generalize w2.setCell ⟨w.heap.size, 2, none⟩ (.slice A3 p.length c3) = w3 at *
  clear q2' f2
  have HD3 := Lib.hid HL3.out.hd
  have HOW3 := Lib.hid HL3.out.ow
  have hb5 : Below w3.heap.size w3 (w3.drew.alloc (.cells #[.int .i64 a, .int .i64 m, .slice A3 p.length c3] 42)) := (Below.refl w3.heap.size w3).drew.alloc (by simp) _
  have c4 : w3.cell? ⟨lb, 0, none⟩ = some v := HD3.out.cell 0
  have hzw3 := HB3.out.size
  clear HL3 HL1
  refine wp_region_held_drew (S := (fun V => V.cell? ⟨w.heap.size, 0, none⟩ = some (.int .i64 a) ∧ V.cell? ⟨w.heap.size, 1, none⟩ = some (.int .i64 m) ∧ V.cell? ⟨w.heap.size, 2, none⟩ = some (.slice A3 p.length c3))) (by kernel_rfl) (by exact ⟨((show Blk _ w.heap.size #[.int .i64 a, .int .i64 m, .slice A3 p.length c3] 42 from HE3.out)).cell 0, ((show Blk _ w.heap.size #[.int .i64 a, .int .i64 m, .slice A3 p.length c3] 42 from HE3.out)).cell 1, ((show Blk _ w.heap.size #[.int .i64 a, .int .i64 m, .slice A3 p.length c3] 42 from HE3.out)).cell 2⟩) (fun hHeld => ?_)
  refine wpAnyH_take (i := 0) (oi := ?_) (v := ?_) ?_ ?_ ?_ ?_ ?_ ?_ (by exact hHeld) ?_
  rotate_left 2
  · (simp only [List.getElem?_toArray, List.getElem?_cons_zero]; try rfl)
  · kernel_rfl
  · kernel_rfl
  · kernel_rfl
  · exact fun _ _ _ h => h
  · refine Or.inl ⟨by rfl, ?_⟩
    (intro V hSV; (try dsimp only at hSV); obtain ⟨q0, q1, q2⟩ := hSV; go_simp; try with_reducible rfl)
  (try simp only [Act.put, List.setIfInBounds_toArray, List.set_cons_zero, List.set_cons_succ])
  refine wpAnyH_take (i := 1) (oi := ?_) (v := ?_) ?_ ?_ ?_ ?_ ?_ ?_ (by exact hHeld) ?_
  rotate_left 2
  · (simp only [List.getElem?_toArray, List.getElem?_cons_zero, List.getElem?_cons_succ]; try rfl)
  · kernel_rfl
  · kernel_rfl
  · kernel_rfl
  · exact fun _ _ _ h => h
  · refine Or.inl ⟨by rfl, ?_⟩
    (intro V hSV; (try dsimp only at hSV); obtain ⟨q0, q1, q2⟩ := hSV; go_simp; try with_reducible rfl)
  (try simp only [Act.put, List.setIfInBounds_toArray, List.set_cons_zero, List.set_cons_succ])
  refine wpAnyH_take (i := 2) (oi := ?_) (v := ?_) ?_ ?_ ?_ ?_ ?_ ?_ (by exact hHeld) ?_
  rotate_left 2
  · (simp only [List.getElem?_toArray, List.getElem?_cons_zero, List.getElem?_cons_succ]; try rfl)
  · kernel_rfl
  · kernel_rfl
  · kernel_rfl
  · exact fun _ _ _ h => h
  · refine Or.inl ⟨by rfl, ?_⟩
    (intro V hSV; (try dsimp only at hSV); obtain ⟨q0, q1, q2⟩ := hSV; go_simp; try with_reducible rfl)
  (try simp only [Act.put, List.setIfInBounds_toArray, List.set_cons_zero, List.set_cons_succ])
  refine wpAnyH_take (i := 3) (oi := ?_) (v := ?_) ?_ ?_ ?_ ?_ ?_ ?_ (by exact hHeld) ?_
  rotate_left 2
  · (simp only [List.getElem?_toArray, List.getElem?_cons_zero, List.getElem?_cons_succ]; try rfl)
  · kernel_rfl
  · kernel_rfl
  · kernel_rfl
  · exact fun _ _ _ h => h
  · refine Or.inl ⟨by rfl, ?_⟩
    (intro V hSV; (try dsimp only at hSV); obtain ⟨q0, q1, q2⟩ := hSV; go_simp; try with_reducible rfl)
  (try simp only [Act.put, List.setIfInBounds_toArray, List.set_cons_zero, List.set_cons_succ])
  refine wpAnyH_take (i := 5) (oi := ?_) (v := ?_) ?_ ?_ ?_ ?_ ?_ ?_ (by exact hHeld) ?_
  rotate_left 2
  · (simp only [List.getElem?_toArray, List.getElem?_cons_zero, List.getElem?_cons_succ]; try rfl)
  · kernel_rfl
  · kernel_rfl
  · kernel_rfl
  · exact fun _ _ _ h => h
  · refine Or.inl ⟨by rfl, ?_⟩
    (intro V hSV; (try dsimp only at hSV); obtain ⟨q0, q1, q2⟩ := hSV; go_simp; try with_reducible rfl)
  (try simp only [Act.put, List.setIfInBounds_toArray, List.set_cons_zero, List.set_cons_succ])
  refine wpAnyH_ready (rs := [4, 6]) (by kernel_rfl) (by simp) ?_
  refine AllReadyH.cons (o := ?_) ?_ (fun K hK => ?_) ?_
  rotate_left 1
  · (simp only [List.getElem?_toArray, List.getElem?_cons_zero, List.getElem?_cons_succ]; try rfl)
  · go_simp
    refine hK.out _ _ (by exact ⟨((show Blk _ w.heap.size #[.int .i64 a, .int .i64 m, .slice A3 p.length c3] 42 from HE3.out)).cell 0, ((show Blk _ w.heap.size #[.int .i64 a, .int .i64 m, .slice A3 p.length c3] 42 from HE3.out)).cell 1, ((show Blk _ w.heap.size #[.int .i64 a, .int .i64 m, .slice A3 p.length c3] 42 from HE3.out)).cell 2⟩) (fun hHeld => ?_)
    clear hK K
    (try simp only [Act.put, List.setIfInBounds_toArray, List.set_cons_zero, List.set_cons_succ])
    refine wpAnyH_ready (rs := [6]) (by kernel_rfl) (by simp) ?_
    refine AllReadyH.cons (o := ?_) ?_ (fun K hK => ?_) AllReadyH.nil
    rotate_left 1
    · (simp only [List.getElem?_toArray, List.getElem?_cons_zero, List.getElem?_cons_succ]; try rfl)
    go_simp
    refine hK.out _ _ (by exact ⟨((show Blk _ w.heap.size #[.int .i64 a, .int .i64 m, .slice A3 p.length c3] 42 from HE3.out.below hb5)).cell 0, ((show Blk _ w.heap.size #[.int .i64 a, .int .i64 m, .slice A3 p.length c3] 42 from HE3.out.below hb5)).cell 1, ((show Blk _ w.heap.size #[.int .i64 a, .int .i64 m, .slice A3 p.length c3] 42 from HE3.out.below hb5)).cell 2⟩) (fun hHeld => ?_)
    clear hK K
    (try simp only [Act.put, List.setIfInBounds_toArray, List.set_cons_zero, List.set_cons_succ])
    refine wpAnyH_ready (rs := [7]) (by kernel_rfl) (by simp) ?_
    refine AllReadyH.cons (o := ?_) ?_ (fun K hK => ?_) AllReadyH.nil
    rotate_left 1
    · (simp only [List.getElem?_toArray, List.getElem?_cons_zero, List.getElem?_cons_succ]; try rfl)
    refine step_app_E rfl (.tmp 12) (.tmp 14) rfl v es fp (a, m, p) (Value.slice A3 p.length c3).ownBlock.toList [.int .i64 a, .int .i64 m, .slice A3 p.length c3] ⟨w3.heap.size, 0, none⟩ 1 rfl rfl (by exact Lay.edits.owBelow HOW3.out hb5) HND.out (by exact Lay.edit.owBelow HXE.out hb5) hfxn (w.heap.size + 1) HFP.out hfx9 (by exact cell_new3) (by omega) ?_
    intro v6 w6 fp6 ho6 hn6 hs6 hg6
    obtain ⟨n6, A6, c6, rfl⟩ : ∃ n A c, v6 = .slice A n c := by
      obtain ⟨A6, c6, e6, _, _, _⟩ := Lay.edits.read ho6
      simp only [List.cons.injEq, and_true] at e6
      exact ⟨_, _, _, e6⟩
    have hg6 : (w3.drew.alloc (.cells #[.int .i64 a, .int .i64 m, .slice A3 p.length c3] 42)).grownBy w6 v.ownBlock := ⟨hg6.os, hg6.tape, hg6.output, hg6.size, hg6.block⟩
    have hk6 := Keeps.of_grown hg6
    have HD6 := Lib.hid (show Blk w6 lb #[v] 109 from ((HD3.out.below hb5)).of_block (hk6.block lb (HD3.out.below hb5).lt (fun h => HNE.out lb (HOB.out lb h) rfl)))
    have HE6 := Lib.hid (show Blk w6 w.heap.size #[.int .i64 a, .int .i64 m, .slice A3 p.length c3] 42 from ((HE3.out.below hb5)).of_block (hk6.block _ (HE3.out.below hb5).lt (fun h => by have := HFP0.out _ (HOB.out _ h); omega)))
    have HO6 := Lib.hid ho6
    have HN6 := Lib.hid hn6
    have HS6 := Lib.hid hs6
    have HK6 := Lib.hid hk6
    have f6 := HD6.out.frozen 0
    have cc6 := HD6.out.cell 0
    have hzz6 := hk6.size
    clear ho6 hn6 hs6 hg6 hk6
    (try go_simp)
    refine hK.out _ _ (by exact ⟨(HE6.out).cell 0, (HE6.out).cell 1, (HE6.out).cell 2⟩) (fun hHeld => ?_)
    clear hK K
    (try simp only [Act.put, List.setIfInBounds_toArray, List.set_cons_zero, List.set_cons_succ])
    refine wpAnyH_take (i := 8) (oi := ?_) (v := ?_) ?_ ?_ ?_ ?_ ?_ ?_ (by exact hHeld) ?_
    rotate_left 2
    · (simp only [List.getElem?_toArray, List.getElem?_cons_zero, List.getElem?_cons_succ]; try rfl)
    · kernel_rfl
    · kernel_rfl
    · kernel_rfl
    · exact fun _ _ _ h => h
    · refine Or.inl ⟨by rfl, ?_⟩
      (intro V hSV; (try dsimp only at hSV); obtain ⟨q0, q1, q2⟩ := hSV; go_simp; try with_reducible rfl)
    (try simp only [Act.put, List.setIfInBounds_toArray, List.set_cons_zero, List.set_cons_succ])
    refine wpAnyH_take (i := 9) (oi := ?_) (v := ?_) ?_ ?_ ?_ ?_ ?_ ?_ (by exact hHeld) ?_
    rotate_left 2
    · (simp only [List.getElem?_toArray, List.getElem?_cons_zero, List.getElem?_cons_succ]; try rfl)
    · kernel_rfl
    · kernel_rfl
    · kernel_rfl
    · exact fun _ _ _ h => h
    · refine Or.inl ⟨by rfl, ?_⟩
      (intro V hSV; (try dsimp only at hSV); obtain ⟨q0, q1, q2⟩ := hSV; go_simp; try with_reducible rfl)
    (try simp only [Act.put, List.setIfInBounds_toArray, List.set_cons_zero, List.set_cons_succ])
    refine wpAnyH_ready (rs := [10]) (by kernel_rfl) (by simp) ?_
    refine AllReadyH.cons (o := ?_) ?_ (fun K hK => ?_) AllReadyH.nil
    rotate_left 1
    · (simp only [List.getElem?_toArray, List.getElem?_cons_zero, List.getElem?_cons_succ]; try rfl)
    go_simp
    refine hK.out _ _ (by exact ⟨((show Blk (w6.setCell ⟨lb, 0, none⟩ (.slice A6 n6 c6)) w.heap.size #[.int .i64 a, .int .i64 m, .slice A3 p.length c3] 42 from HE6.out.setOther (by show w.heap.size ≠ lb; omega) (.slice A6 n6 c6))).cell 0, ((show Blk (w6.setCell ⟨lb, 0, none⟩ (.slice A6 n6 c6)) w.heap.size #[.int .i64 a, .int .i64 m, .slice A3 p.length c3] 42 from HE6.out.setOther (by show w.heap.size ≠ lb; omega) (.slice A6 n6 c6))).cell 1, ((show Blk (w6.setCell ⟨lb, 0, none⟩ (.slice A6 n6 c6)) w.heap.size #[.int .i64 a, .int .i64 m, .slice A3 p.length c3] 42 from HE6.out.setOther (by show w.heap.size ≠ lb; omega) (.slice A6 n6 c6))).cell 2⟩) (fun hHeld => ?_)
    clear hK K
    (try simp only [Act.put, List.setIfInBounds_toArray, List.set_cons_zero, List.set_cons_succ])
    refine wpAnyH_done (by kernel_rfl) ?_ _
    clear hHeld
    have hput := (((Keeps.of_below (fp := lb :: fp) (HB3.out.trans (hb5.mono (by omega)))).trans (HK6.out.mono (fun k hk => List.mem_cons_of_mem _ (HOB.out k hk)))).set (List.mem_cons_self) 0 (.slice A6 n6 c6))
    have hne6 : ∀ k ∈ fp6, k ≠ lb := fun k hk e => by
      have hz9 := HB3.out.size
      rcases HS6.out k hk with h | h | h
      · exact HNE.out k h e
      · have := hfx9 k h; omega
      · simp at h; omega
    have HL := Lib.hid (show Lb (w6.setCell ⟨lb, 0, none⟩ (.slice A6 n6 c6)) B lb (.slice A6 n6 c6) (es ++ [(a, m, p)]) fp6 from ⟨by simpa using HD6.out.set 0 (.slice A6 n6 c6), Lay.edits.keeps HO6.out ((Keeps.refl [lb] w6).set (List.mem_singleton.2 rfl) 0 (.slice A6 n6 c6)) (fun k hk h => hne6 k hk (by simpa using h)), HN6.out, hne6, fun k hk => by
        have hz9 := HB3.out.size
        rcases HS6.out k hk with h | h | h
        · exact HLO.out k h
        · have := hfx9 k h; omega
        · simp at h; omega, hBl⟩)
    have hsub : ∀ k ∈ fp6, k ∈ fp ∨ w.heap.size ≤ k := fun k hk => by
      have hz9 := HB3.out.size
      rcases HS6.out k hk with h | h | h
      · exact .inl h
      · have := hfx9 k h; right; omega
      · simp at h; right; omega
    go_wp2
    go_end0
    exact ⟨rfl, _, _, HL.out, hsub, hput⟩
  refine AllReadyH.cons (o := ?_) ?_ (fun K hK => ?_) AllReadyH.nil
  rotate_left 1
  · (simp only [List.getElem?_toArray, List.getElem?_cons_zero, List.getElem?_cons_succ]; try rfl)
  go_simp
  refine hK.out _ _ (by exact ⟨((show Blk _ w.heap.size #[.int .i64 a, .int .i64 m, .slice A3 p.length c3] 42 from HE3.out.below hb5)).cell 0, ((show Blk _ w.heap.size #[.int .i64 a, .int .i64 m, .slice A3 p.length c3] 42 from HE3.out.below hb5)).cell 1, ((show Blk _ w.heap.size #[.int .i64 a, .int .i64 m, .slice A3 p.length c3] 42 from HE3.out.below hb5)).cell 2⟩) (fun hHeld => ?_)
  clear hK K
  (try simp only [Act.put, List.setIfInBounds_toArray, List.set_cons_zero, List.set_cons_succ])
  refine wpAnyH_ready (rs := [4]) (by kernel_rfl) (by simp) ?_
  refine AllReadyH.cons (o := ?_) ?_ (fun K hK => ?_) AllReadyH.nil
  rotate_left 1
  · (simp only [List.getElem?_toArray, List.getElem?_cons_zero, List.getElem?_cons_succ]; try rfl)
  have c5 : (w3.alloc (.cells #[.int .i64 a, .int .i64 m, .slice A3 p.length c3] 42)).cell? ⟨lb, 0, none⟩ = some v := (HD3.out.alloc _).cell 0
  go_simp
  clear c5
  refine hK.out _ _ (by exact ⟨((show Blk _ w.heap.size #[.int .i64 a, .int .i64 m, .slice A3 p.length c3] 42 from HE3.out.below hb5)).cell 0, ((show Blk _ w.heap.size #[.int .i64 a, .int .i64 m, .slice A3 p.length c3] 42 from HE3.out.below hb5)).cell 1, ((show Blk _ w.heap.size #[.int .i64 a, .int .i64 m, .slice A3 p.length c3] 42 from HE3.out.below hb5)).cell 2⟩) (fun hHeld => ?_)
  clear hK K
  (try simp only [Act.put, List.setIfInBounds_toArray, List.set_cons_zero, List.set_cons_succ])
  refine wpAnyH_ready (rs := [7]) (by kernel_rfl) (by simp) ?_
  refine AllReadyH.cons (o := ?_) ?_ (fun K hK => ?_) AllReadyH.nil
  rotate_left 1
  · (simp only [List.getElem?_toArray, List.getElem?_cons_zero, List.getElem?_cons_succ]; try rfl)
  refine step_app_E rfl (.tmp 12) (.tmp 14) rfl v es fp (a, m, p) (Value.slice A3 p.length c3).ownBlock.toList [.int .i64 a, .int .i64 m, .slice A3 p.length c3] ⟨w3.heap.size, 0, none⟩ 1 rfl rfl (by exact Lay.edits.owBelow HOW3.out hb5) HND.out (by exact Lay.edit.owBelow HXE.out hb5) hfxn (w.heap.size + 1) HFP.out hfx9 (by exact cell_new3) (by omega) ?_
  intro v6 w6 fp6 ho6 hn6 hs6 hg6
  obtain ⟨n6, A6, c6, rfl⟩ : ∃ n A c, v6 = .slice A n c := by
    obtain ⟨A6, c6, e6, _, _, _⟩ := Lay.edits.read ho6
    simp only [List.cons.injEq, and_true] at e6
    exact ⟨_, _, _, e6⟩
  have hg6 : (w3.drew.alloc (.cells #[.int .i64 a, .int .i64 m, .slice A3 p.length c3] 42)).grownBy w6 v.ownBlock := ⟨hg6.os, hg6.tape, hg6.output, hg6.size, hg6.block⟩
  have hk6 := Keeps.of_grown hg6
  have HD6 := Lib.hid (show Blk w6 lb #[v] 109 from ((HD3.out.below hb5)).of_block (hk6.block lb (HD3.out.below hb5).lt (fun h => HNE.out lb (HOB.out lb h) rfl)))
  have HE6 := Lib.hid (show Blk w6 w.heap.size #[.int .i64 a, .int .i64 m, .slice A3 p.length c3] 42 from ((HE3.out.below hb5)).of_block (hk6.block _ (HE3.out.below hb5).lt (fun h => by have := HFP0.out _ (HOB.out _ h); omega)))
  have HO6 := Lib.hid ho6
  have HN6 := Lib.hid hn6
  have HS6 := Lib.hid hs6
  have HK6 := Lib.hid hk6
  have f6 := HD6.out.frozen 0
  have cc6 := HD6.out.cell 0
  have hzz6 := hk6.size
  clear ho6 hn6 hs6 hg6 hk6
  (try go_simp)
  refine hK.out _ _ (by exact ⟨(HE6.out).cell 0, (HE6.out).cell 1, (HE6.out).cell 2⟩) (fun hHeld => ?_)
  clear hK K
  (try simp only [Act.put, List.setIfInBounds_toArray, List.set_cons_zero, List.set_cons_succ])
  refine wpAnyH_take (i := 8) (oi := ?_) (v := ?_) ?_ ?_ ?_ ?_ ?_ ?_ (by exact hHeld) ?_
  rotate_left 2
  · (simp only [List.getElem?_toArray, List.getElem?_cons_zero, List.getElem?_cons_succ]; try rfl)
  · kernel_rfl
  · kernel_rfl
  · kernel_rfl
  · exact fun _ _ _ h => h
  · refine Or.inl ⟨by rfl, ?_⟩
    (intro V hSV; (try dsimp only at hSV); obtain ⟨q0, q1, q2⟩ := hSV; go_simp; try with_reducible rfl)
  (try simp only [Act.put, List.setIfInBounds_toArray, List.set_cons_zero, List.set_cons_succ])
  refine wpAnyH_take (i := 9) (oi := ?_) (v := ?_) ?_ ?_ ?_ ?_ ?_ ?_ (by exact hHeld) ?_
  rotate_left 2
  · (simp only [List.getElem?_toArray, List.getElem?_cons_zero, List.getElem?_cons_succ]; try rfl)
  · kernel_rfl
  · kernel_rfl
  · kernel_rfl
  · exact fun _ _ _ h => h
  · refine Or.inl ⟨by rfl, ?_⟩
    (intro V hSV; (try dsimp only at hSV); obtain ⟨q0, q1, q2⟩ := hSV; go_simp; try with_reducible rfl)
  (try simp only [Act.put, List.setIfInBounds_toArray, List.set_cons_zero, List.set_cons_succ])
  refine wpAnyH_ready (rs := [10]) (by kernel_rfl) (by simp) ?_
  refine AllReadyH.cons (o := ?_) ?_ (fun K hK => ?_) AllReadyH.nil
  rotate_left 1
  · (simp only [List.getElem?_toArray, List.getElem?_cons_zero, List.getElem?_cons_succ]; try rfl)
  go_simp
  refine hK.out _ _ (by exact ⟨((show Blk (w6.setCell ⟨lb, 0, none⟩ (.slice A6 n6 c6)) w.heap.size #[.int .i64 a, .int .i64 m, .slice A3 p.length c3] 42 from HE6.out.setOther (by show w.heap.size ≠ lb; omega) (.slice A6 n6 c6))).cell 0, ((show Blk (w6.setCell ⟨lb, 0, none⟩ (.slice A6 n6 c6)) w.heap.size #[.int .i64 a, .int .i64 m, .slice A3 p.length c3] 42 from HE6.out.setOther (by show w.heap.size ≠ lb; omega) (.slice A6 n6 c6))).cell 1, ((show Blk (w6.setCell ⟨lb, 0, none⟩ (.slice A6 n6 c6)) w.heap.size #[.int .i64 a, .int .i64 m, .slice A3 p.length c3] 42 from HE6.out.setOther (by show w.heap.size ≠ lb; omega) (.slice A6 n6 c6))).cell 2⟩) (fun hHeld => ?_)
  clear hK K
  (try simp only [Act.put, List.setIfInBounds_toArray, List.set_cons_zero, List.set_cons_succ])
  refine wpAnyH_done (by kernel_rfl) ?_ _
  clear hHeld
  have hput := (((Keeps.of_below (fp := lb :: fp) (HB3.out.trans (hb5.mono (by omega)))).trans (HK6.out.mono (fun k hk => List.mem_cons_of_mem _ (HOB.out k hk)))).set (List.mem_cons_self) 0 (.slice A6 n6 c6))
  have hne6 : ∀ k ∈ fp6, k ≠ lb := fun k hk e => by
    have hz9 := HB3.out.size
    rcases HS6.out k hk with h | h | h
    · exact HNE.out k h e
    · have := hfx9 k h; omega
    · simp at h; omega
  have HL := Lib.hid (show Lb (w6.setCell ⟨lb, 0, none⟩ (.slice A6 n6 c6)) B lb (.slice A6 n6 c6) (es ++ [(a, m, p)]) fp6 from ⟨by simpa using HD6.out.set 0 (.slice A6 n6 c6), Lay.edits.keeps HO6.out ((Keeps.refl [lb] w6).set (List.mem_singleton.2 rfl) 0 (.slice A6 n6 c6)) (fun k hk h => hne6 k hk (by simpa using h)), HN6.out, hne6, fun k hk => by
      have hz9 := HB3.out.size
      rcases HS6.out k hk with h | h | h
      · exact HLO.out k h
      · have := hfx9 k h; omega
      · simp at h; omega, hBl⟩)
  have hsub : ∀ k ∈ fp6, k ∈ fp ∨ w.heap.size ≤ k := fun k hk => by
    have hz9 := HB3.out.size
    rcases HS6.out k hk with h | h | h
    · exact .inl h
    · have := hfx9 k h; right; omega
    · simp at h; right; omega
  go_wp2
  go_end0
  exact ⟨rfl, _, _, HL.out, hsub, hput⟩
end Go.Proofs.Ytalcjgmmlmhngaa
