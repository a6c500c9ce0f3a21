/-
  Chapter 4, the model's l04Copy: contract. Own work.
-/
import Derived.Test.YthnahenpnafkmaaDoorR04
import Derived.Test.YthnahenpnafkmaaDoorSnoc
namespace Go.Proofs.YthnahenpnafkmaaDoor
open Go.RowKit P
set_option linter.unusedVariables false
set_option linter.unusedSimpArgs false
set_option maxRecDepth 100000

/-- append of a slice of the call's own, with what its elements own, onto another. -/
theorem run_app_many {P : Program} {α : Type} {T : TypeId} {E : Lay α} {w : World} {v : Value} {l r : List α} {fp fq : List Nat} {A : Option Addr} {m c : Nat} {z : Value} {size bytes : Nat} (t ty : TypeId) (ht : P.underlying t = some (.slice T))
    (hinfo : (P.info? T).map (fun i => (i.zero, i.size, i.bytes)) = some (some z, size, bytes)) (hsz : size = E.sz) (hzs : z.cells.size = size) (hpos : 0 < size)
    (h : (Lay.slice T E).ow w [v] l fp) (hn : fp.Nodup) (hr : (Lay.slice T E).ow w [.slice A m c] r fq) (hnr : fq.Nodup) (B : Nat) (hB : ∀ k ∈ fp, k < B) (hB2 : ∀ k ∈ fq, B ≤ k)
    (hlen : l.length ≤ 1000000) (hlen2 : r.length ≤ 1000000) (hby : bytes ≤ 10000) :
    ∃ v' w' fp', (Builtin.append_ #[t, t] ty #[v, .slice A m c]).run P w = .ok v' w' ∧ (Lay.slice T E).ow w' [v'] (l ++ r) fp' ∧ fp'.Nodup ∧ (∀ k ∈ fp', k ∈ fp ∨ k ∈ fq ∨ k = w.heap.size) ∧ w.grownBy w' v.ownBlock := by
  obtain ⟨es, rfl, hrow, hes, rfl⟩ := ow_one h
  obtain ⟨er, rfl, hrow2, her, rfl⟩ := ow_one hr
  obtain ⟨i, hi, hz, hs, hb⟩ := info_parts hinfo
  rw [List.length_map] at hlen hlen2
  have hm : m = er.length := by
    rcases hrow2.2 with ⟨e, h0⟩ | ⟨g, cap, cur, e, _⟩
    · simp only [Value.slice.injEq] at e; omega
    · simp only [Value.slice.injEq] at e; exact e.2.1
  subst hm
  have hmul : (es.length + er.length) * bytes ≤ 140737488355328 := by
    have : (es.length + er.length) * bytes ≤ 2000000 * 10000 := Nat.mul_le_mul (by omega) hby
    omega
  rw [List.nodup_append] at hn hnr
  obtain ⟨n1, n2, n3⟩ := hn
  obtain ⟨m1, m2, m3⟩ := hnr
  cases A with
  | none =>
    have h0 : er = [] := by
      rcases hrow2.2 with ⟨_, h0⟩ | ⟨g, cap, cur, e, _⟩
      · exact List.eq_nil_of_length_eq_zero h0
      · simp only [Value.slice.injEq] at e; exact absurd e.1 (by simp)
    subst h0
    refine ⟨v, w, v.ownBlock.toList ++ es.flatMap (·.2.2), ?_, by simpa using h, List.nodup_append.2 ⟨n1, n2, n3⟩, fun k hk => .inl hk, World.grownBy.refl w _⟩
    rcases hrow.2 with ⟨rfl, h1⟩ | ⟨g, cap, cur, rfl, _, _, hnc, _⟩
    · simp [Builtin.append_, run_underlying ht, sizeOf, typeInfo, hi, Builtin.lenOf, Builtin.firstCells]
    · simp [Builtin.append_, run_underlying ht, sizeOf, typeInfo, hi, Builtin.lenOf, Builtin.firstCells, hnc, storeCells]
  | some a =>
    have hlr : ∀ e ∈ er, (e.1 : List Value).length = E.sz := fun e he => E.len (E.read (her e he))
    have hfl := flat_len E.sz er (·.1) hlr
    have hcells : ∀ j u, (er.flatMap (·.1))[j]? = some u → w.cell? (a.add j) = some u := by
      intro j u hu
      obtain ⟨A', c', hv, _, _, h3⟩ := ownsRow_form hrow2
      simp only [Value.slice.injEq] at hv
      obtain ⟨hj, hx⟩ := List.getElem?_eq_some_iff.1 hu
      obtain ⟨b, hA, _, hc⟩ := h3 j hj
      rw [← hv.1] at hA
      cases hA
      rw [add_plain, Nat.zero_add, hc, hx]
    have hone : ∀ u ∈ er.flatMap (·.1), u.oneCell' = true := by
      intro u hu
      obtain ⟨e, he, hu⟩ := List.mem_flatMap.1 hu
      exact E.one (E.read (her e he)) u hu
    obtain ⟨v', w', hrun, h2, h3, _, h5⟩ := run_append_own_at (P := P) w 0 t ty T i z size bytes ht hi hz hs hb hzs hpos v es.length (es.flatMap (·.1)) (by rw [hsz]; exact hrow) a er.length c (er.flatMap (·.1))
      (by rw [hfl, hsz]) hcells hone (by unfold maxLen; omega) hmul (Nat.zero_le _)
    rw [hsz] at h2
    have hkeep : ∀ k, k < w.heap.size → (∀ g, v.ownBlock = some g → k ≠ g) → w'.heap[k]? = w.heap[k]? := fun k hk hne => h3.block k hk (fun e => hne k e.symm rfl)
    have hsz' := h3.size
    refine ⟨v', w', v'.ownBlock.toList ++ (es.flatMap (·.2.2) ++ er.flatMap (·.2.2)), hrun, ⟨v', es ++ er, rfl, by simp, ?_, ?_, by simp⟩, ?_, ?_, h3⟩
    · have e1 : (es ++ er).length = es.length + er.length := by simp
      have e2 : (es ++ er).flatMap (·.1) = es.flatMap (·.1) ++ er.flatMap (·.1) := by simp
      rw [e1, e2]
      exact h2
    · intro e he
      rcases List.mem_append.1 he with he | he
      · refine E.kept (hes e he) (fun k hk => hkeep k (E.lt (hes e he) k hk) (fun g hg hkg => ?_)) hsz'
        subst hkg
        exact n3 k (by rw [hg]; simp) k (List.mem_flatMap.2 ⟨e, he, hk⟩) rfl
      · refine E.kept (her e he) (fun k hk => hkeep k (E.lt (her e he) k hk) (fun g hg hkg => ?_)) hsz'
        subst hkg
        have := hB k (List.mem_append.2 (.inl (by rw [hg]; simp)))
        have := hB2 k (List.mem_append.2 (.inr (List.mem_flatMap.2 ⟨e, he, hk⟩)))
        omega
    · rw [List.nodup_append]
      refine ⟨by cases v'.ownBlock <;> simp, nodup_snoc n2 m2 (fun y hy => hB y (List.mem_append.2 (.inr hy))) (fun y hy => hB2 y (List.mem_append.2 (.inr hy))), fun p hp q hq hpq => ?_⟩
      subst hpq
      have hlt : p < w.heap.size := by
        rcases List.mem_append.1 hq with hq | hq
        · obtain ⟨e, he, hk⟩ := List.mem_flatMap.1 hq
          exact E.lt (hes e he) p hk
        · obtain ⟨e, he, hk⟩ := List.mem_flatMap.1 hq
          exact E.lt (her e he) p hk
      have hp' : v'.ownBlock = some p := by simpa using hp
      rcases h5 with h5 | h5
      · rw [hp'] at h5
        rcases List.mem_append.1 hq with hq | hq
        · exact n3 p (by rw [← h5]; simp) p hq rfl
        · have := hB p (List.mem_append.2 (.inl (by rw [← h5]; simp)))
          have := hB2 p (List.mem_append.2 (.inr hq))
          omega
      · rw [hp'] at h5
        injection h5 with h5
        omega
    · intro k hk
      rcases List.mem_append.1 hk with hk | hk
      · have hk' : v'.ownBlock = some k := by simpa using hk
        rcases h5 with h5 | h5
        · left; exact List.mem_append.2 (.inl (by rw [← h5, hk']; simp))
        · right; right; rw [hk'] at h5; injection h5
      · rcases List.mem_append.1 hk with hk | hk
        · left; exact List.mem_append.2 (.inr hk)
        · right; left; exact List.mem_append.2 (.inr hk)

theorem step_app_many {P : Program} {ops : Array Oper} {o : Oper} {a : Act} {w : World} {K : Act → World → Prop} {Q : Exit → Act → World → Prop} {X : Prop} (hgd : o.guard = none) (s y : Operand) (t : TypeId)
    (ho : o.op = .call { callee := .builtin .append, args := #[s, y], argTypes := #[t, t] })
    {α : Type} (T : TypeId) (E : Lay α) (z : Value) (size bytes : Nat) (ht : P.underlying t = some (.slice T))
    (hinfo : (P.info? T).map (fun i => (i.zero, i.size, i.bytes)) = some (some z, size, bytes)) (hsz : size = E.sz) (hzs : z.cells.size = size) (hpos : 0 < size) (hby : bytes ≤ 10000)
    (v : Value) (l r : List α) (fp fq : List Nat) (A : Option Addr) (m c : Nat) (hs : a.eval s = v) (hy : a.eval y = .slice A m c)
    (h : (Lay.slice T E).ow w [v] l fp) (hn : fp.Nodup) (hr : (Lay.slice T E).ow w [.slice A m c] r fq) (hnr : fq.Nodup) (B : Nat) (hB : ∀ k ∈ fp, k < B) (hB2 : ∀ k ∈ fq, B ≤ k)
    (hlen : l.length ≤ 1000000) (hlen2 : r.length ≤ 1000000)
    (hK : ∀ v' w' fp', (Lay.slice T E).ow w' [v'] (l ++ r) fp' → fp'.Nodup → (∀ k ∈ fp', k ∈ fp ∨ k ∈ fq ∨ k = w.heap.size) → w.grownBy w' v.ownBlock → K (a.put o.dst v') w') :
    if Region.wanted o (yielded ops a.tmps) = true then Oper.wp P o a w K Q else X := by
  obtain ⟨v', w', fp', hrun, h2, h3, h4, h5⟩ := run_app_many (P := P) t o.type ht hinfo hsz hzs hpos h hn hr hnr B hB hB2 hlen hlen2 hby
  have hw : Region.wanted o (yielded ops a.tmps) = true := by simp [Region.wanted, hgd]
  rw [if_pos hw]
  unfold Oper.wp execOp
  simp only [ho, resolve, invoke, builtin, Sem.run_bind, Sem.run_pure, Result.andThen_ok, List.map_toArray, List.map_cons, List.map_nil, hs, hy, hrun]
  exact hK v' w' fp' h2 h3 h4 h5

set_option maxHeartbeats 4000000 in
theorem l04Copy_any (A : Option Addr) (ls : List (List UInt8)) (c : Nat) (w : World) (hlen : ls.length ≤ 1000000) (heach : ∀ x ∈ ls, x.length ≤ 1000000) (hC : Cs w A ls) :
    Calls Tryd.prog 38 #[.slice A ls.length c] w (Gives Lay.chunks wSlice ls w) := by
  have how0 := Lay.slice_empty 46 Lay.bytes w
  have hb0 := (Below.refl w.heap.size w).alloc (Nat.le_refl _) (.cells #[] 46)
  go_enter Tryd.func38, Tryd.ntmps38
  go_wp2
  go_loopw [3, 4] (fun list i wr => ∃ (k : Nat) (v : Value) (fp : List Nat), list = v ∧ i = .int .i64 k ∧ k ≤ ls.length ∧ Lay.chunks.ow wr [v] (ls.take k) fp ∧ fp.Nodup ∧ (∀ j ∈ fp, w.heap.size ≤ j ∧ j < wr.heap.size) ∧ Below w.heap.size w wr) (fun _ i _ => ls.length - (intOf i).toNat)
  case atStart => exact ⟨0, _, [w.heap.size], rfl, rfl, Nat.zero_le _, how0, by simp, by intro k hk; simp at hk; subst hk; exact ⟨Nat.le_refl _, by simp⟩, hb0⟩
  case round =>
    obtain ⟨k, v, fp, rfl, rfl, hk, how, hnd, hfp, hb⟩ := hrel
    by_cases hlt : k < ls.length
    · obtain ⟨b, off, B, d, rfl, hbl, hc, hld, hdm, hB⟩ := (hC.below hb).at_ k hlt
      have hX9 := heach ls[k] (List.getElem_mem hlt)
      have hnext : ls.take (k + 1) = ls.take k ++ [ls[k]] := by rw [List.take_succ_eq_append_getElem hlt]
      have hL6 : (ls.take k).length ≤ 1000000 := by rw [List.length_take]; omega
      have hki : (k : Int) < (ls.length : Int) := by omega
      generalize hX : ls[k] = X at *
      have HN := Lib.hid hnext
      clear hX hnext
      have hown0 : Own (wr.alloc (.cells #[] 5)) wr.heap.size (.slice (some ⟨wr.heap.size, 0, none⟩) 0 0) [] := World.ownsRow_made wr #[] 0 (Nat.le_refl _) (by unfold maxLen; omega) rfl
      have hal := (Below.refl wr.heap.size wr).alloc (Nat.le_refl _) (.cells #[] 5)
      have hbs := hb.size
      have hbw3 := below_then hb hal
      have hB0 := hB.below hal
      have how3 := Lay.chunks.owBelow how hal
      have hcell := (hal.cell (p := ⟨b, off + k, none⟩) hbl).trans hc
      have hX4 : ([] : List UInt8).length + X.length ≤ 1000000000 := by simp; omega
      clear how hal hB hc
      go_wp2_with (at_builtin; go_must (refine wpList_app_bytes rfl _ _ rfl wr.heap.size _ [] X _ X.length _ rfl rfl rfl hown0 hB0 ?c1 ?c2 ?_))
      case c1 => exact hX4
      case c2 => simp
      intro v3 w3 hown3 hg3 _
      have hb3 := (hbw3).grown hg3 hbw3.size (fun x hx => by have := (World.ownsRow.lt hown0 x hx).1; omega)
      have hkeep := Keeps.of_grown hg3
      have how4 := Lay.chunks.keeps how3 hkeep (fun x hx hx2 => by have := (hfp x hx).2; have := hown0.range x hx2; omega)
      have hr3 := hown3.range
      obtain ⟨A3, c3, rfl, _, _, _⟩ := hown3.form
      have hal := fun cs => (Below.refl w3.heap.size w3).alloc (Nat.le_refl _) (.cells cs 46)
      have how5 := Lay.chunks.owBelow how4 (hal #[.slice A3 X.length c3])
      have hown5 : Own _ wr.heap.size (.slice A3 X.length c3) X := hown3.below (hal #[.slice A3 X.length c3])
      have hb5 := below_then hb3 (hal #[.slice A3 X.length c3])
      have hs23 := hg3.size
      rw [alloc_size] at hs23
      have hown5' := hown5.ow
      have hfp5 := hown5.fp
      clear hown3 hal how3 how4 hkeep hg3 hb3 hbw3
      go_wp2_with (at_builtin; go_must (refine wpList_app_one rfl _ _ 24 rfl 46 Lay.bytes (.agg #[.slice none 0 0]) 1 24 Tryd.underlying24 Tryd.infoCh rfl rfl (by decide) (by decide) _ (ls.take k) fp [.slice A3 X.length c3] X _ ⟨w3.heap.size, 0, none⟩ 1 rfl rfl how5 hnd hown5' hfp5.1 wr.heap.size ?d1 ?d2 ?d3 hL6 ?_))
      case d1 => intro x hx; exact (hfp x hx).2
      case d2 => exact hfp5.2
      case d3 => exact cell_new1
      intro v6 w6 fp6 how6 hn6 hf6 hg6
      have hb6 := hb5.grown hg6 hb5.size (fun x hx => (hfp x (by obtain ⟨es, _, _, _, e⟩ := ow_one how5; rw [e, hx]; simp)).1)
      have hf6' : ∀ x ∈ fp6, w.heap.size ≤ x ∧ x < w6.heap.size := fun x hx => by
        refine ⟨?_, Lay.chunks.lt how6 x hx⟩
        rcases hf6 x hx with h | h | h
        · exact (hfp x h).1
        · have := hr3 x (by simpa using h); omega
        · omega
      rw [← HN.out] at how6
      clear how5 hown5 hown5' hfp5 hg6 hf6 hr3 hfp hb5 hown0 hB0
      go_wp2
      go_roundw
      case rel => exact ⟨k + 1, v6, fp6, rfl, by go_num, by omega, how6, hn6, hf6', hb6⟩
      case measure => simp [intOf]; omega
    · have e : k = ls.length := by omega
      subst e
      rw [List.take_length] at how
      obtain ⟨B, d, rfl, _, _, _⟩ := Lay.chunks_rd (Lay.chunks.read how)
      go_wp2
      go_ret
      exact ⟨[_], fp, rfl, how, hnd, fun j hj => (hfp j hj).1, hb⟩
end Go.Proofs.YthnahenpnafkmaaDoor
