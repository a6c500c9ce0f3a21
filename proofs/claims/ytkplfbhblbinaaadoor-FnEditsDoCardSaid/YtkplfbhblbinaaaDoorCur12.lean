/-
  The laws' pick; the draw of EditsDo: contracts. Own work.
-/
import Derived.Test.YtkplfbhblbinaaaDoorCur11
namespace Go.Proofs.YtkplfbhblbinaaaDoor
open Go.RowKit P
set_option linter.unusedVariables false
set_option linter.unusedSimpArgs false
set_option maxRecDepth 100000

theorem run_app_many9 {P : Program} {α : Type} {T : TypeId} {E : Lay α} {w : World} {v : Value} {l r : List α} {fp fq : List Nat} {A : Option Addr} {m c : Nat} {z : Value} {size bytes : Nat} (t ty : TypeId) (ht : P.underlying t = some (.slice T))
    (hinfo : (P.info? T).map (fun i => (i.zero, i.size, i.bytes)) = some (some z, size, bytes)) (hsz : size = E.sz) (hzs : z.cells.size = size) (hpos : 0 < size)
    (h : (Lay.slice T E).ow w [v] l fp) (hn : fp.Nodup) (hr : (Lay.slice T E).ow w [.slice A m c] r fq) (hnr : fq.Nodup) (B : Nat) (hB : ∀ k ∈ fp, k < B) (hB2 : ∀ k ∈ fq, B ≤ k)
    (hlen : l.length ≤ 1000000) (hlen2 : r.length ≤ 1000000) (hby : bytes ≤ 10000) :
    ∃ v' w' fp', (Builtin.append_ #[t, t] ty #[v, .slice A m c]).run P w = .ok v' w' ∧ (Lay.slice T E).ow w' [v'] (l ++ r) fp' ∧ fp'.Nodup ∧ (∀ k ∈ fp', k ∈ fp ∨ k ∈ fq ∨ k = w.heap.size) ∧ w.grownBy w' v.ownBlock := by
  obtain ⟨es, rfl, hrow, hes, rfl⟩ := ow_one h
  obtain ⟨er, rfl, hrow2, her, rfl⟩ := ow_one hr
  obtain ⟨i, hi, hz, hs, hb⟩ := info_parts hinfo
  rw [List.length_map] at hlen hlen2
  have hm : m = er.length := by
    rcases hrow2.2 with ⟨e, h0⟩ | ⟨g, cap, cur, e, _⟩
    · simp only [Value.slice.injEq] at e; omega
    · simp only [Value.slice.injEq] at e; exact e.2.1
  subst hm
  have hmul : (es.length + er.length) * bytes ≤ 140737488355328 := by
    have : (es.length + er.length) * bytes ≤ 2000000 * 10000 := Nat.mul_le_mul (by omega) hby
    omega
  rw [List.nodup_append] at hn hnr
  obtain ⟨n1, n2, n3⟩ := hn
  obtain ⟨m1, m2, m3⟩ := hnr
  cases A with
  | none =>
    have h0 : er = [] := by
      rcases hrow2.2 with ⟨_, h0⟩ | ⟨g, cap, cur, e, _⟩
      · exact List.eq_nil_of_length_eq_zero h0
      · simp only [Value.slice.injEq] at e; exact absurd e.1 (by simp)
    subst h0
    refine ⟨v, w, v.ownBlock.toList ++ es.flatMap (·.2.2), ?_, by simpa using h, List.nodup_append.2 ⟨n1, n2, n3⟩, fun k hk => .inl hk, World.grownBy.refl w _⟩
    rcases hrow.2 with ⟨rfl, h1⟩ | ⟨g, cap, cur, rfl, _, _, hnc, _⟩
    · simp [Builtin.append_, run_underlying ht, sizeOf, typeInfo, hi, Builtin.lenOf, Builtin.firstCells]
    · simp [Builtin.append_, run_underlying ht, sizeOf, typeInfo, hi, Builtin.lenOf, Builtin.firstCells, hnc, storeCells]
  | some a =>
    have hlr : ∀ e ∈ er, (e.1 : List Value).length = E.sz := fun e he => E.len (E.read (her e he))
    have hfl := flat_len E.sz er (·.1) hlr
    have hcells : ∀ j u, (er.flatMap (·.1))[j]? = some u → w.cell? (a.add j) = some u := by
      intro j u hu
      obtain ⟨A', c', hv, _, _, h3⟩ := ownsRow_form hrow2
      simp only [Value.slice.injEq] at hv
      obtain ⟨hj, hx⟩ := List.getElem?_eq_some_iff.1 hu
      obtain ⟨b, hA, _, hc⟩ := h3 j hj
      rw [← hv.1] at hA
      cases hA
      rw [add_plain, Nat.zero_add, hc, hx]
    have hone : ∀ u ∈ er.flatMap (·.1), u.oneCell' = true := by
      intro u hu
      obtain ⟨e, he, hu⟩ := List.mem_flatMap.1 hu
      exact E.one (E.read (her e he)) u hu
    obtain ⟨v', w', hrun, h2, h3, _, h5⟩ := run_append_own_at (P := P) w 0 t ty T i z size bytes ht hi hz hs hb hzs hpos v es.length (es.flatMap (·.1)) (by rw [hsz]; exact hrow) a er.length c (er.flatMap (·.1))
      (by rw [hfl, hsz]) hcells hone (by unfold maxLen; omega) hmul (Nat.zero_le _)
    rw [hsz] at h2
    have hkeep : ∀ k, k < w.heap.size → (∀ g, v.ownBlock = some g → k ≠ g) → w'.heap[k]? = w.heap[k]? := fun k hk hne => h3.block k hk (fun e => hne k e.symm rfl)
    have hsz' := h3.size
    refine ⟨v', w', v'.ownBlock.toList ++ (es.flatMap (·.2.2) ++ er.flatMap (·.2.2)), hrun, ⟨v', es ++ er, rfl, by simp, ?_, ?_, by simp⟩, ?_, ?_, h3⟩
    · have e1 : (es ++ er).length = es.length + er.length := by simp
      have e2 : (es ++ er).flatMap (·.1) = es.flatMap (·.1) ++ er.flatMap (·.1) := by simp
      rw [e1, e2]
      exact h2
    · intro e he
      rcases List.mem_append.1 he with he | he
      · refine E.kept (hes e he) (fun k hk => hkeep k (E.lt (hes e he) k hk) (fun g hg hkg => ?_)) hsz'
        subst hkg
        exact n3 k (by rw [hg]; simp) k (List.mem_flatMap.2 ⟨e, he, hk⟩) rfl
      · refine E.kept (her e he) (fun k hk => hkeep k (E.lt (her e he) k hk) (fun g hg hkg => ?_)) hsz'
        subst hkg
        have := hB k (List.mem_append.2 (.inl (by rw [hg]; simp)))
        have := hB2 k (List.mem_append.2 (.inr (List.mem_flatMap.2 ⟨e, he, hk⟩)))
        omega
    · rw [List.nodup_append]
      refine ⟨by cases v'.ownBlock <;> simp, nodup_snoc n2 m2 (fun y hy => hB y (List.mem_append.2 (.inr hy))) (fun y hy => hB2 y (List.mem_append.2 (.inr hy))), fun p hp q hq hpq => ?_⟩
      subst hpq
      have hlt : p < w.heap.size := by
        rcases List.mem_append.1 hq with hq | hq
        · obtain ⟨e, he, hk⟩ := List.mem_flatMap.1 hq
          exact E.lt (hes e he) p hk
        · obtain ⟨e, he, hk⟩ := List.mem_flatMap.1 hq
          exact E.lt (her e he) p hk
      have hp' : v'.ownBlock = some p := by simpa using hp
      rcases h5 with h5 | h5
      · rw [hp'] at h5
        rcases List.mem_append.1 hq with hq | hq
        · exact n3 p (by rw [← h5]; simp) p hq rfl
        · have := hB p (List.mem_append.2 (.inl (by rw [← h5]; simp)))
          have := hB2 p (List.mem_append.2 (.inr hq))
          omega
      · rw [hp'] at h5
        injection h5 with h5
        omega
    · intro k hk
      rcases List.mem_append.1 hk with hk | hk
      · have hk' : v'.ownBlock = some k := by simpa using hk
        rcases h5 with h5 | h5
        · left; exact List.mem_append.2 (.inl (by rw [← h5, hk']; simp))
        · right; right; rw [hk'] at h5; injection h5
      · rcases List.mem_append.1 hk with hk | hk
        · left; exact List.mem_append.2 (.inr hk)
        · right; left; exact List.mem_append.2 (.inr hk)

theorem wpList_app_many9 {P : Program} {ops : Array Oper} {rest : List Oper} {o : Oper} {a : Act} {w : World} {Q : Exit → Act → World → Prop} (hgd : Region.wanted o (yielded ops a.tmps) = true) (s y : Operand) (t : TypeId)
    (ho : o.op = .call { callee := .builtin .append, args := #[s, y], argTypes := #[t, t] })
    {α : Type} (T : TypeId) (E : Lay α) (z : Value) (size bytes : Nat) (ht : P.underlying t = some (.slice T))
    (hinfo : (P.info? T).map (fun i => (i.zero, i.size, i.bytes)) = some (some z, size, bytes)) (hsz : size = E.sz) (hzs : z.cells.size = size) (hpos : 0 < size) (hby : bytes ≤ 10000)
    (v : Value) (l r : List α) (fp fq : List Nat) (A : Option Addr) (m c : Nat) (hs : a.eval s = v) (hy : a.eval y = .slice A m c)
    (h : (Lay.slice T E).ow w [v] l fp) (hn : fp.Nodup) (hr : (Lay.slice T E).ow w [.slice A m c] r fq) (hnr : fq.Nodup) (B : Nat) (hB : ∀ k ∈ fp, k < B) (hB2 : ∀ k ∈ fq, B ≤ k)
    (hlen : l.length ≤ 1000000) (hlen2 : r.length ≤ 1000000)
    (hK' : ∀ v' w' fp', (Lay.slice T E).ow w' [v'] (l ++ r) fp' → fp'.Nodup → (∀ k ∈ fp', k ∈ fp ∨ k ∈ fq ∨ k = w.heap.size) → w.grownBy w' v.ownBlock → wpList P ops Q rest (a.put o.dst v') w') : wpList P ops Q (o :: rest) a w := by
  refine BigFrame.wpList_want hgd fun K hK => ?_
  obtain ⟨v', w', fp', hrun, h2, h3, h4, h5⟩ := run_app_many9 (P := P) t o.type ht hinfo hsz hzs hpos h hn hr hnr B hB hB2 hlen hlen2 hby
  unfold Oper.wp execOp
  simp only [ho, resolve, invoke, builtin, Sem.run_bind, Sem.run_pure, Result.andThen_ok, List.map_toArray, List.map_cons, List.map_nil, hs, hy, hrun]
  exact hK _ _ (hK' v' w' fp' h2 h3 h4 h5)

set_option maxHeartbeats 4000000 in
theorem lawPick_any (A : Option Addr) (l : List UInt8) (c : Nat) (n : Int) (w : World) (hl : l.length ≤ 1048576) (h0 : 0 ≤ n) (hn : n ≤ 1000) (hA : Bs w A l) :
    Calls Tryd.prog 28 #[.slice A l.length c, .int .i64 3, .int .i64 n] w fun e w' => (∃ x : Int, e = .returned (.int .i64 x) ∧ 0 ≤ x ∧ (x < n ∨ (n < 2 ∧ x = 0))) ∧ Below w.heap.size w w' := by
  by_cases hz : l.length = 0
  · have g1 : ((l.length : Int) == 0) = true := by simp [hz]
    have H := Lib.hid hz
    clear hz
    go_enter Tryd.func28, Tryd.ntmps28
    go_wp2
    go_ret
    exact ⟨⟨0, rfl, Int.le_refl _, by omega⟩, Below.refl _ _⟩
  have g1 : ((l.length : Int) == 0) = false := by rw [beq_eq_false_iff_ne]; omega
  by_cases hn2 : n < 2
  · go_enter Tryd.func28, Tryd.ntmps28
    go_wp2
    go_ret
    exact ⟨⟨0, rfl, Int.le_refl _, .inr ⟨hn2, rfl⟩⟩, Below.refl _ _⟩
  have hlz : (l.length : Int) ≠ 0 := by omega
  have hnz : n ≠ 0 := by omega
  go_enter Tryd.func28, Tryd.ntmps28
  go_wp2
  go_loopw [7, 8] (fun xx kk wr => ∃ (x : Int) (k : Nat), xx = .int .i64 x ∧ kk = .int .i64 k ∧ 0 ≤ x ∧ ((k = 0 ∧ x ≤ 0) ∨ (k = 1 ∧ x ≤ 255) ∨ (k = 2 ∧ x ≤ 8160) ∨ (k = 3 ∧ x ≤ 253215)) ∧ Below w.heap.size w wr) (fun _ kk _ => 3 - (intOf kk).toNat)
  case atStart => exact ⟨0, 0, rfl, rfl, Int.le_refl _, .inl ⟨rfl, Int.le_refl _⟩, Below.refl _ _⟩
  case round =>
    obtain ⟨x, k, rfl, rfl, hx0, hx, hb⟩ := hrel
    by_cases hk : k < 3
    · obtain ⟨m, hme, hml⟩ : ∃ m : Nat, (3 + (k : Int)) % (l.length : Int) = (m : Int) ∧ m < l.length := by
        refine ⟨(3 + k) % l.length, by rw [Int.natCast_emod, Int.natCast_add]; rfl, Nat.mod_lt _ (by omega)⟩
      obtain ⟨b, off, rfl, hbl, hc⟩ := (hA.below hb) m hml
      have hu := (l[m]).toNat_lt
      obtain ⟨bn, hbn⟩ : ∃ bn : Int, bn = (l[m]).toNat := ⟨_, rfl⟩
      rw [← hbn] at hc
      have hbn1 : 0 ≤ bn ∧ bn ≤ 255 := by omega
      have hml' : (m : Int) < (l.length : Int) := by omega
      have hx9 : x ≤ 8160 := by omega
      have hne : ¬ (l.length : Int) = 0 := by omega
      have hw1 : IntKind.i64.wrap (31 * x) = 31 * x := IntWalk.i64_in _ ⟨by omega, by omega⟩
      have hw2 : IntKind.i64.wrap (31 * x + bn) = 31 * x + bn := IntWalk.i64_in _ ⟨by omega, by omega⟩
      clear hbn hu
      go_wp2
      go_roundw
      case rel => exact ⟨31 * x + bn, k + 1, rfl, by go_num, by omega, by omega, hb⟩
      case measure => first | (simp [intOf]; done) | (simp [intOf]; omega)
    · have hbd := emod_bd (x + 3) n (by omega)
      have hx9 : x ≤ 253215 := by omega
      have hw2 : IntKind.i64.wrap (x + 3) = x + 3 := IntWalk.i64_in _ ⟨by omega, by omega⟩
      have hx3 : 0 ≤ x + 3 := by omega
      go_wp2
      go_ret
      exact ⟨⟨_, rfl, hbd.1, .inl hbd.2⟩, hb⟩

/-- A row of two edits, new. -/
theorem two_edits {w : World} {a m a' m' : Int} {v v' : Value} {p p' : List UInt8} {b b' : Nat} (ha : -9223372036854775808 ≤ a ∧ a ≤ 9223372036854775807) (hm : -9223372036854775808 ≤ m ∧ m ≤ 9223372036854775807) (ha' : -9223372036854775808 ≤ a' ∧ a' ≤ 9223372036854775807) (hm' : -9223372036854775808 ≤ m' ∧ m' ≤ 9223372036854775807)
    (h : Own w b v p) (h' : Own w b' v' p') : Lay.edits.ow (w.alloc (.cells #[.int .i64 a, .int .i64 m, v, .int .i64 a', .int .i64 m', v'] 25)) [.slice (some ⟨w.heap.size, 0, none⟩) 2 2] [(a, m, p), (a', m', p')] (w.heap.size :: (v.ownBlock.toList ++ v'.ownBlock.toList)) := by
  have hal := (Below.refl w.heap.size w).alloc (Nat.le_refl _) (.cells #[.int .i64 a, .int .i64 m, v, .int .i64 a', .int .i64 m', v'] 25)
  refine ⟨_, [([.int .i64 a, .int .i64 m, v], (a, m, p), v.ownBlock.toList), ([.int .i64 a', .int .i64 m', v'], (a', m', p'), v'.ownBlock.toList)], rfl, rfl, ?_, ?_, by simp [Value.ownBlock]⟩
  · refine ⟨rfl, .inr ⟨w.heap.size, 2, _, rfl, Nat.zero_le _, heap_alloc_new w _, Nat.le_refl _, by unfold maxLen; simp, rfl, rfl⟩⟩
  · intro e he
    simp only [List.mem_cons, List.not_mem_nil, or_false] at he
    rcases he with rfl | rfl
    · exact own_edit ha hm (h.below hal)
    · exact own_edit ha' hm' (h'.below hal)

theorem edits_plain {w : World} {A : Option Addr} {n c : Nat} {es : List Ed} {fp : List Nat} (h : Lay.edits.ow w [.slice A n c] es fp) : Pl A c := by
  obtain ⟨xs, _, hrow, _, _⟩ := ow_one h
  rcases hrow.2 with ⟨e, _⟩ | ⟨g, cap, cur, e, _⟩
  · simp only [Value.slice.injEq] at e
    obtain ⟨rfl, rfl, rfl⟩ := e
    unfold Pl
    exact ⟨fun _ => rfl, fun a h => (by cases h)⟩
  · simp only [Value.slice.injEq] at e
    obtain ⟨rfl, rfl, rfl⟩ := e
    exact Pl.some_ _ _ _

/-- What a draw of a text and edits ends in. -/
def DrawsTEs (w : World) (e : Ending) (w' : World) : Prop :=
  ∃ A l c B es d, e = .returned (.tuple #[.slice A l.length c, .slice B es.length d]) ∧ l.length ≤ 401 ∧ l.length ≤ c ∧ c ≤ 9223372036854775807 ∧ Pl A c ∧ Bs w' A l ∧ es.length ≤ 11 ∧ es.length ≤ d ∧ d ≤ maxLen ∧ Pl B d ∧ Es w' B es ∧ Below w.heap.size w w'

set_option maxHeartbeats 8000000 in
theorem drawEditsDo_any (A : Option Addr) (l : List UInt8) (c : Nat) (w : World) (hl : l.length ≤ 1048576) (hA : Bs w A l) :
    Calls Tryd.prog 30 #[.slice A l.length c] w (DrawsTEs w) := by
  go_enter Tryd.func30, Tryd.ntmps30
  go_wp2_with fail
  refine (l01Open_any A l c _ hl (by exact hA)).mono ?_
  rintro e w1 ⟨rfl, hc0, hb0⟩
  obtain ⟨g, hg⟩ : ∃ g, w.heap.size = g := ⟨_, rfl⟩
  have hwg : w.heap.size ≤ g := by omega
  have hs0 := hb0.size
  rw [hg] at hc0 ⊢
  clear hg
  have hgl := hc0.lt
  go_wp2_with fail
  refine (text_any g 0 40 _ (by omega) (by omega) (by exact hc0)).mono ?_
  rintro e w2 ⟨v2, t, rfl, hown2, ht, hc2, ho2⟩
  obtain ⟨A2, c2, rfl, hlc2, hcm2, hB2, hp1, hp2⟩ := own_plain9 hown2
  have hPl2 : Pl A2 c2 := by unfold Pl; exact ⟨hp1, hp2⟩
  have hne2 : ∀ b off, A2 = some ⟨b, off, none⟩ → 0 < t.length → b ≠ g := fun b off e _ => by
    have h2 := (hown2.range b (by rw [e]; simp [Value.ownBlock])).1
    omega
  have hb2 := hb0.trans (ho2.below w.heap.size hwg hs0)
  have hs2 := ho2.size
  clear hc0 hb0
  go_wp2_with fail
  refine (edits_any g (0 + 1 + 3 * 40) 9 A2 t c2 _ (by omega) (by omega) hlc2 hcm2 hPl2 (by exact hc2) (by exact hB2) hne2).mono ?_
  rintro e w3 ⟨v3, es, fp, rfl, how3, hnd3, hfp3, hes3, hc3, ho3⟩
  obtain ⟨A3, c3, e3, hlc3, hcm3, hE3⟩ := Lay.edits.read how3
  cases e3
  have hB3 := ho3.bs hB2 hne2
  have hb3 := hb2.trans (ho3.below w.heap.size hwg (by omega))
  have hs3 := ho3.size
  have hlt3 := Lay.edits.lt how3
  clear hc2 hB2 hb2
  go_wp2_with fail
  refine (once_any g (0 + 1 + 3 * 40 + 1 + 60 * 9) 3 _ (by omega) (by omega) (by omega) (by exact hc3)).mono ?_
  rintro e w4 ⟨q, rfl, hc4, ho4⟩
  have hB4 := ho4.bs hB3 hne2
  have how4 := Lay.only Lay.edits how3 ho4 (by intro k hk; have := hfp3 k hk; omega)
  have hb4 := hb3.trans (ho4.below w.heap.size hwg (by omega))
  have hs4 := ho4.size
  clear hc3 hB3 hb3 how3
  go_upto_if 15 with fail
  go_cut [6] (fun sl wx => ∃ (B : Option Addr) (es' : List Ed) (d : Nat) (fp' : List Nat), sl = .slice B es'.length d ∧ Lay.edits.ow wx [.slice B es'.length d] es' fp' ∧ es'.length ≤ 11 ∧ (∀ k ∈ fp', g < k) ∧ Cur wx g 1000 ∧ Bs wx A2 t ∧ Below w.heap.size w wx ∧ w4.heap.size ≤ wx.heap.size)
  case first =>
    cases q
    · go_wp2
      go_meet
      exact ⟨A3, es, c3, fp, rfl, how4, by omega, (fun k hk => by have := hfp3 k hk; omega), hc4.mono (by omega), hB4, hb4, Nat.le_refl _⟩
    · go_wp2_with fail
      refine (badEdit_any g (0 + 1 + 3 * 40 + 1 + 60 * 9 + 1) A2 t c2 _ (by omega) (by omega) hlc2 hcm2 (by exact hc4) (by exact hB4)).mono ?_
      rintro e w5 ⟨a, m, v5, p, rfl, ha, hm, hown5, hp5, hc5, ho5⟩
      obtain ⟨A5, c5, rfl, _, _, _⟩ := hown5.form
      have hB5 := ho5.bs hB4 hne2
      have how5 := Lay.only Lay.edits how4 ho5 (by intro k hk; have := hfp3 k hk; omega)
      have hb5 := hb4.trans (ho5.below w.heap.size hwg (by omega))
      have hs5 := ho5.size
      clear hc4 hB4 hb4 how4
      go_wp2_with fail
      refine (edit_any g (0 + 1 + 3 * 40 + 1 + 60 * 9 + 1 + 150) A2 t c2 _ (by omega) hlc2 hcm2 (by exact hc5) (by exact hB5)).mono ?_
      rintro e w6 ⟨a', m', v6, p', rfl, ha', hm', hown6, hp6, hc6, ho6⟩
      obtain ⟨A6, c6, rfl, _, _, _⟩ := hown6.form
      have hB6 := ho6.bs hB5 hne2
      have how6 := Lay.only Lay.edits how5 ho6 (by intro k hk; have := hfp3 k hk; omega)
      have hown56 := hown5.only ho6 (by omega)
      have hb6 := hb5.trans (ho6.below w.heap.size hwg (by omega))
      have hs6 := ho6.size
      have hr5 := hown5.range
      have hr6 := hown6.range
      have hf5 := hown5.fp
      have hf6 := hown6.fp
      have hal := (Below.refl w6.heap.size w6).alloc (Nat.le_refl _) (.cells #[.int .i64 a, .int .i64 m, .slice A5 p.length c5, .int .i64 a', .int .i64 m', .slice A6 p'.length c6] 25)
      have htwo := two_edits ha hm ha' hm' hown56 (hown6.mono (base' := w4.heap.size) hs5)
      have how7 := Lay.edits.owBelow how6 hal
      have hc7 := hc6.only_new hal
      have hb7 := hb6.trans (hal.mono (by omega))
      have hB7 := hB6.below hal
      have hnd2 : (w6.heap.size :: ((Value.slice A5 p.length c5).ownBlock.toList ++ (Value.slice A6 p'.length c6).ownBlock.toList)).Nodup := by
        rw [List.nodup_cons]
        refine ⟨fun h => ?_, nodup_snoc hf5.1 hf6.1 (B := w5.heap.size) (fun x hx => (hr5 x hx).2) (fun x hx => (hr6 x hx).1)⟩
        rcases List.mem_append.1 h with h | h
        · have := (hr5 _ h).2; omega
        · have := (hr6 _ h).2; omega
      have hlo2 : ∀ k ∈ (w6.heap.size :: ((Value.slice A5 p.length c5).ownBlock.toList ++ (Value.slice A6 p'.length c6).ownBlock.toList)), w3.heap.size ≤ k := fun k hk => by
        rcases List.mem_cons.1 hk with h | h
        · omega
        · rcases List.mem_append.1 h with h | h
          · have := (hr5 _ h).1; omega
          · have := (hr6 _ h).1; omega
      have hL6 : es.length ≤ 1000000 := by omega
      have HW := Lib.hid how7
      have HTWO := Lib.hid htwo
      have HC7 := Lib.hid hc7
      have HB7 := Lib.hid hb7
      have HBT := Lib.hid hB7
      clear how7 htwo hc7 hb7 hal hown56 how6 how5 hB7
      go_wp2_with (at_builtin; go_must (refine wpList_app_many9 rfl _ _ 43 rfl 25 Lay.edit (.agg #[.int .i64 0, .int .i64 0, .slice none 0 0]) 3 40 Tryd.underlying43 Tryd.infoEd rfl rfl (by decide) (by decide) _ es [(a, m, p), (a', m', p')] fp _ (some ⟨w6.heap.size, 0, none⟩) 2 2 rfl rfl HW.out hnd3 HTWO.out hnd2 w3.heap.size ?d1 ?d2 hL6 ?d3 ?_))
      case d1 => exact fun k hk => hlt3 k hk
      case d2 => exact hlo2
      case d3 => simp
      intro v8 w8 fp8 how8 hnd8 hfp8 hg8
      obtain ⟨A8, c8, e8, hlc8, hcm8, hE8⟩ := Lay.edits.read how8
      cases e8
      have hvb : ∀ x, (Value.slice A3 es.length c3).ownBlock = some x → x ∈ fp := fun x hx => by
        obtain ⟨es9, _, _, _, e9⟩ := ow_one HW.out
        rw [e9, hx]; simp
      have hc8 := HC7.out.grownE HW.out hg8 (fun k hk => by have := hfp3 k hk; omega)
      have hsA : w6.heap.size ≤ (w6.alloc (.cells #[.int .i64 a, .int .i64 m, .slice A5 p.length c5, .int .i64 a', .int .i64 m', .slice A6 p'.length c6] 25)).heap.size := by simp
      have hb8 := HB7.out.grown hg8 (by omega) (fun x hx => by have := hfp3 x (hvb x hx); omega)
      have hB8 : Bs w8 A2 t := Bs.of_heap HBT.out hg8.size (fun b off e h0 => hg8.block b (by
          have h2 := (hown2.range b (by rw [e]; simp [Value.ownBlock])).2
          omega) (fun e2 => by
          have h2 := (hown2.range b (by rw [e]; simp [Value.ownBlock])).2
          have h3 := hfp3 b (hvb b e2.symm)
          omega))
      have hf8 : ∀ k ∈ fp8, g < k := fun k hk => by
        rcases hfp8 k hk with h | h | h
        · have := hfp3 k h; omega
        · have := hlo2 k (by simpa using h); omega
        · omega
      have hs8 := hg8.size
      go_wp2
      go_meet
      exact ⟨A8, es ++ [(a, m, p), (a', m', p')], c8, fp8, rfl, how8, by simp; omega, hf8, hc8.mono (by omega), hB8, hb8, by omega⟩
  case rest =>
    obtain ⟨B, es', d, fp', rfl, how, hes, hfp, hc, hBt, hb, hsz⟩ := hcut
    have hPlB := edits_plain how
    obtain ⟨B', d', eB, hlB, hcB, hEB⟩ := Lay.edits.read how
    simp only [List.cons.injEq, Value.slice.injEq, true_and, and_true] at eB
    obtain ⟨rfl, rfl⟩ := eB
    go_wp2_with fail
    refine (once_any g 1000 12 _ (by omega) (by omega) (by omega) (by exact hc)).mono ?_
    rintro e w9 ⟨q9, rfl, hc9, ho9⟩
    have hBt9 := ho9.bs hBt hne2
    have how9 := Lay.only Lay.edits how ho9 hfp
    have hb9 := hb.trans (ho9.below w.heap.size hwg (by omega))
    have hs9 := ho9.size
    clear hc hBt how hb hEB
    cases q9
    · obtain ⟨_, _, e9, _, _, hE9⟩ := Lay.edits.read how9
      simp only [List.cons.injEq, Value.slice.injEq, true_and, and_true] at e9
      obtain ⟨rfl, rfl⟩ := e9
      go_wp2
      go_ret2
      exact ⟨A2, t, c2, _, es', _, rfl, by omega, hlc2, hcm2, hPl2, hBt9, hes, hlB, hcB, hPlB, hE9, hb9⟩
    · go_wp2_with fail
      refine (badText_any g (1000 + 1) 40 _ (by omega) (by omega) (by exact hc9)).mono ?_
      rintro e w10 ⟨v10, u, rfl, hown10, hu, hc10, ho10⟩
      obtain ⟨A10, c10, rfl, hlc10, hcm10, hB10, hp101, hp102⟩ := own_plain9 hown10
      have hPl10 : Pl A10 c10 := by unfold Pl; exact ⟨hp101, hp102⟩
      have how10 := Lay.only Lay.edits how9 ho10 hfp
      have hb10 := hb9.trans (ho10.below w.heap.size hwg (by omega))
      obtain ⟨_, _, e9, _, _, hE10⟩ := Lay.edits.read how10
      simp only [List.cons.injEq, Value.slice.injEq, true_and, and_true] at e9
      obtain ⟨rfl, rfl⟩ := e9
      go_wp2
      go_ret2
      exact ⟨A10, u, c10, _, es', _, rfl, by omega, hlc10, hcm10, hPl10, hB10, hes, hlB, hcB, hPlB, hE10, hb10⟩
end Go.Proofs.YtkplfbhblbinaaaDoor
