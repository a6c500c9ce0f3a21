/-
  append of one element, with what it owns, onto a slice of the call's own. Own work, over the library's law on rows of the call's own.
-/
import Derived.Test.YtgpjjolgpppeeaaDoorLay
namespace Go.Proofs.YtgpjjolgpppeeaaDoor
open Go.RowKit P
set_option linter.unusedVariables false

theorem alloc_size (w : World) (o : Obj) : (w.alloc o).heap.size = w.heap.size + 1 := by simp
theorem cell_new1 {w : World} {t : TypeId} {u : Value} : ∀ j x, ([u] : List Value)[j]? = some x → (w.alloc (.cells #[u] t)).cell? ((⟨w.heap.size, 0, none⟩ : Addr).add j) = some x := by
  intro j x hx
  match j, hx with
  | 0, hx =>
    simp only [List.getElem?_cons_zero, Option.some.injEq] at hx
    subst hx
    rw [show (⟨w.heap.size, 0, none⟩ : Addr).add 0 = ⟨w.heap.size, 0, none⟩ from rfl, World.cell?_alloc_at _ _ _ _ rfl]
    rfl

theorem ow_one {α : Type} {T : TypeId} {E : Lay α} {w : World} {v : Value} {l : List α} {fp : List Nat} (h : (Lay.slice T E).ow w [v] l fp) :
    ∃ es : List (El α), l = es.map (·.2.1) ∧ w.ownsRow 0 T E.sz v es.length (es.flatMap (·.1)) ∧ (∀ e ∈ es, E.ow w e.1 e.2.1 e.2.2) ∧ fp = v.ownBlock.toList ++ es.flatMap (·.2.2) := by
  obtain ⟨v', es, hv, hl, hrow, hes, hfp⟩ := h
  cases hv
  exact ⟨es, hl, hrow, hes, hfp⟩

theorem run_app_one {P : Program} {α : Type} {T : TypeId} {E : Lay α} {w : World} {v : Value} {l : List α} {fp : List Nat} {us : List Value} {x : α} {fx : List Nat} {z : Value} {size bytes : Nat} (t ty : TypeId) (ht : P.underlying t = some (.slice T))
    (hinfo : (P.info? T).map (fun i => (i.zero, i.size, i.bytes)) = some (some z, size, bytes)) (hsz : size = E.sz) (hzs : z.cells.size = size) (hpos : 0 < size)
    (h : (Lay.slice T E).ow w [v] l fp) (hn : fp.Nodup) (hx : E.ow w us x fx) (hnx : fx.Nodup) (B : Nat) (hB : ∀ k ∈ fp, k < B) (hB2 : ∀ k ∈ fx, B ≤ k)
    (a : Addr) (c : Nat) (hc : ∀ j u, us[j]? = some u → w.cell? (a.add j) = some u) (hlen : l.length ≤ 1000000) (hby : bytes ≤ 10000) :
    ∃ v' w' fp', (Builtin.append_ #[t, t] ty #[v, .slice (some a) 1 c]).run P w = .ok v' w' ∧ (Lay.slice T E).ow w' [v'] (l ++ [x]) fp' ∧ fp'.Nodup ∧ (∀ k ∈ fp', k ∈ fp ∨ k ∈ fx ∨ k = w.heap.size) ∧ w.grownBy w' v.ownBlock := by
  obtain ⟨es, rfl, hrow, hes, rfl⟩ := ow_one h
  obtain ⟨i, hi, hz, hs, hb⟩ := info_parts hinfo
  rw [List.length_map] at hlen
  have hus : us.length = E.sz := E.len (E.read hx)
  have hmul : (es.length + 1) * bytes ≤ 140737488355328 := by
    have : (es.length + 1) * bytes ≤ 1000001 * 10000 := Nat.mul_le_mul (by omega) hby
    omega
  obtain ⟨v', w', hrun, h2, h3, _, h5⟩ := run_append_own_at (P := P) w 0 t ty T i z size bytes ht hi hz hs hb hzs hpos v es.length (es.flatMap (·.1)) (by rw [hsz]; exact hrow) a 1 c us
    (by rw [hus, hsz, Nat.one_mul]) hc (E.one (E.read hx)) (by unfold maxLen; omega) hmul (Nat.zero_le _)
  rw [hsz] at h2
  rw [List.nodup_append] at hn
  obtain ⟨n1, n2, n3⟩ := hn
  have hkeep : ∀ k, k < w.heap.size → (∀ g, v.ownBlock = some g → k ≠ g) → w'.heap[k]? = w.heap[k]? := fun k hk hne => h3.block k hk (fun e => hne k e.symm rfl)
  have hsz' := h3.size
  refine ⟨v', w', v'.ownBlock.toList ++ (es.flatMap (·.2.2) ++ fx), hrun, ⟨v', es ++ [(us, x, fx)], rfl, by simp, ?_, ?_, by simp⟩, ?_, ?_, h3⟩
  · have e1 : (es ++ [(us, x, fx)]).length = es.length + 1 := by simp
    have e2 : (es ++ [(us, x, fx)]).flatMap (·.1) = es.flatMap (·.1) ++ us := by simp
    rw [e1, e2]
    exact h2
  · intro e he
    rcases List.mem_append.1 he with he | he
    · refine E.kept (hes e he) (fun k hk => hkeep k (E.lt (hes e he) k hk) (fun g hg hkg => ?_)) hsz'
      subst hkg
      exact n3 k (by rw [hg]; simp) k (List.mem_flatMap.2 ⟨e, he, hk⟩) rfl
    · have : e = (us, x, fx) := by simpa using he
      subst this
      refine E.kept hx (fun k hk => hkeep k (E.lt hx k hk) (fun g hg hkg => ?_)) hsz'
      subst hkg
      have := hB k (List.mem_append.2 (.inl (by rw [hg]; simp)))
      have := hB2 k hk
      omega
  · rw [List.nodup_append]
    refine ⟨by cases v'.ownBlock <;> simp, nodup_snoc n2 hnx (fun y hy => hB y (List.mem_append.2 (.inr hy))) hB2, fun p hp q hq hpq => ?_⟩
    subst hpq
    have hlt : p < w.heap.size := by
      rcases List.mem_append.1 hq with hq | hq
      · obtain ⟨e, he, hk⟩ := List.mem_flatMap.1 hq
        exact E.lt (hes e he) p hk
      · exact E.lt hx p hq
    have hp' : v'.ownBlock = some p := by simpa using hp
    rcases h5 with h5 | h5
    · rw [hp'] at h5
      rcases List.mem_append.1 hq with hq | hq
      · exact n3 p (by rw [← h5]; simp) p hq rfl
      · have := hB p (List.mem_append.2 (.inl (by rw [← h5]; simp)))
        have := hB2 p hq
        omega
    · rw [hp'] at h5
      injection h5 with h5
      omega
  · intro k hk
    rcases List.mem_append.1 hk with hk | hk
    · have hk' : v'.ownBlock = some k := by simpa using hk
      rcases h5 with h5 | h5
      · left; exact List.mem_append.2 (.inl (by rw [← h5, hk']; simp))
      · right; right; rw [hk'] at h5; injection h5
    · rcases List.mem_append.1 hk with hk | hk
      · left; exact List.mem_append.2 (.inr hk)
      · right; left; exact hk

theorem wpList_app_one {P : Program} {w : World} {ops : Array Oper} {rest : List Oper} {o : Oper} {a : Act} {Q : Exit → Act → World → Prop} (hgd : Region.wanted o (yielded ops a.tmps) = true) (s y : Operand) (t : TypeId)
    (ho : o.op = .call { callee := .builtin .append, args := #[s, y], argTypes := #[t, t] })
    {α : Type} (T : TypeId) (E : Lay α) (z : Value) (size bytes : Nat) (ht : P.underlying t = some (.slice T))
    (hinfo : (P.info? T).map (fun i => (i.zero, i.size, i.bytes)) = some (some z, size, bytes)) (hsz : size = E.sz) (hzs : z.cells.size = size) (hpos : 0 < size) (hby : bytes ≤ 10000)
    (v : Value) (l : List α) (fp : List Nat) (us : List Value) (x : α) (fx : List Nat) (ad : Addr) (c : Nat) (hs : a.eval s = v) (hy : a.eval y = .slice (some ad) 1 c)
    (h : (Lay.slice T E).ow w [v] l fp) (hn : fp.Nodup) (hx : E.ow w us x fx) (hnx : fx.Nodup) (B : Nat) (hB : ∀ k ∈ fp, k < B) (hB2 : ∀ k ∈ fx, B ≤ k)
    (hc : ∀ j u, us[j]? = some u → w.cell? (ad.add j) = some u) (hlen : l.length ≤ 1000000)
    (hK : ∀ v' w' fp', (Lay.slice T E).ow w' [v'] (l ++ [x]) fp' → fp'.Nodup → (∀ k ∈ fp', k ∈ fp ∨ k ∈ fx ∨ k = w.heap.size) → w.grownBy w' v.ownBlock → wpList P ops Q rest (a.put o.dst v') w') : wpList P ops Q (o :: rest) a w := by
  refine BigFrame.wpList_want hgd fun K hK2 => ?_
  obtain ⟨v', w', fp', hrun, h2, h3, h4, h5⟩ := run_app_one (P := P) t o.type ht hinfo hsz hzs hpos h hn hx hnx B hB hB2 ad c hc hlen hby
  unfold Oper.wp execOp
  simp only [ho, resolve, invoke, builtin, Sem.run_bind, Sem.run_pure, Result.andThen_ok, List.map_toArray, List.map_cons, List.map_nil, hs, hy, hrun]
  exact hK2 _ _ (hK v' w' fp' h2 h3 h4 h5)

theorem Lay.slice_nil {α : Type} (T : TypeId) (E : Lay α) (w : World) : (Lay.slice T E).ow w [.slice none 0 0] [] [] :=
  ⟨_, [], rfl, rfl, by simpa using World.ownsRow_nil w 0 T E.sz, by simp, rfl⟩
theorem Lay.slice_empty {α : Type} (T : TypeId) (E : Lay α) (w : World) : (Lay.slice T E).ow (w.alloc (.cells #[] T)) [.slice (some ⟨w.heap.size, 0, none⟩) 0 0] [] [w.heap.size] :=
  ⟨_, [], rfl, rfl, by simpa using World.ownsRow_made (base := 0) (e := T) (size := E.sz) w #[] 0 (Nat.zero_le _) (by unfold maxLen; omega) (by simp), by simp, rfl⟩

end Go.Proofs.YtgpjjolgpppeeaaDoor
