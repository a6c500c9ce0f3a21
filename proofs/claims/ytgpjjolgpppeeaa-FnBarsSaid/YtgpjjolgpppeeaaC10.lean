/-
  Chapter 7: lists of leases of the call's own: append, clone, cut, clear. Own work.
-/
import Derived.Test.YtgpjjolgpppeeaaC09b
import Derived.Test.YtgpjjolgpppeeaaApp
import Derived.Lib.SliceRun
namespace Go.Proofs.Ytgpjjolgpppeeaa
open Go.RowKit P
set_option linter.unusedVariables false
set_option linter.unusedSimpArgs false
set_option maxRecDepth 100000

def leCl (l : Le) : List Value := (leC l).toList
theorem leCl_length (l : Le) : (leCl l).length = 4 := rfl
theorem leCl_flat (es : List Le) : (es.flatMap leCl).length = es.length * 4 := flat_len 4 es leCl (fun e _ => rfl)
theorem leCl_get (es : List Le) (k : Nat) (hk : k < es.length) (j : Nat) (hj : j < 4) : (es.flatMap leCl)[k * 4 + j]? = (leCl es[k])[j]? := by
  have h := flat_get 4 es leCl (fun e _ => rfl) k hk j (by rw [leCl_length]; exact hj)
  rw [h, List.getElem?_eq_getElem]
theorem leCl_one (es : List Le) : ∀ u ∈ es.flatMap leCl, u.oneCell' = true := by
  intro u hu
  obtain ⟨l, _, hu⟩ := List.mem_flatMap.1 hu
  unfold leCl leC at hu
  simp at hu
  rcases hu with rfl | rfl | rfl | rfl <;> rfl

/-- A slice of the call's own (from block base on, or nil) that holds the leases es. -/
structure OwR (w : World) (base : Nat) (v : Value) (es : List Le) : Prop where
  row : w.ownsRow base 43 4 v es.length (es.flatMap leCl)
  in_ : ∀ l ∈ es, leIn l
theorem OwR.below {w w' : World} {base : Nat} {v : Value} {es : List Le} (h : OwR w base v es) (hb : Below w.heap.size w w') : OwR w' base v es :=
  ⟨World.ownsRow.kept (w' := w') (row := none) h.row ⟨hb.os, hb.tape, hb.output, hb.size, fun k hk _ => hb.block k hk⟩ (by cases hv : v.ownBlock <;> simp), h.in_⟩
theorem OwR.mono {w : World} {base base' : Nat} {v : Value} {es : List Le} (h : OwR w base v es) (hb : base' ≤ base) : OwR w base' v es := by
  refine ⟨⟨h.row.1, ?_⟩, h.in_⟩
  rcases h.row.2 with h2 | ⟨g, cap, cur, hv, hg, r⟩
  · exact .inl h2
  · exact .inr ⟨g, cap, cur, hv, by omega, r⟩
theorem OwR.nil (w : World) (base : Nat) : OwR w base (.slice none 0 0) [] := ⟨World.ownsRow_nil w base _ _, by simp⟩
theorem OwR.empty (w : World) : OwR (w.alloc (.cells #[] 43)) w.heap.size (.slice (some ⟨w.heap.size, 0, none⟩) 0 0) [] :=
  ⟨World.ownsRow_made w #[] 0 (Nat.le_refl _) (by unfold maxLen; omega) rfl, by simp⟩
theorem OwR.owL {w : World} {base : Nat} {v : Value} {es : List Le} (h : OwR w base v es) : ∃ A c, v = .slice A es.length c ∧ OwL w base A es c v.ownBlock.toList := by
  have h0 := h.mono (Nat.zero_le base)
  have how : Lay.leases.ow w [v] es v.ownBlock.toList := by
    refine ⟨v, es.map (fun l => (leCl l, l, [])), rfl, by rw [List.map_map]; exact (List.map_id es).symm, ?_, ?_, ?_⟩
    · rw [List.length_map, List.flatMap_map]; exact h0.row
    · intro e he
      obtain ⟨l, hl, rfl⟩ := List.mem_map.1 he
      exact own_lease w (h.in_ l hl)
    · rw [List.flatMap_map]
      have : es.flatMap (fun _ => ([] : List Nat)) = [] := by simp
      rw [this, List.append_nil]
  obtain ⟨A, c, e, _, _, _⟩ := Lay.leases.read how
  simp only [List.cons.injEq, and_true] at e
  subst e
  exact ⟨A, c, rfl, how, by cases (Value.slice A es.length c).ownBlock <;> simp, fun k hk => (World.ownsRow.lt h.row k (by simpa using hk)).1⟩
theorem OwR.gives {w w' : World} {v : Value} {es : List Le} (h : OwR w' w.heap.size v es) (hb : Below w.heap.size w w') : Gives Lay.leases wSlice es w (.returned v) w' := by
  obtain ⟨A, c, rfl, hw⟩ := h.owL
  exact ⟨[.slice A es.length c], _, rfl, hw.ow, hw.nd, hw.lo, hb⟩
theorem OwR.ll {w : World} {base : Nat} {v : Value} {es : List Le} (h : OwR w base v es) : ∃ A c, v = .slice A es.length c ∧ es.length ≤ c ∧ c ≤ maxLen ∧ Ll w A es := by
  obtain ⟨A, c, rfl, hw⟩ := h.owL
  exact ⟨A, c, rfl, hw.cap.1, hw.cap.2, hw.ll⟩

theorem Ll.in_ {w : World} {A : Option Addr} {es : List Le} (h : Ll w A es) : ∀ l ∈ es, leIn l := by
  intro l hl
  obtain ⟨k, hk, rfl⟩ := List.getElem_of_mem hl
  obtain ⟨b, off, i, j, s, t, _, _, he, _, _, _, _, hin⟩ := h.at_ k hk
  rw [he]
  exact hin
theorem Ll.cells {w : World} {b off : Nat} {es : List Le} (h : Ll w (some ⟨b, off, none⟩) es) : ∀ j u, (es.flatMap leCl)[j]? = some u → w.cell? ((⟨b, off, none⟩ : Addr).add j) = some u := by
  intro j u hu
  have hj : j < es.length * 4 := by
    have := (List.getElem?_eq_some_iff.1 hu).1
    rw [leCl_flat] at this
    exact this
  obtain ⟨b', off', x, y, s, t, e, _, he, k0, k1, k2, k3, _⟩ := h.at_ (j / 4) (by omega)
  cases e
  have hg := leCl_get es (j / 4) (by omega) (j % 4) (by omega)
  rw [show j / 4 * 4 + j % 4 = j by omega, hu, he] at hg
  rw [add_plain]
  have h4 : j % 4 = 0 ∨ j % 4 = 1 ∨ j % 4 = 2 ∨ j % 4 = 3 := by omega
  rcases h4 with h4 | h4 | h4 | h4
  · rw [h4] at hg; rw [show off + j = off + j / 4 * 4 by omega, k0]; exact hg.symm
  · rw [h4] at hg; rw [show off + j = off + j / 4 * 4 + 1 by omega, k1]; exact hg.symm
  · rw [h4] at hg; rw [show off + j = off + j / 4 * 4 + 2 by omega, k2]; exact hg.symm
  · rw [h4] at hg; rw [show off + j = off + j / 4 * 4 + 3 by omega, k3]; exact hg.symm

theorem run_app_le {w : World} {base : Nat} {v : Value} {es r : List Le} {A : Option Addr} (c n : Nat) (ty : TypeId) (hn : n = r.length) (hown : OwR w base v es) (hr : Ll w A r)
    (hlen : es.length + r.length ≤ 1000000) (hbase : base ≤ w.heap.size) :
    ∃ v' w', (Builtin.append_ #[35, 35] ty #[v, .slice A n c]).run Try.prog w = .ok v' w' ∧ OwR w' base v' (es ++ r) ∧ w.grownBy w' v.ownBlock ∧
      (v'.ownBlock = v.ownBlock ∨ v'.ownBlock = some w.heap.size) := by
  subst hn
  obtain ⟨i, hi, hz, hs, hb⟩ := info_parts Try.infoLe
  have hin : ∀ l ∈ es ++ r, leIn l := fun l hl => (List.mem_append.1 hl).elim (hown.in_ l) (hr.in_ l)
  cases A with
  | none =>
    have h0 : r = [] := by
      cases r with
      | nil => rfl
      | cons x t => obtain ⟨b, off, _, e, _⟩ := hr 0 (by simp); cases e
    subst h0
    refine ⟨v, w, ?_, by simpa using hown, World.grownBy.refl w _, .inl rfl⟩
    rcases hown.row.2 with ⟨rfl, h1⟩ | ⟨g, cap, cur, rfl, _, _, hnc, _⟩
    · simp [Builtin.append_, run_underlying Try.underlying35, sizeOf, typeInfo, hi, Builtin.lenOf, Builtin.firstCells]
    · simp [Builtin.append_, run_underlying Try.underlying35, sizeOf, typeInfo, hi, Builtin.lenOf, Builtin.firstCells, hnc, storeCells]
  | some a =>
    have hcells : ∀ j u, (r.flatMap leCl)[j]? = some u → w.cell? (a.add j) = some u := by
      intro j u hu
      have hr0 : 0 < r.length := by
        rcases Nat.eq_zero_or_pos r.length with h | h
        · rw [List.eq_nil_of_length_eq_zero h] at hu; cases hu
        · exact h
      obtain ⟨b, off, _, _, _, _, e, _⟩ := hr.at_ 0 hr0
      cases e
      exact hr.cells j u hu
    obtain ⟨v', w', hrun, h2, h3, _, h5⟩ := run_append_own_at (P := Try.prog) w base 35 ty 43 i _ 4 32 Try.underlying35 hi hz hs hb rfl (by omega) v es.length (es.flatMap leCl) hown.row a r.length c (r.flatMap leCl)
      (leCl_flat r) hcells (leCl_one r) (by unfold maxLen; omega) (by omega) hbase
    refine ⟨v', w', hrun, ⟨?_, hin⟩, h3, h5⟩
    rw [List.length_append, List.flatMap_append]
    exact h2

theorem wpList_app_le {ops : Array Oper} {rest : List Oper} {o : Oper} {a : Act} {w : World} {Q : Exit → Act → World → Prop} (hgd : Region.wanted o (yielded ops a.tmps) = true) (s x : Operand)
    (ho : o.op = .call { callee := .builtin .append, args := #[s, x], argTypes := #[35, 35] })
    (base : Nat) (v : Value) (es r : List Le) (A : Option Addr) (n c : Nat) (hs : a.eval s = v) (hx : a.eval x = .slice A n c) (hn : n = r.length) (hown : OwR w base v es) (hr : Ll w A r)
    (hlen : es.length + r.length ≤ 1000000) (hbase : base ≤ w.heap.size)
    (h : ∀ v' w', OwR w' base v' (es ++ r) → w.grownBy w' v.ownBlock → (v'.ownBlock = v.ownBlock ∨ v'.ownBlock = some w.heap.size) → wpList Try.prog ops Q rest (a.put o.dst v') w') : wpList Try.prog ops Q (o :: rest) a w := by
  refine BigFrame.wpList_want hgd fun K hK => ?_
  obtain ⟨v', w', hrun, h2, h3, h4⟩ := run_app_le c n o.type hn hown hr hlen hbase
  unfold Oper.wp execOp
  simp only [ho, resolve, invoke, builtin, Sem.run_bind, Sem.run_pure, Result.andThen_ok, List.map_toArray, List.map_cons, List.map_nil, hs, hx, hrun]
  exact hK _ _ (h v' w' h2 h3 h4)

theorem step_app_le {w : World} {ops : Array Oper} {o : Oper} {a : Act} {K : Act → World → Prop} {Q : Exit → Act → World → Prop} {X : Prop} (hgd : o.guard = none) (s x : Operand)
    (ho : o.op = .call { callee := .builtin .append, args := #[s, x], argTypes := #[35, 35] })
    (base : Nat) (v : Value) (es r : List Le) (A : Option Addr) (n c : Nat) (hs : a.eval s = v) (hx : a.eval x = .slice A n c) (hn : n = r.length) (hown : OwR w base v es) (hr : Ll w A r)
    (hlen : es.length + r.length ≤ 1000000) (hbase : base ≤ w.heap.size)
    (h : ∀ v' w', OwR w' base v' (es ++ r) → w.grownBy w' v.ownBlock → (v'.ownBlock = v.ownBlock ∨ v'.ownBlock = some w.heap.size) → K (a.put o.dst v') w') :
    if Region.wanted o (yielded ops a.tmps) = true then Oper.wp Try.prog o a w K Q else X := by
  obtain ⟨v', w', hrun, h2, h3, h4⟩ := run_app_le c n o.type hn hown hr hlen hbase
  have hw : Region.wanted o (yielded ops a.tmps) = true := by simp [Region.wanted, hgd]
  rw [if_pos hw]
  unfold Oper.wp execOp
  simp only [ho, resolve, invoke, builtin, Sem.run_bind, Sem.run_pure, Result.andThen_ok, List.map_toArray, List.map_cons, List.map_nil, hs, hx, hrun]
  exact h v' w' h2 h3 h4

set_option maxHeartbeats 1000000 in
theorem cloneLe_some (a : Addr) (es : List Le) (n c : Nat) (w : World) (hn : n = es.length) (hl : es.length ≤ 1000000) (hA : Ll w (some a) es) :
    Calls Try.prog 81 #[.slice (some a) n c] w fun e w' => ∃ v, e = .returned v ∧ OwR w' w.heap.size v es ∧ Below w.heap.size w w' := by
  have q22 : ∀ (w : World) (a : Option Addr) (n c n' c' : Nat), (binOp .eql 35 (.slice a n c) (.slice none n' c')).run Try.prog w = .ok (.bool a.isNone) w := fun w a n c n' c' => Lib.run_eql_slice_nil w _ _ a n c n' c' Try.underlying35
  have hown0 := OwR.empty w
  have hal := (Below.refl w.heap.size w).alloc (Nat.le_refl _) (.cells #[] 43)
  have hA0 := hA.below hal
  go_enter Try.func81, Try.ntmps81
  go_wp2_with (at_builtin; go_must (refine wpList_app_le rfl _ _ rfl w.heap.size _ [] es (some a) n c rfl rfl hn hown0 hA0 ?c1 ?c2 ?_))
  case c1 => simp; omega
  case c2 => simp
  intro v4 w4 hown4 hg4 _
  have hb4 := hal.grown hg4 (by simp) (fun x hx => (World.ownsRow.lt hown0.row x hx).1)
  go_wp2
  go_ret
  exact ⟨_, rfl, hown4, hb4⟩

set_option maxHeartbeats 1000000 in
theorem cloneLe_any (A : Option Addr) (es : List Le) (n c : Nat) (w : World) (hn : n = es.length) (hl : es.length ≤ 1000000) (hA : Ll w A es) :
    Calls Try.prog 81 #[.slice A n c] w fun e w' => ∃ v, e = .returned v ∧ OwR w' w.heap.size v es ∧ Below w.heap.size w w' := by
  cases A with
  | some a => exact cloneLe_some a es n c w hn hl hA
  | none =>
    have h0 : es = [] := by
      cases es with
      | nil => rfl
      | cons x t => obtain ⟨b, off, _, e, _⟩ := hA 0 (by simp); cases e
    subst h0
    have q22 : ∀ (w : World) (a : Option Addr) (n c n' c' : Nat), (binOp .eql 35 (.slice a n c) (.slice none n' c')).run Try.prog w = .ok (.bool a.isNone) w := fun w a n c n' c' => Lib.run_eql_slice_nil w _ _ a n c n' c' Try.underlying35
    go_enter Try.func81, Try.ntmps81
    go_wp2
    go_ret
    exact ⟨_, rfl, OwR.nil w _, Below.refl _ _⟩
end Go.Proofs.Ytgpjjolgpppeeaa
